/-
  The contracts of the program's functions, data in, data out. Conditions: those in the statements.
-/
import Derived.Test.YteodihbpnpgccaaH8
namespace Go.Proofs.Yteodihbpnpgccaa
set_option linter.all false
open Go Go.Proofs.Yteodihbpnpgccaa.Eng Go.RowKit
noncomputable section
theorem put_one {m : List Int} {a : Int} (w : Int) (h : getE m.length a ([w].length : Int) = 0) (h16 : 16 ≤ a) : (putL m a [w]).length = m.length ∧ (putL m a [w]).take 16 = m.take 16 := by
  have h1 := getE_is h
  have h2 : (([w].length : Nat) : Int) = 1 := rfl
  rw [putL_0 h]
  refine ⟨?_, ?_⟩
  · simp only [List.length_append, List.length_take, List.length_drop, List.length_cons, List.length_nil]
    rw [h2] at h1
    omega
  · rw [List.take_append_of_le_length (by rw [List.length_take]; omega), List.take_take, Nat.min_eq_left (by omega)]
theorem put_U {m l : List Int} (hm : ∀ x ∈ m, isU x) (hl : ∀ x ∈ l, isU x) (a : Int) : ∀ x ∈ putL m a l, isU x := by
  unfold putL
  intro x hx
  split at hx
  · rcases List.mem_append.1 hx with h | h
    · exact hm x (List.mem_of_mem_take h)
    · rcases List.mem_append.1 h with h | h
      · exact hl x h
      · exact hm x (List.mem_of_mem_drop h)
  · cases hx
namespace Xc272d63
def XX := (And.intro (And.intro @tdiv8 (And.intro @tmod8 @toNatAddI)) (And.intro (And.intro @toNatSubI @takeAll) (And.intro @takeDropAll @getD_entC)))
def XN := @Nat.zero_add
def XR := (And.intro (And.intro @rBy.eq_1 @rSup.eq_1) (And.intro @supP_len (And.intro @rB2.eq_1 @rEn.eq_1)))
def XH := @Nat.zero_add
def XG := @Nat.zero_add
end Xc272d63
set_option maxHeartbeats 4000000 in
set_option maxRecDepth 10000 in
open Xc272d63 in
theorem k_law07_TwinApart (m : List Int) (a w : Int) (hm : ∀ x ∈ m, isU x) (hw : isU w) : Con Try.prog 7 [sN .u64 m, vN .i64 a, vN .u64 w] [rB true] := by
  refine con_of_awp hmix Try.func7 s7 rfl (by rw [n7]; simp) r7 n7 ?_
  simp only [Eng.start, startFr, inX, sN, vN, List.map_cons, List.map_nil, supA, supC, sEn, c7]
  (repeat' (first
    | (refine aCallF 25 ?_; apply aE3; exact k_ref02_Check _; exact flatA; refine aPost ?_)
    | (refine aCallF 14 ?_; apply aE3; exact k_alive7; exact flatA; refine aPost ?_)
    | refine aOp ?_
    | refine aOff1 ?_
    | refine aOff2 ?_
    | (refine aSplit ?_ ?_ <;> intro hsp)
    | (refine RegA.done ‹_› ?_; first | refine aKeep [0, 1, 2, 6, 7, 8, 9, 10, 11, 12, 13, 14, 15, 16, 17, 18, 31] ?_ | skip)
    | refine awp_seq fun K hK => ?_
    | refine Awp.reg ?_
    | refine Awp.skip ?_
    | refine Awp.block ?_
    | refine Awp.scope ?_
    | refine aCt ?_
    | refine aCf ?_
    | (refine aCond ?_ ?_ <;> intro hsp)
    | (refine Awp.exit ?_; simp only [blockQ, thenQ, scopeQ, ↓reduceIte, Nat.reduceEqDiff])
    | (refine viaK ‹_› ?_; first | refine aKeep [0, 1, 2, 6, 7, 8, 9, 10, 11, 12, 13, 14, 15, 16, 17, 18, 31] ?_ | skip)
    | simp only [thenQ_normal, blockQ_normal]))
  · (refine Awp.ret ?_; refine aRet ?_; (simp [-List.getD_eq_getElem?_getD, laxR, laxX, laxC, laxCs, rB, rN, rO, rBy, rSup, supP_len, rB2, rEn] <;> (intros; omega)))
  · (refine Awp.ret ?_; refine aRet ?_; (simp [-List.getD_eq_getElem?_getD, laxR, laxX, laxC, laxCs, rB, rN, rO, rBy, rSup, supP_len, rB2, rEn] <;> (intros; omega)))
  · (refine Awp.ret ?_; refine aRet ?_; (simp [-List.getD_eq_getElem?_getD, laxR, laxX, laxC, laxCs, rB, rN, rO, rBy, rSup, supP_len, rB2, rEn] <;> (intros; omega)))
  · have hl := chk_le ‹chk m.length = 0›
    have e0 : getE m.length a ((1 : Nat) : Int) = 0 := getE_0 ‹chk m.length = 0› (by omega) (by omega) (by omega)
    have hx := put_U hm (l := [w]) (fun x h => by rw [List.mem_singleton.1 h]; exact hw) a
    obtain ⟨hxl, hxt⟩ := put_one w e0 (by omega)
    obtain ⟨e1, e2, e3, e4, e5⟩ := tw_same hxl hxt
    have hh := twH_le (m := m) (by omega)
    (have XH := (And.intro (And.intro @eq_self.{1} @eqs_sup) (And.intro @sup_eta (And.intro @eqr_b2 @hxl))); have XG := (And.intro (And.intro (And.intro (And.intro @List.take_succ_cons.{0} @List.take_zero.{0}) (And.intro @List.take_nil.{0} (And.intro @List.length_cons.{0} @List.length_nil.{0}))) (And.intro (And.intro @Nat.zero_add @List.drop_succ_cons.{0}) (And.intro @List.drop_zero.{0} (And.intro @List.drop_nil.{0} @Nat.zero_mul)))) (And.intro (And.intro (And.intro @Nat.mul_one @List.nil_append.{0}) (And.intro @List.cons_append.{0} (And.intro @List.append_nil.{0} @e0))) (And.intro (And.intro @e1 (And.intro @e2 @e3)) (And.intro @e4 (And.intro @e5 @hxl))))); (repeat' (first
        | (refine aCall 22 ?_; apply aE2; exact k_image_Put m a [w] (by omega) (by simp) (by omega); refine aPost ?_)
        | (refine aCall 10 ?_; apply aE2; exact k_twin_Read m hm (by omega); refine aPost ?_)
        | (refine aCall 10 ?_; apply aE2; exact k_twin_Read (putL m a [w]) hx (by omega); refine aPost ?_)
        | (refine aCall 11 ?_; apply aE2; exact k_twin_Heal m hm (by omega); refine aPost ?_)
        | (refine aCall 11 ?_; apply aE2; exact k_twin_Heal (putL m a [w]) hx (by omega); refine aPost ?_)
        | (refine aCallF 20 ?_; apply aE3; exact k_ref07_Same _ _ (by omega) (by omega); exact flatA; refine aPost ?_)
        | (refine aCallF 14 ?_; apply aE3; exact k_alive7; exact flatA; refine aPost ?_)
        | refine aOp ?_
        | refine aOp2 ?_
        | refine aOff1 ?_
        | refine aOff2 ?_
        | (refine aSplit ?_ ?_ <;> intro hsp)
        | (refine RegA.done ‹_› ?_; first | refine aKeep [0, 1, 2, 6, 7, 8, 9, 10, 11, 12, 13, 14, 15, 16, 17, 18, 31] ?_ | skip)
        | refine awp_seq fun K hK => ?_
        | refine Awp.reg ?_
        | refine Awp.skip ?_
        | refine Awp.block ?_
        | refine Awp.scope ?_
        | refine aCt ?_
        | refine aCf ?_
        | (refine aCond ?_ ?_ <;> intro hsp)
        | (refine Awp.exit ?_; simp only [blockQ, thenQ, scopeQ, ↓reduceIte, Nat.reduceEqDiff])
        | (refine viaK ‹_› ?_; first | refine aKeep [0, 1, 2, 6, 7, 8, 9, 10, 11, 12, 13, 14, 15, 16, 17, 18, 31] ?_ | skip)
        | simp only [thenQ_normal, blockQ_normal])); all_goals (clear XH; clear XG))
    (refine Awp.ret ?_; refine aRet ?_; (simp [-List.getD_eq_getElem?_getD, laxR, laxX, laxC, laxCs, rB, rN, rO, rBy, rSup, supP_len, rB2, rEn] <;> (intros; omega)))
end
end Go.Proofs.Yteodihbpnpgccaa
