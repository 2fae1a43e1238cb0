/-
  The contracts of the program's functions, data in, data out. Conditions: those in the statements.
-/
import Derived.Test.YteodihbpnpgccaaH2
namespace Go.Proofs.Yteodihbpnpgccaa
set_option linter.all false
open Go Go.Proofs.Yteodihbpnpgccaa.Eng Go.RowKit
noncomputable section
theorem twV_le {m : List Int} (h : m.length ≤ 2100) : (twV m).length ≤ 2100 := by
  by_cases h0 : twE m = 0
  · rw [twV_len h0]; exact h
  · rw [(tw_no h0).2.2.2]; simp
theorem twH_le {m : List Int} (h : m.length ≤ 2100) : (twH m).length ≤ 2100 := by
  by_cases h0 : twE m = 0
  · rw [twH_0 h0]; exact Nat.le_trans (heN_le _ _ _) h
  · rw [twH_no h0]; simp
theorem eqr_b20 (a b a' b' : Bool) : eqArr Try.prog 27 [.bool a, .bool b] [.bool a', .bool b'] = some ((a == a') && ((b == b') && true)) := by kernel_rfl
theorem eqr_b2 (a b a' b' : Bool) : eqArr Try.prog 27 [.bool a, .bool b] [.bool a', .bool b'] = some (decide ((a, b) = (a', b'))) := by
  rw [eqr_b20]
  congr 1
  cases a <;> cases b <;> cases a' <;> cases b' <;> rfl
namespace X24910af
def XX := (And.intro (And.intro @tdiv8 (And.intro @tmod8 @toNatAddI)) (And.intro (And.intro @toNatSubI @takeAll) (And.intro @takeDropAll @getD_entC)))
def XN := @Nat.zero_add
def XR := (And.intro (And.intro @rBy.eq_1 @rSup.eq_1) (And.intro @supP_len (And.intro @rB2.eq_1 @rEn.eq_1)))
def XH := @Nat.zero_add
def XG := @Nat.zero_add
end X24910af
set_option maxHeartbeats 4000000 in
set_option maxRecDepth 10000 in
open X24910af in
theorem k_law07_TwinTells (m : List Int) (hm : ∀ x ∈ m, isU x) : Con Try.prog 4 [sN .u64 m] [rB true] := by
  refine con_of_awp hmix Try.func4 s4 rfl (by rw [n4]; simp) r4 n4 ?_
  simp only [Eng.start, startFr, inX, sN, vN, List.map_cons, List.map_nil, supA, supC, sEn, c4]
  (repeat' (first
    | (refine aCallF 15 ?_; apply aE3; exact k_ref02_Great _; exact flatA; refine aPost ?_)
    | refine aOp ?_
    | refine aOff1 ?_
    | refine aOff2 ?_
    | (refine aSplit ?_ ?_ <;> intro hsp)
    | (refine RegA.done ‹_› ?_; first | refine aKeep [0, 2, 3, 4, 5, 6, 7, 8, 9, 10, 11, 12, 13, 14, 15, 16, 17, 19] ?_ | skip)
    | refine awp_seq fun K hK => ?_
    | refine Awp.reg ?_
    | refine Awp.skip ?_
    | refine Awp.block ?_
    | refine Awp.scope ?_
    | refine aCt ?_
    | refine aCf ?_
    | (refine aCond ?_ ?_ <;> intro hsp)
    | (refine Awp.exit ?_; simp only [blockQ, thenQ, scopeQ, ↓reduceIte, Nat.reduceEqDiff])
    | (refine viaK ‹_› ?_; first | refine aKeep [0, 2, 3, 4, 5, 6, 7, 8, 9, 10, 11, 12, 13, 14, 15, 16, 17, 19] ?_ | skip)
    | simp only [thenQ_normal, blockQ_normal]))
  · (refine Awp.ret ?_; refine aRet ?_; (simp [-List.getD_eq_getElem?_getD, laxR, laxX, laxC, laxCs, rB, rN, rO, rBy, rSup, supP_len, rB2, rEn] <;> (intros; omega)))
  · have hv := twV_le (m := m) (by omega)
    have hh := twH_le (m := m) (by omega)
    (have XH := (And.intro (And.intro @eq_self.{1} @eqs_sup) (And.intro @sup_eta @eqr_b2)); have XG := (And.intro (And.intro (And.intro @List.take_succ_cons.{0} (And.intro @List.take_zero.{0} @List.take_nil.{0})) (And.intro (And.intro @List.length_cons.{0} @List.length_nil.{0}) (And.intro @Nat.zero_add @List.drop_succ_cons.{0}))) (And.intro (And.intro @List.drop_zero.{0} (And.intro @List.drop_nil.{0} @Nat.zero_mul)) (And.intro (And.intro @Nat.mul_one @List.nil_append.{0}) (And.intro @List.cons_append.{0} @List.append_nil.{0})))); (repeat' (first
        | (refine aCallF 15 ?_; apply aE3; exact k_ref02_Great _; exact flatA; refine aPost ?_)
        | (refine aCall 16 ?_; apply aE2; exact k_ref02_Twin _ (by omega); refine aPost ?_)
        | (refine aCall 10 ?_; apply aE2; exact k_twin_Read _ hm (by omega); refine aPost ?_)
        | (refine aCall 12 ?_; apply aE2; exact k_twin_View _ hm (by omega); refine aPost ?_)
        | (refine aCall 11 ?_; apply aE2; exact k_twin_Heal _ hm (by omega); refine aPost ?_)
        | (refine aCall 17 ?_; apply aE2; exact k_ref07_Read _ hm (by omega); refine aPost ?_)
        | (refine aCall 18 ?_; apply aE2; exact k_ref07_View _ hm (by omega); refine aPost ?_)
        | (refine aCall 19 ?_; apply aE2; exact k_ref07_Heal _ hm (by omega); refine aPost ?_)
        | (refine aCallF 13 ?_; apply aE3; exact k_ref02_Same _ _ (by first | omega | (simp; omega)) (by first | omega | (simp; omega)); exact flatA; refine aPost ?_)
        | (refine aCallF 20 ?_; apply aE3; exact k_ref07_Same _ _ (by omega) (by omega); exact flatA; refine aPost ?_)
        | refine aOp ?_
        | refine aOp2 ?_
        | refine aOff1 ?_
        | refine aOff2 ?_
        | (refine aSplit ?_ ?_ <;> intro hsp)
        | (refine RegA.done ‹_› ?_; first | refine aKeep [0, 2, 3, 4, 5, 6, 7, 8, 9, 10, 11, 12, 13, 14, 15, 16, 17, 19] ?_ | skip)
        | refine awp_seq fun K hK => ?_
        | refine Awp.reg ?_
        | refine Awp.skip ?_
        | refine Awp.block ?_
        | refine Awp.scope ?_
        | refine aCt ?_
        | refine aCf ?_
        | (refine aCond ?_ ?_ <;> intro hsp)
        | (refine Awp.exit ?_; simp only [blockQ, thenQ, scopeQ, ↓reduceIte, Nat.reduceEqDiff])
        | (refine viaK ‹_› ?_; first | refine aKeep [0, 2, 3, 4, 5, 6, 7, 8, 9, 10, 11, 12, 13, 14, 15, 16, 17, 19] ?_ | skip)
        | simp only [thenQ_normal, blockQ_normal])); all_goals (clear XH; clear XG))
    (refine Awp.ret ?_; refine aRet ?_; (simp [-List.getD_eq_getElem?_getD, laxR, laxX, laxC, laxCs, rB, rN, rO, rBy, rSup, supP_len, rB2, rEn] <;> (intros; omega)))
end
end Go.Proofs.Yteodihbpnpgccaa
