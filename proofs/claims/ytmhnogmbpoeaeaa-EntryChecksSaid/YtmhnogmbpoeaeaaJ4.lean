/-
  The contracts of the program's functions, data in, data out. Conditions: those in the statements.
-/
import Derived.Test.YtmhnogmbpoeaeaaJ3
namespace Go.Proofs.Ytmhnogmbpoeaeaa
set_option linter.all false
open Go Go.Proofs.Ytmhnogmbpoeaeaa.Eng Go.RowKit
noncomputable section

theorem jr_tri {m : List Int} {n i : Nat} (h : i ≤ n) :
    (i < n ∧ decide ((i : Int) < (n : Int)) = true ∧ decide ((m.length : Int) ≤ m.getD (32 + 2 * i) 0) = true) ∨ (i < n ∧ decide ((i : Int) < (n : Int)) = true ∧ decide ((m.length : Int) ≤ m.getD (32 + 2 * i) 0) = false) ∨ (i = n ∧ decide ((i : Int) < (n : Int)) = false ∧ rg 2 (jrI m i) = 2) ∨ (i = n ∧ decide ((i : Int) < (n : Int)) = false ∧ jrI m i = []) := by
  rcases Nat.lt_or_ge i n with h1 | h1
  · rcases Decidable.em ((m.length : Int) ≤ m.getD (32 + 2 * i) 0) with h2 | h2
    · exact .inl ⟨h1, decide_eq_true (by omega), decide_eq_true h2⟩
    · exact .inr (.inl ⟨h1, decide_eq_true (by omega), decide_eq_false h2⟩)
  · rcases rg_or' 2 (jrI m i) with h2 | h2
    · exact .inr (.inr (.inl ⟨by omega, decide_eq_false (by omega), h2⟩))
    · exact .inr (.inr (.inr ⟨by omega, decide_eq_false (by omega), h2⟩))
theorem u64_len (m : List Int) (h : m.length ≤ 1000000) : IntKind.u64.wrap (m.length : Int) = (m.length : Int) := by rw [u64w]; omega
namespace X96982c7
def XX := (And.intro (And.intro (And.intro @tdiv8 (And.intro @tmod8 @toNatAddI)) (And.intro (And.intro @toNatSubI @takeAll) (And.intro @takeDropAll @getD_entC))) (And.intro (And.intro @List.all_cons.{0} (And.intro @List.all_nil.{0} @List.getElem?_cons_zero.{0})) (And.intro (And.intro @List.getElem?_cons_succ.{0} @Bool.and_self) (And.intro @List.cons_append.{0} @Nat.mul_one))))
def XN := @Nat.zero_add
def XR := (And.intro (And.intro @rBy.eq_1 @rSup.eq_1) (And.intro @supP_len (And.intro @rB2.eq_1 @rEn.eq_1)))
def XH := @Nat.zero_add
def XG := @Nat.zero_add
end X96982c7
set_option maxHeartbeats 4000000 in
set_option maxRecDepth 10000 in
open X96982c7 in
theorem k_ref08_Journal (m : List Int) (n : Nat) (hn : n ≤ 32) (hm : chk m.length = 0) : Con Try.prog 39 [sN .u64 m, vN .i64 (n : Int)] [rEn (jrV m n), rB (jrB m n)] := by
  have hl := chk_le hm
  refine con_of_awp hmix Try.func39 s39 rfl (by rw [n39]; simp) r39 n39 ?_
  simp only [Eng.start, startFr, inX, sN, vN, List.map_cons, List.map_nil, supA, supC, sEn, c39]
  (repeat' (first
    | (refine isR ?_; first | refine aOp ?_ | refine aOff1 ?_ | refine aOff2 ?_ | (refine aSplit ?_ ?_ <;> intro hsp) | (refine RegA.done ‹_› ?_; first | refine aKeep [0, 1, 4, 5, 6, 7, 8, 11, 24] ?_ | skip))
    | (refine isA ?_; first | refine awp_seq fun K hK => ?_ | refine Awp.reg ?_ | refine Awp.skip ?_ | refine Awp.block ?_ | refine Awp.scope ?_ | refine aCt ?_ | refine aCf ?_ | (refine aCond ?_ ?_ <;> intro hsp) | (refine Awp.exit ?_; simp only [blockQ, thenQ, scopeQ, ↓reduceIte, Nat.reduceEqDiff]))
    | (refine viaK ‹_› ?_; first | refine aKeep [0, 1, 4, 5, 6, 7, 8, 11, 24] ?_ | skip)
    | simp only [thenQ_normal, blockQ_normal]))
  refine Awp.loopK (α := {i : Nat // i ≤ n ∧ jrTo m i}) (fun x => [(4, one (.own 0 0)), (5, vv (.bool false)), (7, vv (.int .i64 (x.1 : Int))), (6, one (.own 1 (jrI m x.1).length))]) (fun x => [(1, .row (rg 2 (jrI m x.1)) ((jrI m x.1).map entC) false)]) [0, 1] [0] (fun x => n - x.1) ⟨0, by omega, fun j hj => absurd hj (by omega)⟩ [] (by simp only [List.filterMap_cons, List.filterMap_nil, lk_nil, lk_cons, ↓reduceIte, Nat.reduceEqDiff, Option.map_some, Option.map_none]; rfl) (by simp only [List.filterMap_cons, List.filterMap_nil, lk_nil, lk_cons, ↓reduceIte, Nat.reduceEqDiff, Option.map_some, Option.map_none]; rfl) rfl rfl ?_ ?_
  · simp only [Wk, frIn, hpIn, lk_nil, lk_cons, renV, renX, renC, belV, belX, belC, belL, belB, List.cons_append, List.nil_append, ↓reduceIte, Nat.reduceEqDiff, and_self, and_true, true_and] <;> simp [-List.getD_eq_getElem?_getD, vv, one, renV, renX, renC, belV, belX, belC, belL, belB, rho, renO, belO, lk_nil, lk_cons, rg_nil, jrI_zero]
  · rintro ⟨i, hi, ho⟩
    have hcl := jrI_len m i
    dsimp only
    simp only [vv, one, List.cons_append, List.nil_append]
    rcases jr_tri (m := m) hi with ⟨hi1, e0, hf⟩ | ⟨hi1, e0, hf⟩ | ⟨hi1, e0, hf⟩ | ⟨hi1, e0, hf⟩ <;>
    (have XH := (And.intro (And.intro (And.intro @e0 @hf) (And.intro @rg_nil (@rg_or Ent))) (And.intro (And.intro @List.length_append.{0} @tn32) (And.intro @tn33 (u64_len m (by omega))))); have XG := (And.intro (And.intro (And.intro (And.intro @ent_snoc @e0) (And.intro @tn32 @tn33)) (And.intro (And.intro @List.take_succ_cons.{0} @List.take_zero.{0}) (And.intro @List.take_nil.{0} (And.intro @List.length_cons.{0} @List.length_nil.{0})))) (And.intro (And.intro (And.intro @Nat.zero_add @List.drop_succ_cons.{0}) (And.intro @List.drop_zero.{0} @List.drop_nil.{0})) (And.intro (And.intro @Nat.zero_mul @Nat.mul_one) (And.intro @List.nil_append.{0} (And.intro @List.cons_append.{0} @List.append_nil.{0}))))); (repeat' (first
      | (refine isR ?_; first | (refine isC ?_; first | (refine isF 21 ?_; first | (refine aCallF 21 ?_; apply aE3; exact k_ref08_Check _ _; exact flatA; refine aPost ?_) | (refine aCallL 21 false ?_; apply aE4; exact k_ref08_Check [] (m.length : Int); (focus (first | exact laxAs_refl _ | (simp [laxAs, laxA, laxDs, laxD, emptyD, vN, sN, supA, supC, sEn]; done))); (exact .inr flatA); refine aPost ?_))) | refine aOp ?_ | refine aOff1 ?_ | refine aOff2 ?_ | (refine aSplit ?_ ?_ <;> intro hsp) | (refine RegA.done ‹_› ?_; first | refine aKeep [0, 1, 4, 5, 6, 7, 8, 11, 24] ?_ | skip))
      | (refine isA ?_; first | refine awp_seq fun K hK => ?_ | refine Awp.reg ?_ | refine Awp.skip ?_ | refine Awp.block ?_ | refine Awp.scope ?_ | refine aCt ?_ | refine aCf ?_ | (refine aCond ?_ ?_ <;> intro hsp) | (refine Awp.exit ?_; simp only [blockQ, thenQ, scopeQ, ↓reduceIte, Nat.reduceEqDiff]))
      | (refine viaK ‹_› ?_; first | refine aKeep [0, 1, 4, 5, 6, 7, 8, 11, 24] ?_ | skip)
      | simp only [thenQ_normal, blockQ_normal])); all_goals (clear XH; clear XG))
    · have hx := of_decide_eq_true hf
      obtain ⟨e1, e2⟩ := jr_bad hi1 hx
      (refine Awp.ret ?_; refine aRet ?_; (simp [-List.getD_eq_getElem?_getD, laxR, laxX, laxC, laxCs, rB, rN, rO, rBy, rSup, supP_len, rB2, rEn, e1, e2, rEn]))
    · have hx := of_decide_eq_false hf
      have e3 := jrI_succ m i
      have e4 := rg_snoc 2 (jrI m i) ⟨IntKind.i64.wrap (m.getD (32 + 2 * i) 0), m.getD (33 + 2 * i) 0⟩
      refine RegA.nil ⟨⟨i + 1, by omega, jrTo_succ ho (by omega)⟩, [], ?_, ?_⟩
      · simp only [Wk, frIn, hpIn, lk_nil, lk_cons, renV, renX, renC, belV, belX, belC, belL, belB, List.cons_append, List.nil_append, ↓reduceIte, Nat.reduceEqDiff, and_self, and_true, true_and] <;> simp [-List.getD_eq_getElem?_getD, vv, one, renV, renX, renC, belV, belX, belC, belL, belB, rho, renO, belO, lk_nil, lk_cons, ← e3, e4]
      · (simp only []; omega)
    · subst hi1
      obtain ⟨e1, e2⟩ := jr_good ho
      (refine Awp.ret ?_; refine aRet ?_; (simp [-List.getD_eq_getElem?_getD, laxR, laxX, laxC, laxCs, rB, rN, rO, rBy, rSup, supP_len, rB2, rEn, e1, e2, hf, rEn]))
    · subst hi1
      obtain ⟨e1, e2⟩ := jr_good ho
      simp only [hf, rg_nil, List.map_nil, List.length_nil]
      (refine Awp.ret ?_; refine aRet ?_; (simp [-List.getD_eq_getElem?_getD, laxR, laxX, laxC, laxCs, rB, rN, rO, rBy, rSup, supP_len, rB2, rEn, e1, e2, hf, rg_nil, rEn]))
theorem k_ref08_JournalI (m : List Int) (n : Int) (h0 : 0 ≤ n) (h1 : n ≤ 32) (hm : chk m.length = 0) : Con Try.prog 39 [sN .u64 m, vN .i64 n] [rEn (jrV m n.toNat), rB (jrB m n.toNat)] := by
  have h := k_ref08_Journal m n.toNat (by omega) hm
  rw [show ((n.toNat : Nat) : Int) = n by omega] at h
  exact h
set_option maxHeartbeats 4000000 in
set_option maxRecDepth 10000 in
open X96982c7 in
theorem k_ref08_Read (m : List Int) (n : Int) (hn : m.length ≤ 1000000) : Con Try.prog 25 [sN .u64 m, vN .i64 n] [rEn (rdL m n), rN .i64 (rdE m n)] := by
  refine con_of_awp hmix Try.func25 s25 rfl (by rw [n25]; simp) r25 n25 ?_
  simp only [Eng.start, startFr, inX, sN, vN, List.map_cons, List.map_nil, supA, supC, sEn, c25]
  (repeat' (first
    | (refine isR ?_; first | (refine isC ?_; first | (refine isF 27 ?_; first | (refine aCallF 27 ?_; apply aE3; exact k_ref02_Check _; exact flatA; refine aPost ?_)) | (refine isF 39 ?_; first | (refine aCall 39 ?_; apply aE2; exact k_ref08_JournalI _ n (by omega) (by omega) ‹chk m.length = 0›; refine aPost ?_))) | refine aOp ?_ | refine aOff1 ?_ | refine aOff2 ?_ | (refine aSplit ?_ ?_ <;> intro hsp) | (refine RegA.done ‹_› ?_; first | refine aKeep [0, 1, 4, 5, 6, 7, 10, 16, 24] ?_ | skip))
    | (refine isA ?_; first | refine awp_seq fun K hK => ?_ | refine Awp.reg ?_ | refine Awp.skip ?_ | refine Awp.block ?_ | refine Awp.scope ?_ | refine aCt ?_ | refine aCf ?_ | (refine aCond ?_ ?_ <;> intro hsp) | (refine Awp.exit ?_; simp only [blockQ, thenQ, scopeQ, ↓reduceIte, Nat.reduceEqDiff]))
    | (refine viaK ‹_› ?_; first | refine aKeep [0, 1, 4, 5, 6, 7, 10, 16, 24] ?_ | skip)
    | simp only [thenQ_normal, blockQ_normal]))
  all_goals first
  | (focus (
    exact absurd ‹jrB m n.toNat = true› (by rw [‹jrB m n.toNat = false›]; decide)))
  | (focus (
    have e := rdE_8 (m := m) n ‹¬ chk m.length = 0›
    have e2 := rdL_no (m := m) (n := n) (by omega)
    (refine Awp.ret ?_; refine aRet ?_; (simp [-List.getD_eq_getElem?_getD, laxR, laxX, laxC, laxCs, rB, rN, rO, rBy, rSup, supP_len, rB2, rEn, e, e2, rEn]))))
  | (focus (
    have e := rdE_2 (m := m) (n := n) ‹chk m.length = 0› (by omega)
    have e2 := rdL_no (m := m) (n := n) (by omega)
    (refine Awp.ret ?_; refine aRet ?_; (simp [-List.getD_eq_getElem?_getD, laxR, laxX, laxC, laxCs, rB, rN, rO, rBy, rSup, supP_len, rB2, rEn, e, e2, rEn]))))
  | (focus (
    have e := rdE_50 (m := m) (n := n) ‹chk m.length = 0› (by omega) ‹jrB m n.toNat = false›
    have e2 := rdL_no (m := m) (n := n) (by omega)
    (refine Awp.ret ?_; refine aRet ?_; (simp [-List.getD_eq_getElem?_getD, laxR, laxX, laxC, laxCs, rB, rN, rO, rBy, rSup, supP_len, rB2, rEn, e, e2, rEn]))))
  | (focus (
    have e := rdE_0 (m := m) (n := n) ‹chk m.length = 0› (by omega) ‹jrB m n.toNat = true›
    have e2 := rdL_0 (m := m) (n := n) (by omega)
    (refine Awp.ret ?_; refine aRet ?_; (simp [-List.getD_eq_getElem?_getD, laxR, laxX, laxC, laxCs, rB, rN, rO, rBy, rSup, supP_len, rB2, rEn, e, e2, rEn]))))
end
end Go.Proofs.Ytmhnogmbpoeaeaa
