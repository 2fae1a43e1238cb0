/-
  The contracts of the program's functions, data in, data out. Conditions: those in the statements.
-/
import Derived.Test.YtmhnogmbpoeaeaaJ5
namespace Go.Proofs.Ytmhnogmbpoeaeaa
set_option linter.all false
open Go Go.Proofs.Ytmhnogmbpoeaeaa.Eng Go.RowKit
noncomputable section

theorem enWs_le {l : List Ent} {w : Int} (h : l.length ≤ 50) : (enWs l w).length ≤ 2100 := by
  by_cases h0 : enE l w = 0
  · rw [enWs_0 h0, lsT_len]; omega
  · rw [enWs_no h0]; simp
theorem apV_le {m : List Int} {l : List Ent} (h : m.length ≤ 2100) : (apV m l).length ≤ 2100 := by
  by_cases h0 : apE m l = 0
  · rw [apV_0 h0, apT_len]; exact h
  · rw [apV_no h0]; simp
theorem jrV_le (m : List Int) {n : Nat} (h : n ≤ 32) : (jrV m n).length ≤ 50 := by
  unfold jrV
  split
  · rw [jrI_len]; omega
  · simp
theorem rdL_le (m : List Int) (n : Int) : (rdL m n).length ≤ 50 := by
  by_cases h0 : rdE m n = 0
  · rw [rdL_0 h0]
    refine jrV_le m ?_
    unfold rdE at h0
    split at h0
    · split at h0
      · omega
      · omega
    · omega
  · rw [rdL_no h0]; simp
namespace X9f94ac5
def XX := (And.intro (And.intro (And.intro @tdiv8 (And.intro @tmod8 @toNatAddI)) (And.intro (And.intro @toNatSubI @takeAll) (And.intro @takeDropAll @getD_entC))) (And.intro (And.intro @List.all_cons.{0} (And.intro @List.all_nil.{0} @List.getElem?_cons_zero.{0})) (And.intro (And.intro @List.getElem?_cons_succ.{0} @Bool.and_self) (And.intro @List.cons_append.{0} @Nat.mul_one))))
def XN := @Nat.zero_add
def XR := (And.intro (And.intro @rBy.eq_1 @rSup.eq_1) (And.intro @supP_len (And.intro @rB2.eq_1 @rEn.eq_1)))
def XH := @Nat.zero_add
def XG := @Nat.zero_add
end X9f94ac5
set_option maxHeartbeats 4000000 in
set_option maxRecDepth 10000 in
open X9f94ac5 in
theorem k_law08_EntryChecks (l : List Ent) (a w : Int) : Con Try.prog 4 [sEn l, vN .i64 a, vN .i64 w] [rB true] := by
  refine con_of_awp hmix Try.func4 s4 rfl (by rw [n4]; simp) r4 n4 ?_
  simp only [Eng.start, startFr, inX, sN, vN, List.map_cons, List.map_nil, supA, supC, sEn, c4]
  (repeat' (first
    | (refine isR ?_; first | (refine isC ?_; first | (refine isF 17 ?_; first | (refine aCallF 17 ?_; apply aE3; exact k_ref08_Great _; exact flatA; refine aPost ?_)) | (refine isF 23 ?_; first | (refine aCallF 23 ?_; apply aE3; exact k_ref02_Great _; exact flatA; refine aPost ?_))) | refine aOp ?_ | refine aOff1 ?_ | refine aOff2 ?_ | (refine aSplit ?_ ?_ <;> intro hsp) | (refine RegA.done ‹_› ?_; first | refine aKeep [0, 1, 2, 6, 7, 8, 9, 10, 11, 12, 13, 14, 15, 17] ?_ | skip))
    | (refine isA ?_; first | refine awp_seq fun K hK => ?_ | refine Awp.reg ?_ | refine Awp.skip ?_ | refine Awp.block ?_ | refine Awp.scope ?_ | refine aCt ?_ | refine aCf ?_ | (refine aCond ?_ ?_ <;> intro hsp) | (refine Awp.exit ?_; simp only [blockQ, thenQ, scopeQ, ↓reduceIte, Nat.reduceEqDiff]))
    | (refine viaK ‹_› ?_; first | refine aKeep [0, 1, 2, 6, 7, 8, 9, 10, 11, 12, 13, 14, 15, 17] ?_ | skip)
    | simp only [thenQ_normal, blockQ_normal]))
  · (refine Awp.ret ?_; refine aRet ?_; (simp [-List.getD_eq_getElem?_getD, laxR, laxX, laxC, laxCs, rB, rN, rO, rBy, rSup, supP_len, rB2, rEn] <;> (intros; omega)))
  · have hv := enWs_le (l := l) (w := w) (by omega)
    (have XH := @eq_self.{1}; have XG := (And.intro (And.intro (And.intro @List.take_succ_cons.{0} (And.intro @List.take_zero.{0} @List.take_nil.{0})) (And.intro (And.intro @List.length_cons.{0} @List.length_nil.{0}) (And.intro @Nat.zero_add @List.drop_succ_cons.{0}))) (And.intro (And.intro @List.drop_zero.{0} (And.intro @List.drop_nil.{0} @Nat.zero_mul)) (And.intro (And.intro @Nat.mul_one @List.nil_append.{0}) (And.intro @List.cons_append.{0} @List.append_nil.{0})))); (repeat' (first
        | (refine isR ?_; first | (refine isC ?_; first | (refine isF 18 ?_; first | (refine aCall 18 ?_; apply aE2; exact k_ref08_Twin _ (by omega); refine aPost ?_)) | (refine isF 24 ?_; first | (refine aCall 24 ?_; apply aE2; exact k_ref02_Twin _ (by omega); refine aPost ?_)) | (refine isF 22 ?_; first | (refine aCallF 22 ?_; apply aE3; exact k_ref02_Same _ _ (by first | omega | (simp; omega)) (by first | omega | (simp; omega)); exact flatA; refine aPost ?_)) | (refine isF 15 ?_; first | (refine aCallF 15 ?_; apply aE3; exact k_ref07_Same _ _ (by omega) (by omega); exact flatA; refine aPost ?_)) | (refine isF 10 ?_; first | (refine aCallF 10 ?_; apply aE3; exact k_entry_May _ _; exact flatA; refine aPost ?_)) | (refine isF 12 ?_; first | (refine aCallF 12 ?_; apply aE3; exact k_entry_Check _ _ (by omega); exact flatA; refine aPost ?_)) | (refine isF 11 ?_; first | (refine aCall 11 ?_; apply aE2; exact k_entry_Words _ _ (by omega); refine aPost ?_)) | (refine isF 13 ?_; first | (refine aCall 13 ?_; apply aE2; exact k_entry_Apply _ _ (by omega) (by omega); refine aPost ?_)) | (refine isF 19 ?_; first | (refine aCallF 19 ?_; apply aE3; exact k_ref08_May _ _; exact flatA; refine aPost ?_)) | (refine isF 21 ?_; first | (refine aCallF 21 ?_; apply aE3; exact k_ref08_Check _ _; exact flatA; refine aPost ?_)) | (refine isF 20 ?_; first | (refine aCall 20 ?_; apply aE2; exact k_ref08_Words _ _ (by omega); refine aPost ?_)) | (refine isF 26 ?_; first | (refine aCall 26 ?_; apply aE2; exact k_ref08_Apply _ _ (by omega) (by omega); refine aPost ?_)) | (refine isF 14 ?_; first | (refine aCall 14 ?_; apply aE2; exact k_entry_Read _ hm _ (by omega); refine aPost ?_)) | (refine isF 25 ?_; first | (refine aCall 25 ?_; apply aE2; exact k_ref08_Read _ _ (by omega); refine aPost ?_))) | refine aOp ?_ | refine aOff1 ?_ | refine aOff2 ?_ | (refine aSplit ?_ ?_ <;> intro hsp) | (refine RegA.done ‹_› ?_; first | refine aKeep [0, 1, 2, 6, 7, 8, 9, 10, 11, 12, 13, 14, 15, 17] ?_ | skip))
        | (refine isA ?_; first | refine awp_seq fun K hK => ?_ | refine Awp.reg ?_ | refine Awp.skip ?_ | refine Awp.block ?_ | refine Awp.scope ?_ | refine aCt ?_ | refine aCf ?_ | (refine aCond ?_ ?_ <;> intro hsp) | (refine Awp.exit ?_; simp only [blockQ, thenQ, scopeQ, ↓reduceIte, Nat.reduceEqDiff]))
        | (refine viaK ‹_› ?_; first | refine aKeep [0, 1, 2, 6, 7, 8, 9, 10, 11, 12, 13, 14, 15, 17] ?_ | skip)
        | simp only [thenQ_normal, blockQ_normal])); all_goals (clear XH; clear XG))
    (refine Awp.ret ?_; refine aRet ?_; (simp [-List.getD_eq_getElem?_getD, laxR, laxX, laxC, laxCs, rB, rN, rO, rBy, rSup, supP_len, rB2, rEn] <;> (intros; omega)))
set_option maxHeartbeats 4000000 in
set_option maxRecDepth 10000 in
open X9f94ac5 in
theorem k_law08_EntryReads (m : List Int) (hm : ∀ x ∈ m, isU x) (n : Int) (l : List Ent) : Con Try.prog 5 [sN .u64 m, vN .i64 n, sEn l] [rB true] := by
  refine con_of_awp hmix Try.func5 s5 rfl (by rw [n5]; simp) r5 n5 ?_
  simp only [Eng.start, startFr, inX, sN, vN, List.map_cons, List.map_nil, supA, supC, sEn, c5]
  (repeat' (first
    | (refine isR ?_; first | (refine isC ?_; first | (refine isF 17 ?_; first | (refine aCallF 17 ?_; apply aE3; exact k_ref08_Great _; exact flatA; refine aPost ?_)) | (refine isF 23 ?_; first | (refine aCallF 23 ?_; apply aE3; exact k_ref02_Great _; exact flatA; refine aPost ?_))) | refine aOp ?_ | refine aOff1 ?_ | refine aOff2 ?_ | (refine aSplit ?_ ?_ <;> intro hsp) | (refine RegA.done ‹_› ?_; first | refine aKeep [0, 1, 2, 6, 7, 8, 9, 10, 11, 12, 13, 14, 15, 21] ?_ | skip))
    | (refine isA ?_; first | refine awp_seq fun K hK => ?_ | refine Awp.reg ?_ | refine Awp.skip ?_ | refine Awp.block ?_ | refine Awp.scope ?_ | refine aCt ?_ | refine aCf ?_ | (refine aCond ?_ ?_ <;> intro hsp) | (refine Awp.exit ?_; simp only [blockQ, thenQ, scopeQ, ↓reduceIte, Nat.reduceEqDiff]))
    | (refine viaK ‹_› ?_; first | refine aKeep [0, 1, 2, 6, 7, 8, 9, 10, 11, 12, 13, 14, 15, 21] ?_ | skip)
    | simp only [thenQ_normal, blockQ_normal]))
  · (refine Awp.ret ?_; refine aRet ?_; (simp [-List.getD_eq_getElem?_getD, laxR, laxX, laxC, laxCs, rB, rN, rO, rBy, rSup, supP_len, rB2, rEn] <;> (intros; omega)))
  · (refine Awp.ret ?_; refine aRet ?_; (simp [-List.getD_eq_getElem?_getD, laxR, laxX, laxC, laxCs, rB, rN, rO, rBy, rSup, supP_len, rB2, rEn] <;> (intros; omega)))
  · have hv := apV_le (m := m) (l := l) (by omega)
    have hr := rdL_le m n
    (have XH := @eq_self.{1}; have XG := (And.intro (And.intro (And.intro @List.take_succ_cons.{0} (And.intro @List.take_zero.{0} @List.take_nil.{0})) (And.intro (And.intro @List.length_cons.{0} @List.length_nil.{0}) (And.intro @Nat.zero_add @List.drop_succ_cons.{0}))) (And.intro (And.intro @List.drop_zero.{0} (And.intro @List.drop_nil.{0} @Nat.zero_mul)) (And.intro (And.intro @Nat.mul_one @List.nil_append.{0}) (And.intro @List.cons_append.{0} @List.append_nil.{0})))); (repeat' (first
        | (refine isR ?_; first | (refine isC ?_; first | (refine isF 18 ?_; first | (refine aCall 18 ?_; apply aE2; exact k_ref08_Twin _ (by omega); refine aPost ?_)) | (refine isF 24 ?_; first | (refine aCall 24 ?_; apply aE2; exact k_ref02_Twin _ (by omega); refine aPost ?_)) | (refine isF 22 ?_; first | (refine aCallF 22 ?_; apply aE3; exact k_ref02_Same _ _ (by first | omega | (simp; omega)) (by first | omega | (simp; omega)); exact flatA; refine aPost ?_)) | (refine isF 15 ?_; first | (refine aCallF 15 ?_; apply aE3; exact k_ref07_Same _ _ (by omega) (by omega); exact flatA; refine aPost ?_)) | (refine isF 10 ?_; first | (refine aCallF 10 ?_; apply aE3; exact k_entry_May _ _; exact flatA; refine aPost ?_)) | (refine isF 12 ?_; first | (refine aCallF 12 ?_; apply aE3; exact k_entry_Check _ _ (by omega); exact flatA; refine aPost ?_)) | (refine isF 11 ?_; first | (refine aCall 11 ?_; apply aE2; exact k_entry_Words _ _ (by omega); refine aPost ?_)) | (refine isF 13 ?_; first | (refine aCall 13 ?_; apply aE2; exact k_entry_Apply _ _ (by omega) (by omega); refine aPost ?_)) | (refine isF 19 ?_; first | (refine aCallF 19 ?_; apply aE3; exact k_ref08_May _ _; exact flatA; refine aPost ?_)) | (refine isF 21 ?_; first | (refine aCallF 21 ?_; apply aE3; exact k_ref08_Check _ _; exact flatA; refine aPost ?_)) | (refine isF 20 ?_; first | (refine aCall 20 ?_; apply aE2; exact k_ref08_Words _ _ (by omega); refine aPost ?_)) | (refine isF 26 ?_; first | (refine aCall 26 ?_; apply aE2; exact k_ref08_Apply _ _ (by omega) (by omega); refine aPost ?_)) | (refine isF 14 ?_; first | (refine aCall 14 ?_; apply aE2; exact k_entry_Read _ hm _ (by omega); refine aPost ?_)) | (refine isF 25 ?_; first | (refine aCall 25 ?_; apply aE2; exact k_ref08_Read _ _ (by omega); refine aPost ?_))) | refine aOp ?_ | refine aOff1 ?_ | refine aOff2 ?_ | (refine aSplit ?_ ?_ <;> intro hsp) | (refine RegA.done ‹_› ?_; first | refine aKeep [0, 1, 2, 6, 7, 8, 9, 10, 11, 12, 13, 14, 15, 21] ?_ | skip))
        | (refine isA ?_; first | refine awp_seq fun K hK => ?_ | refine Awp.reg ?_ | refine Awp.skip ?_ | refine Awp.block ?_ | refine Awp.scope ?_ | refine aCt ?_ | refine aCf ?_ | (refine aCond ?_ ?_ <;> intro hsp) | (refine Awp.exit ?_; simp only [blockQ, thenQ, scopeQ, ↓reduceIte, Nat.reduceEqDiff]))
        | (refine viaK ‹_› ?_; first | refine aKeep [0, 1, 2, 6, 7, 8, 9, 10, 11, 12, 13, 14, 15, 21] ?_ | skip)
        | simp only [thenQ_normal, blockQ_normal])); all_goals (clear XH; clear XG))
    (refine Awp.ret ?_; refine aRet ?_; (simp [-List.getD_eq_getElem?_getD, laxR, laxX, laxC, laxCs, rB, rN, rO, rBy, rSup, supP_len, rB2, rEn] <;> (intros; omega)))
end
end Go.Proofs.Ytmhnogmbpoeaeaa
