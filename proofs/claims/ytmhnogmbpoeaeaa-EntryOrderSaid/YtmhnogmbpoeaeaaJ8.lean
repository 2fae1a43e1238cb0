/-
  The contracts of the program's functions, data in, data out. Conditions: those in the statements.
-/
import Derived.Test.YtmhnogmbpoeaeaaJ7
namespace Go.Proofs.Ytmhnogmbpoeaeaa
set_option linter.all false
open Go Go.Proofs.Ytmhnogmbpoeaeaa.Eng Go.RowKit
noncomputable section

theorem hz0 : decide (((0 : Nat) : Int) = 0) = true := rfl
theorem rd_err {m : List Int} {n : Int} (h0 : chk m.length = 0) (h1 : 0 ≤ n) (h2 : n ≤ 32) (h : ¬ rdE m n = 0) : rdE m n = 50 ∧ rdL m n = [] ∧ 0 < n := by
  have hl := rdL_no h
  cases hb : jrB m n.toNat with
  | true => exact absurd (rdE_0 h0 ⟨h1, h2⟩ hb) h
  | false =>
    refine ⟨rdE_50 h0 ⟨h1, h2⟩ hb, hl, ?_⟩
    rcases Int.lt_or_eq_of_le h1 with h3 | h3
    · exact h3
    · exfalso
      subst h3
      have hg := (jr_good (m := m) (n := 0) (fun j hj => absurd hj (by omega))).2
      rw [jrI_zero, enE_0 ((chk_sz _).1 h0) (by simp) (fun j hj => absurd hj (by simp))] at hg
      rw [show (0 : Int).toNat = 0 from rfl, hg] at hb
      exact absurd hb (by decide)
theorem rd_is {m : List Int} {n : Int} (h : rdE m n = 0) : chk m.length = 0 ∧ (0 ≤ n ∧ n ≤ 32) ∧ jrTo m n.toNat ∧ enE (jrI m n.toNat) m.length = 0 ∧ rdL m n = jrI m n.toNat := by
  have hl := rdL_0 h
  unfold rdE at h
  split at h
  · rename_i h0
    split at h
    · rename_i h1
      split at h
      · rename_i h2
        unfold jrB at h2
        rw [Bool.and_eq_true] at h2
        have h3 := jrA_iff.1 h2.1
        exact ⟨h0, h1, h3, of_decide_eq_true h2.2, by rw [hl, (jr_good h3).1]⟩
      · omega
    · omega
  · omega
theorem ui_wrap {a : Int} (h : isU a) (h2 : a < 2049) : IntKind.u64.wrap (IntKind.i64.wrap a) = a := by
  unfold isU at h
  have e : IntKind.i64.wrap a = a := by simp [IntKind.wrap, IntKind.bits, IntKind.signed]; omega
  rw [e, u64w]; omega
theorem lsT_flat (l : List Ent) : lsT l = l.flatMap fun e => [IntKind.u64.wrap e.at_, e.v] := by
  unfold lsT lsI
  rw [List.take_length]
theorem jr_words {m : List Int} (hm : ∀ x ∈ m, isU x) (hl : m.length ≤ 2048) : ∀ {n : Nat}, jrTo m n → 32 + 2 * n ≤ m.length → lsT (jrI m n) = (m.drop 32).take (2 * n)
  | 0, _, _ => by rw [jrI_zero, lsT_flat]; rfl
  | n + 1, ho, h => by
    have ih := jr_words hm hl (n := n) (fun j hj => ho j (by omega)) (by omega)
    have ha := ho n (by omega)
    have e1 : m.getD (32 + 2 * n) 0 = m[32 + 2 * n]'(by omega) := by simp [List.getD, show 32 + 2 * n < m.length by omega]
    have e2 : m.getD (33 + 2 * n) 0 = m[33 + 2 * n]'(by omega) := by simp [List.getD, show 33 + 2 * n < m.length by omega]
    have hu : isU (m.getD (32 + 2 * n) 0) := by rw [e1]; exact hm _ (List.getElem_mem _)
    rw [lsT_flat] at ih ⊢
    rw [← jrI_succ, List.flatMap_append, ih, show 2 * (n + 1) = 2 * n + 1 + 1 by omega, List.take_add_one, List.take_add_one, List.getElem?_drop, List.getElem?_drop, List.getElem?_eq_getElem (by omega), List.getElem?_eq_getElem (by omega)]
    simp only [List.flatMap_cons, List.flatMap_nil, List.append_nil, Option.toList_some, List.append_assoc, List.cons_append, List.nil_append]
    rw [ui_wrap hu (by omega), e1, e2]
    simp only [show 32 + (2 * n + 1) = 33 + 2 * n by omega]
theorem rd_words {m : List Int} {n : Int} (hm : ∀ x ∈ m, isU x) (h : rdE m n = 0) : enWs (rdL m n) m.length = getL m 32 (2 * n) ∧ enE (rdL m n) m.length = 0 ∧ getE m.length 32 (2 * n) = 0 ∧ ((rdL m n).length : Int) = n ∧ (getL m 32 (2 * n)).length ≤ 64 := by
  obtain ⟨h0, h1, h2, h3, h4⟩ := rd_is h
  have hl := chk_le h0
  have hg : getE m.length 32 (2 * n) = 0 := getE_0 h0 (by omega) (by omega) (by omega)
  refine ⟨?_, by rw [h4]; exact h3, hg, by rw [h4, jrI_len]; omega, ?_⟩
  · rw [h4, enWs_0 h3, getL_0 hg, jr_words hm (by omega) h2 (by omega)]
    congr 1
    omega
  · rw [getL_0 hg]
    refine Nat.le_trans (List.length_take_le _ _) (by omega)
namespace Xe8ba5e9
def XX := (And.intro (And.intro (And.intro @tdiv8 (And.intro @tmod8 @toNatAddI)) (And.intro (And.intro @toNatSubI @takeAll) (And.intro @takeDropAll @getD_entC))) (And.intro (And.intro @List.all_cons.{0} (And.intro @List.all_nil.{0} @List.getElem?_cons_zero.{0})) (And.intro (And.intro @List.getElem?_cons_succ.{0} @Bool.and_self) (And.intro @List.cons_append.{0} @Nat.mul_one))))
def XN := @Nat.zero_add
def XR := (And.intro (And.intro @rBy.eq_1 @rSup.eq_1) (And.intro @supP_len (And.intro @rB2.eq_1 @rEn.eq_1)))
def XH := @Nat.zero_add
def XG := @Nat.zero_add
end Xe8ba5e9
set_option maxHeartbeats 4000000 in
set_option maxRecDepth 10000 in
open Xe8ba5e9 in
theorem k_OnceC (m : List Int) (hm : ∀ x ∈ m, isU x) (n : Int) (h : ¬ (chk m.length = 0 ∧ 0 ≤ n ∧ n ≤ 32)) : Con Try.prog 9 [sN .u64 m, vN .i64 n] [rB true] := by
  refine con_of_awp hmix Try.func9 s9 rfl (by rw [n9]; simp) r9 n9 ?_
  simp only [Eng.start, startFr, inX, sN, vN, List.map_cons, List.map_nil, supA, supC, sEn, c9]
  (repeat' (first
    | (refine isR ?_; first | (refine isC ?_; first | (refine isF 27 ?_; first | (refine aCallF 27 ?_; apply aE3; exact k_ref02_Check _; exact flatA; refine aPost ?_)) | (refine isF 16 ?_; first | (refine aCallF 16 ?_; apply aE3; exact k_alive8; exact flatA; refine aPost ?_))) | refine aOp ?_ | refine aOp2 ?_ | refine aOff1 ?_ | refine aOff2 ?_ | (refine aSplit ?_ ?_ <;> intro hsp) | (refine RegA.done ‹_› ?_; first | refine aKeep [0, 1, 4, 5, 6, 7, 8, 9, 10, 21, 30] ?_ | skip))
    | (refine isA ?_; first | refine awp_seq fun K hK => ?_ | refine Awp.reg ?_ | refine Awp.skip ?_ | refine Awp.block ?_ | refine Awp.scope ?_ | refine aCt ?_ | refine aCf ?_ | (refine aCond ?_ ?_ <;> intro hsp) | (refine Awp.exit ?_; simp only [blockQ, thenQ, scopeQ, ↓reduceIte, Nat.reduceEqDiff]))
    | (refine viaK ‹_› ?_; first | refine aKeep [0, 1, 4, 5, 6, 7, 8, 9, 10, 21, 30] ?_ | skip)
    | simp only [thenQ_normal, blockQ_normal]))
  all_goals first
  | (exfalso; omega)
  | (focus (
    (refine Awp.ret ?_; refine aRet ?_; (simp [-List.getD_eq_getElem?_getD, laxR, laxX, laxC, laxCs, rB, rN, rO, rBy, rSup, supP_len, rB2, rEn] <;> (intros; omega)))))
set_option maxHeartbeats 4000000 in
set_option maxRecDepth 10000 in
open Xe8ba5e9 in
theorem k_OnceB (m : List Int) (hm : ∀ x ∈ m, isU x) (n : Int) (h0 : chk m.length = 0) (h1 : 0 ≤ n) (h2 : n ≤ 32) (h : ¬ rdE m n = 0) : Con Try.prog 9 [sN .u64 m, vN .i64 n] [rB true] := by
  obtain ⟨g1, g2, g3⟩ := rd_err h0 h1 h2 h
  have hl := chk_le h0
  have d1 : decide (n < 0) = false := decide_eq_false (by omega)
  have d2 : decide (32 < n) = false := decide_eq_false (by omega)
  have d3 : decide (0 < n) = true := decide_eq_true g3
  refine con_of_awp hmix Try.func9 s9 rfl (by rw [n9]; simp) r9 n9 ?_
  simp only [Eng.start, startFr, inX, sN, vN, List.map_cons, List.map_nil, supA, supC, sEn, c9]
  (have XH := (And.intro (And.intro (And.intro @hz0 @d1) (And.intro @d2 @d3)) (And.intro (And.intro @h0 @g1) (And.intro @g2 @eq_self.{1}))); have XG := (And.intro (And.intro @hz0 (And.intro @h0 @g1)) (And.intro (And.intro @g2 @d1) (And.intro @d2 @d3))); (repeat' (first
    | (refine isR ?_; first | (refine isC ?_; first | (refine isF 27 ?_; first | (refine aCallF 27 ?_; apply aE3; exact k_ref02_Check _; exact flatA; refine aPost ?_)) | (refine isF 16 ?_; first | (refine aCallF 16 ?_; apply aE3; exact k_alive8; exact flatA; refine aPost ?_)) | (refine isF 10 ?_; first | (refine aCallF 10 ?_; apply aE3; exact k_entry_May _ _; exact flatA; refine aPost ?_)) | (refine isF 12 ?_; first | (refine aCallF 12 ?_; apply aE3; exact k_entry_Check _ _ (by omega); exact flatA; refine aPost ?_)) | (refine isF 11 ?_; first | (refine aCall 11 ?_; apply aE2; exact k_entry_Words _ _ (by omega); refine aPost ?_)) | (refine isF 13 ?_; first | (refine aCall 13 ?_; apply aE2; exact k_entry_Apply _ _ (by omega) (by omega); refine aPost ?_)) | (refine isF 14 ?_; first | (refine aCall 14 ?_; apply aE2; exact k_entry_Read m hm n (by omega); refine aPost ?_))) | refine aOp ?_ | refine aOp2 ?_ | refine aOff1 ?_ | refine aOff2 ?_ | (refine aSplit ?_ ?_ <;> intro hsp) | (refine RegA.done ‹_› ?_; first | refine aKeep [0, 1, 4, 5, 6, 7, 8, 9, 10, 21, 30] ?_ | skip))
    | (refine isA ?_; first | refine awp_seq fun K hK => ?_ | refine Awp.reg ?_ | refine Awp.skip ?_ | refine Awp.block ?_ | refine Awp.scope ?_ | refine aCt ?_ | refine aCf ?_ | (refine aCond ?_ ?_ <;> intro hsp) | (refine Awp.exit ?_; simp only [blockQ, thenQ, scopeQ, ↓reduceIte, Nat.reduceEqDiff]))
    | (refine viaK ‹_› ?_; first | refine aKeep [0, 1, 4, 5, 6, 7, 8, 9, 10, 21, 30] ?_ | skip)
    | simp only [thenQ_normal, blockQ_normal])); all_goals (clear XH; clear XG))
  all_goals (refine Awp.ret ?_; refine aRet ?_; (simp [-List.getD_eq_getElem?_getD, laxR, laxX, laxC, laxCs, rB, rN, rO, rBy, rSup, supP_len, rB2, rEn] <;> (intros; omega)))
set_option maxHeartbeats 4000000 in
set_option maxRecDepth 10000 in
open Xe8ba5e9 in
theorem k_OnceA (m : List Int) (hm : ∀ x ∈ m, isU x) (n : Int) (h0 : chk m.length = 0) (h1 : 0 ≤ n) (h2 : n ≤ 32) (h : rdE m n = 0) : Con Try.prog 9 [sN .u64 m, vN .i64 n] [rB true] := by
  obtain ⟨g1, g2, g3, g4, g5⟩ := rd_words hm h
  have g6 := rdL_le m n
  have hl := chk_le h0
  have d1 : decide (n < 0) = false := decide_eq_false (by omega)
  have d2 : decide (32 < n) = false := decide_eq_false (by omega)
  refine con_of_awp hmix Try.func9 s9 rfl (by rw [n9]; simp) r9 n9 ?_
  simp only [Eng.start, startFr, inX, sN, vN, List.map_cons, List.map_nil, supA, supC, sEn, c9]
  (have XH := (And.intro (And.intro (And.intro @d1 @d2) (And.intro @h0 @h)) (And.intro (And.intro @g1 @g2) (And.intro @g3 (And.intro @g4 @eq_self.{1})))); have XG := (And.intro (And.intro @h0 (And.intro @h @g1)) (And.intro (And.intro @g2 @g3) (And.intro @d1 @d2))); (repeat' (first
    | (refine isR ?_; first | (refine isC ?_; first | (refine isF 27 ?_; first | (refine aCallF 27 ?_; apply aE3; exact k_ref02_Check _; exact flatA; refine aPost ?_)) | (refine isF 16 ?_; first | (refine aCallF 16 ?_; apply aE3; exact k_alive8; exact flatA; refine aPost ?_)) | (refine isF 11 ?_; first | (refine aCall 11 ?_; apply aE2; exact k_entry_Words (rdL m n) (m.length : Int) (by omega); refine aPost ?_)) | (refine isF 14 ?_; first | (refine aCall 14 ?_; apply aE2; exact k_entry_Read m hm n (by omega); refine aPost ?_)) | (refine isF 30 ?_; first | (refine aCall 30 ?_; apply aE2; exact k_image_Get m 32 (2 * n) (by omega) (by omega); refine aPost ?_)) | (refine isF 22 ?_; first | (refine aCallF 22 ?_; apply aE3; exact k_ref02_Same _ _ (by first | omega | (simp; omega)) (by first | omega | (simp; omega)); exact flatA; refine aPost ?_))) | refine aOp ?_ | refine aOp2 ?_ | refine aOff1 ?_ | refine aOff2 ?_ | (refine aSplit ?_ ?_ <;> intro hsp) | (refine RegA.done ‹_› ?_; first | refine aKeep [0, 1, 4, 5, 6, 7, 8, 9, 10, 21, 30] ?_ | skip))
    | (refine isA ?_; first | refine awp_seq fun K hK => ?_ | refine Awp.reg ?_ | refine Awp.skip ?_ | refine Awp.block ?_ | refine Awp.scope ?_ | refine aCt ?_ | refine aCf ?_ | (refine aCond ?_ ?_ <;> intro hsp) | (refine Awp.exit ?_; simp only [blockQ, thenQ, scopeQ, ↓reduceIte, Nat.reduceEqDiff]))
    | (refine viaK ‹_› ?_; first | refine aKeep [0, 1, 4, 5, 6, 7, 8, 9, 10, 21, 30] ?_ | skip)
    | simp only [thenQ_normal, blockQ_normal])); all_goals (clear XH; clear XG))
  all_goals (refine Awp.ret ?_; refine aRet ?_; (simp [-List.getD_eq_getElem?_getD, laxR, laxX, laxC, laxCs, rB, rN, rO, rBy, rSup, supP_len, rB2, rEn] <;> (intros; omega)))
theorem k_law08_EntryOnce (m : List Int) (hm : ∀ x ∈ m, isU x) (n : Int) : Con Try.prog 9 [sN .u64 m, vN .i64 n] [rB true] := by
  by_cases hp : chk m.length = 0 ∧ 0 ≤ n ∧ n ≤ 32
  · by_cases h : rdE m n = 0
    · exact k_OnceA m hm n hp.1 hp.2.1 hp.2.2 h
    · exact k_OnceB m hm n hp.1 hp.2.1 hp.2.2 h
  · exact k_OnceC m hm n hp
end
end Go.Proofs.Ytmhnogmbpoeaeaa
