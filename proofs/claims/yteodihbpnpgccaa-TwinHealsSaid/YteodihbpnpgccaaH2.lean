/-
  The contracts of the program's functions, data in, data out. Conditions: those in the statements.
-/
import Derived.Test.YteodihbpnpgccaaH1
import Derived.Test.YteodihbpnpgccaaG3b
namespace Go.Proofs.Yteodihbpnpgccaa
set_option linter.all false
open Go Go.Proofs.Yteodihbpnpgccaa.Eng Go.RowKit
noncomputable section

theorem he00 : decide ((0 : Int) = 0) = true := rfl
theorem cp_get2 {m : List Int} (hc : chk m.length = 0) {k : Nat} (hk : k ≤ 1) {a : Int} (ha : a = 8 * k) : getE m.length a 8 = 0 ∧ getL m a 8 = cpL m k := by
  have h1 := chk_le hc
  have e : getE m.length a 8 = 0 := getE_0 hc (by omega) (by omega) (by omega)
  refine ⟨e, ?_⟩
  rw [getL_0 e]
  unfold cpL
  have e2 : a.toNat = 8 * k := by omega
  rw [e2]
  rfl
theorem k_Get_cp (m : List Int) (k : Nat) (hk : k ≤ 1) (a : Int) (ha : a = 8 * k) (hc : chk m.length = 0) (hn : m.length ≤ 1000000) : Con Try.prog 26 [sN .u64 m, vN .i64 a, vN .i64 8] [rO .u64 (cpL m k), rN .i64 0] := by
  have h := k_image_Get m a 8 hn (by omega)
  rwa [(cp_get2 hc hk ha).1, (cp_get2 hc hk ha).2] at h
theorem put_a {m : List Int} (hc : chk m.length = 0) (s : Sup) : getE m.length 0 (supL s).length = 0 ∧ putL m 0 (supL s) = supL s ++ m.drop 8 := by
  have h1 := chk_le hc
  have e : getE m.length 0 (supL s).length = 0 := getE_0 hc (by omega) (by omega) (by rw [supL_len]; omega)
  refine ⟨e, ?_⟩
  rw [putL_0 e, supL_len]
  rfl
theorem put_al {m : List Int} (hc : chk m.length = 0) (s : Sup) : (supL s ++ m.drop 8).length = m.length := by
  have h1 := chk_le hc
  rw [List.length_append, supL_len, List.length_drop]
  omega
theorem put_b {m : List Int} (h : twE m = 0) : getE (supL (twS m) ++ m.drop 8).length 8 (supL (twS m)).length = 0 ∧ putL (supL (twS m) ++ m.drop 8) 8 (supL (twS m)) = twV m := by
  have hc := (twE_is h).1
  have h1 := chk_le hc
  have hl := put_al hc (twS m)
  have e : getE (supL (twS m) ++ m.drop 8).length 8 (supL (twS m)).length = 0 := getE_0 (by rw [hl]; exact hc) (by omega) (by omega) (by rw [hl, supL_len]; omega)
  refine ⟨e, ?_⟩
  rw [putL_0 e, twV_0 h, supL_len]
  have e1 : (8 : Int).toNat = (supL (twS m)).length := by rw [supL_len]; rfl
  rw [e1, List.take_left, supL_len]
  congr 2
  rw [List.drop_append, supL_len, List.drop_of_length_le (by rw [supL_len]; omega), List.nil_append, List.drop_drop]
/-- The image with its first copy put. -/
@[irreducible] def twP (m : List Int) : List Int := supL (twS m) ++ m.drop 8
theorem k_Put_a (m : List Int) (h0 : twE m = 0) (hn : m.length ≤ 1000000) : Con Try.prog 22 [sN .u64 m, vN .i64 0, sN .u64 (supL (twS m))] [rO .u64 (twP m), rN .i64 0] := by
  have h := k_image_Put m 0 (supL (twS m)) hn (by rw [supL_len]; omega) (by omega)
  unfold twP
  rwa [(put_a (twE_is h0).1 _).1, (put_a (twE_is h0).1 _).2] at h
theorem k_Put_b (m : List Int) (h0 : twE m = 0) (hn : m.length ≤ 1000000) : Con Try.prog 22 [sN .u64 (twP m), vN .i64 8, sN .u64 (supL (twS m))] [rO .u64 (twV m), rN .i64 0] := by
  unfold twP
  have h := k_image_Put (supL (twS m) ++ m.drop 8) 8 (supL (twS m)) (by rw [put_al (twE_is h0).1]; exact hn) (by rw [supL_len]; omega) (by omega)
  rwa [(put_b h0).1, (put_b h0).2] at h
theorem k_Write_tw (s : Sup) (h : supOk s = true) : Con Try.prog 28 [supA s] [rO .u64 (supL s), rN .i64 0] := by
  have h1 := k_super_Write s
  rwa [supW_yes h, supE_yes h] at h1
/-! The words that differ, as entries. -/
@[irreducible] def chL (m : List Int) : List Int := difI m (twV m) m.length
@[irreducible] def chE (m : List Int) (i : Nat) : List Ent := ((chL m).take i).map fun a => ⟨a, (twV m).getD a.toNat 0⟩
theorem dif_comm (a b : List Int) (n : Nat) : difN a b n = difN b a n := by
  unfold difN
  refine List.filter_congr fun i _ => ?_
  congr 1
  exact decide_eq_decide.2 ⟨Eq.symm, Eq.symm⟩
theorem chL_at {m : List Int} {i : Nat} (h : i < (chL m).length) : 0 ≤ (chL m).getD i 0 ∧ (chL m).getD i 0 < m.length := by
  have h1 : (chL m).getD i 0 ∈ chL m := by rw [List.getD, List.getElem?_eq_getElem h]; exact List.getElem_mem h
  generalize (chL m).getD i 0 = x at h1
  unfold chL difI difN at h1
  obtain ⟨k, hk, rfl⟩ := List.mem_map.1 h1
  have := List.mem_range.1 (List.mem_filter.1 hk).1
  omega
theorem chL_len (m : List Int) : (chL m).length ≤ m.length := by unfold chL; exact difI_le _ _ _
theorem chE_zero (m : List Int) : chE m 0 = [] := by unfold chE; rfl
theorem chE_le (m : List Int) (i : Nat) : (chE m i).length ≤ i := by
  unfold chE
  rw [List.length_map, List.length_take]
  exact Nat.min_le_left _ _
theorem chE_next {m : List Int} {i : Nat} (h : i < (chL m).length) : chE m i ++ [⟨(chL m).getD i 0, (twV m).getD ((chL m).getD i 0).toNat 0⟩] = chE m (i + 1) := by
  unfold chE
  rw [List.take_succ_eq_append_getElem h, List.map_append, List.getD, List.getElem?_eq_getElem h]
  rfl
theorem chE_all {m : List Int} (h : twE m = 0) : chE m (chL m).length = twH m := by
  unfold chE
  rw [List.take_length, twH_0 h]
  unfold chL heN difI
  rw [dif_comm, List.map_map]
  rfl
theorem k_Diff_tw (m : List Int) (h : twE m = 0) (hn : m.length ≤ 1000000) : Con Try.prog 24 [sN .u64 m, sN .u64 (twV m)] [rI64 (chL m), rN .i64 0] := by
  have hl := twV_len h
  have h1 := k_image_Diff m (twV m) hn (by omega)
  obtain ⟨e1, e2⟩ := difE_d (a := m) (b := twV m) (twE_is h).1 (by rw [hl]; exact (twE_is h).1) hl.symm
  rw [e1, e2] at h1
  unfold chL
  exact h1
namespace Xe442309
def XX := (And.intro (And.intro (And.intro @tdiv8 (And.intro @tmod8 @toNatAddI)) (And.intro (And.intro @toNatSubI @takeAll) (And.intro @takeDropAll @getD_entC))) (And.intro (And.intro @List.all_cons.{0} (And.intro @List.all_nil.{0} @List.getElem?_cons_zero.{0})) (And.intro (And.intro @List.getElem?_cons_succ.{0} @Bool.and_self) (And.intro @List.cons_append.{0} @Nat.mul_one))))
def XN := @Nat.zero_add
def XR := (And.intro (And.intro @rBy.eq_1 (And.intro @rSup.eq_1 @supP_len)) (And.intro @rB2.eq_1 (And.intro @rEn.eq_1 @rI64.eq_1)))
def XH := @Nat.zero_add
def XG := @Nat.zero_add
end Xe442309
set_option maxHeartbeats 4000000 in
set_option maxRecDepth 10000 in
open Xe442309 in
theorem k_twin_copyAt (m : List Int) (k : Nat) (hk : k ≤ 1) (a : Int) (ha : a = 8 * k) (hm : ∀ x ∈ m, isU x) (hc : chk m.length = 0) (hn : m.length ≤ 1000000) : Con Try.prog 30 [sN .u64 m, vN .i64 a] [rSup (cpS m k), rB (cpOk m k)] := by
  have hcl := cpL_len (m := m) (k := k) (by have := chk_le hc; omega) hk
  refine con_of_awp hmix Try.func30 s30 rfl (by rw [n30]; simp) r30 n30 ?_
  simp only [Eng.start, startFr, inX, sN, vN, List.map_cons, List.map_nil, supA, supC, sEn, c30]
  (have XH := @he00; have XG := @he00; (repeat' (first
    | (refine aCall 26 ?_; apply aE2; exact k_Get_cp m k hk a ha hc hn; refine aPost ?_)
    | (refine aCallF 23 ?_; apply aE3; exact k_super_Read (cpL m k) (cpL_U hm k) (by omega); exact flatA; refine aPost ?_)
    | refine aOp ?_
    | refine aOp2 ?_
    | refine aOff1 ?_
    | refine aOff2 ?_
    | (refine aSplit ?_ ?_ <;> intro hsp)
    | (refine RegA.done ‹_› ?_; first | refine aKeep [0, 1, 4, 5, 6, 7, 8, 16, 31] ?_ | skip)
    | refine awp_seq fun K hK => ?_
    | refine Awp.reg ?_
    | refine Awp.skip ?_
    | refine Awp.block ?_
    | refine Awp.scope ?_
    | refine aCt ?_
    | refine aCf ?_
    | (refine aCond ?_ ?_ <;> intro hsp)
    | (refine Awp.exit ?_; simp only [blockQ, thenQ, scopeQ, ↓reduceIte, Nat.reduceEqDiff])
    | (refine viaK ‹_› ?_; first | refine aKeep [0, 1, 4, 5, 6, 7, 8, 16, 31] ?_ | skip)
    | simp only [thenQ_normal, blockQ_normal])); all_goals (clear XH; clear XG))
  · obtain ⟨e1, e2⟩ := cp_no (m := m) (k := k) fun h => ‹¬ readE (cpL m k) = 0› h.1
    (refine Awp.ret ?_; refine aRet ?_; (simp [-List.getD_eq_getElem?_getD, laxR, laxX, laxC, laxCs, rB, rN, rO, rBy, rSup, supP_len, rB2, rEn, rI64, e1, e2, rSup]))
  · obtain ⟨e1, e2⟩ := cp_no (m := m) (k := k) fun h => ‹¬ (readV (cpL m k)).w = m.length› h.2
    (refine Awp.ret ?_; refine aRet ?_; (simp [-List.getD_eq_getElem?_getD, laxR, laxX, laxC, laxCs, rB, rN, rO, rBy, rSup, supP_len, rB2, rEn, rI64, e1, e2, rSup]))
  · obtain ⟨e1, e2⟩ := cp_yes (m := m) (k := k) ‹_› ‹_›
    (refine Awp.ret ?_; refine aRet ?_; (simp [-List.getD_eq_getElem?_getD, laxR, laxX, laxC, laxCs, rB, rN, rO, rBy, rSup, supP_len, rB2, rEn, rI64, e1, e2, rSup]))
set_option maxHeartbeats 4000000 in
set_option maxRecDepth 10000 in
open Xe442309 in
theorem k_twin_Read (m : List Int) (hm : ∀ x ∈ m, isU x) (hn : m.length ≤ 1000000) : Con Try.prog 10 [sN .u64 m] [rSup (twS m), rB2 (twA m) (twB m), rN .i64 (twE m)] := by
  refine con_of_awp hmix Try.func10 s10 rfl (by rw [n10]; simp) r10 n10 ?_
  simp only [Eng.start, startFr, inX, sN, vN, List.map_cons, List.map_nil, supA, supC, sEn, c10]
  (have XG := (And.intro (And.intro (And.intro @List.take_succ_cons.{0} (And.intro @List.take_zero.{0} @List.take_nil.{0})) (And.intro (And.intro @List.length_cons.{0} @List.length_nil.{0}) (And.intro @Nat.zero_add @List.drop_succ_cons.{0}))) (And.intro (And.intro @List.drop_zero.{0} (And.intro @List.drop_nil.{0} @Nat.zero_mul)) (And.intro (And.intro @Nat.mul_one @List.nil_append.{0}) (And.intro @List.cons_append.{0} @List.append_nil.{0})))); (repeat' (first
    | (refine aCallF 29 ?_; apply aE3; exact k_image_Check _; exact flatA; refine aPost ?_)
    | (refine aCallF 30 ?_; apply aE3; exact k_twin_copyAt m 0 (by omega) 0 (by omega) hm ‹chk m.length = 0› hn; exact flatA; refine aPost ?_)
    | (refine aCallF 30 ?_; apply aE3; exact k_twin_copyAt m 1 (by omega) 8 (by omega) hm ‹chk m.length = 0› hn; exact flatA; refine aPost ?_)
    | refine aOp ?_
    | refine aOp2 ?_
    | refine aOff1 ?_
    | refine aOff2 ?_
    | (refine aSplit ?_ ?_ <;> intro hsp)
    | exact aNilQ [0, 2, 3, 4, 5, 6, 7, 8, 9, 10, 14, 31, 35]
    | (refine RegA.done ‹_› ?_; first | refine aKeep [0, 2, 3, 4, 5, 6, 7, 8, 9, 10, 14, 31, 35] ?_ | skip)
    | refine awp_seq fun K hK => ?_
    | refine Awp.reg ?_
    | refine aDrawQ 2 1 [[], [], [0, 0], [1, 2, 0, 1, 2], [3, 0, 1, 2, 3]] [[], [], [0], [1, 2, 0], [3, 0, 1, 2]] ?_
    | apply exS2
    | (refine aNcall (f := 29) ?_; apply aE6; exact k_image_Check _; (refine aNr (by simp only [unV', unX, unXs, unC, unL, rN, rB, List.append_nil, List.nil_append, rBy, rSup, supP_len, rB2, rEn, rI64]; rfl) rfl rfl); (first | exact .inl rfl | exact .inr flatA); refine aNpost ?_)
    | (refine aDcall (f := 29) ?_; apply aE4; exact k_image_Check _; (intro seed; simp only [unV', unX, unXs, unC, unL, rN, rB, List.append_nil, List.nil_append, rBy, rSup, supP_len, rB2, rEn, rI64]; rfl); (first | exact .inl rfl | exact .inr flatA); refine aDpost ?_)
    | (refine aNcall (f := 30) ?_; apply aE6; exact k_twin_copyAt m 0 (by omega) 0 (by omega) hm ‹chk m.length = 0› hn; (refine aNr (by simp only [unV', unX, unXs, unC, unL, rN, rB, List.append_nil, List.nil_append, rBy, rSup, supP_len, rB2, rEn, rI64]; rfl) rfl rfl); (first | exact .inl rfl | exact .inr flatA); refine aNpost ?_)
    | (refine aDcall (f := 30) ?_; apply aE4; exact k_twin_copyAt m 0 (by omega) 0 (by omega) hm ‹chk m.length = 0› hn; (intro seed; simp only [unV', unX, unXs, unC, unL, rN, rB, List.append_nil, List.nil_append, rBy, rSup, supP_len, rB2, rEn, rI64]; rfl); (first | exact .inl rfl | exact .inr flatA); refine aDpost ?_)
    | (refine aNcall (f := 30) ?_; apply aE6; exact k_twin_copyAt m 1 (by omega) 8 (by omega) hm ‹chk m.length = 0› hn; (refine aNr (by simp only [unV', unX, unXs, unC, unL, rN, rB, List.append_nil, List.nil_append, rBy, rSup, supP_len, rB2, rEn, rI64]; rfl) rfl rfl); (first | exact .inl rfl | exact .inr flatA); refine aNpost ?_)
    | (refine aDcall (f := 30) ?_; apply aE4; exact k_twin_copyAt m 1 (by omega) 8 (by omega) hm ‹chk m.length = 0› hn; (intro seed; simp only [unV', unX, unXs, unC, unL, rN, rB, List.append_nil, List.nil_append, rBy, rSup, supP_len, rB2, rEn, rI64]; rfl); (first | exact .inl rfl | exact .inr flatA); refine aDpost ?_)
    | refine aNop ?_
    | refine aNoff1 ?_
    | refine aNoff2 ?_
    | (refine aNsplit ?_ ?_ <;> intro hsp)
    | refine aNnil ?_
    | refine aDop ?_
    | refine aDlast _ ?_
    | refine aDoff1 ?_
    | refine aDoff2 ?_
    | (refine aDsplit ?_ ?_ <;> intro hsp)
    | refine DrawP.nil ?_
    | refine aDrawN 3 [[], [], [0, 0], [1, 2, 0, 1, 2], [3, 0, 1, 2, 3]] [[], [], [0], [1, 2, 0], [3, 0, 1, 2]] ?_
    | refine aDrawN 3 [[], [], [0, 0], [1, 2, 0, 1, 2], [3, 0, 1, 2, 3]] [[], [], [0], [1, 2, 0], [3, 0, 1, 2]] ?_
    | refine Awp.skip ?_
    | refine Awp.block ?_
    | refine Awp.scope ?_
    | refine aCt ?_
    | refine aCf ?_
    | (refine aCond ?_ ?_ <;> intro hsp)
    | (refine Awp.exit ?_; simp only [blockQ, thenQ, scopeQ, ↓reduceIte, Nat.reduceEqDiff])
    | (refine viaK ‹_› ?_; first | refine aKeep [0, 2, 3, 4, 5, 6, 7, 8, 9, 10, 14, 31, 35] ?_ | skip)
    | simp only [thenQ_normal, blockQ_normal])); all_goals (clear XG))
  all_goals first
  | (focus (
    exact absurd ‹cpOk m 0 = true› (by rw [‹cpOk m 0 = false›]; decide)))
  | (focus (
    have e := twE_8 ‹¬ chk m.length = 0›
    have q1 := chk8 ‹¬ chk m.length = 0›
    obtain ⟨e1, e2, e3, _⟩ := tw_no (m := m) (by omega)
    (refine Awp.ret ?_; refine aRet ?_; (simp [-List.getD_eq_getElem?_getD, laxR, laxX, laxC, laxCs, rB, rN, rO, rBy, rSup, supP_len, rB2, rEn, rI64, q1, e, e1, e2, e3, rSup, rB2]))))
  | (focus (
    have e := twE_50 ‹chk m.length = 0› ‹cpOk m 0 = false› ‹cpOk m 1 = false›
    obtain ⟨e1, e2, e3, _⟩ := tw_no (m := m) (by omega)
    (refine Awp.ret ?_; refine aRet ?_; (simp [-List.getD_eq_getElem?_getD, laxR, laxX, laxC, laxCs, rB, rN, rO, rBy, rSup, supP_len, rB2, rEn, rI64, e, e1, e2, e3, rSup, rB2]))))
  | (focus (
    have e := twE_0a ‹chk m.length = 0› ‹cpOk m 0 = true›
    have e1 := twS_a e ‹cpOk m 0 = true›
    obtain ⟨e2, e3⟩ := tw_AB e
    (refine Awp.ret ?_; refine aRet ?_; (simp [-List.getD_eq_getElem?_getD, laxR, laxX, laxC, laxCs, rB, rN, rO, rBy, rSup, supP_len, rB2, rEn, rI64, e, e1, e2, e3, rSup, rB2]))))
  | (focus (
    have e := twE_0b ‹chk m.length = 0› ‹cpOk m 1 = true›
    have e1 := twS_b e ‹cpOk m 0 = false›
    obtain ⟨e2, e3⟩ := tw_AB e
    (refine Awp.ret ?_; refine aRet ?_; (simp [-List.getD_eq_getElem?_getD, laxR, laxX, laxC, laxCs, rB, rN, rO, rBy, rSup, supP_len, rB2, rEn, rI64, e, e1, e2, e3, rSup, rB2]))))
set_option maxHeartbeats 4000000 in
set_option maxRecDepth 10000 in
open Xe442309 in
theorem k_twin_View (m : List Int) (hm : ∀ x ∈ m, isU x) (hn : m.length ≤ 1000000) : Con Try.prog 12 [sN .u64 m] [rO .u64 (twV m), rN .i64 (twE m)] := by
  refine con_of_awp hmix Try.func12 s12 rfl (by rw [n12]; simp) r12 n12 ?_
  simp only [Eng.start, startFr, inX, sN, vN, List.map_cons, List.map_nil, supA, supC, sEn, c12]
  (have XH := @he00; have XG := @he00; (repeat' (first
    | (refine aCallF 10 ?_; apply aE3; exact k_twin_Read _ hm (by omega); exact flatA; refine aPost ?_)
    | (refine aCall 28 ?_; apply aE2; exact k_Write_tw (twS m) (twS_ok ‹twE m = 0›).1; refine aPost ?_)
    | (refine aCall 22 ?_; apply aE2; exact k_Put_a m ‹twE m = 0› hn; refine aPost ?_)
    | (refine aCall 22 ?_; apply aE2; exact k_Put_b m ‹twE m = 0› hn; refine aPost ?_)
    | refine aOp ?_
    | refine aOp2 ?_
    | refine aOff1 ?_
    | refine aOff2 ?_
    | (refine aSplit ?_ ?_ <;> intro hsp)
    | (refine RegA.done ‹_› ?_; first | refine aKeep [0, 2, 3, 4, 6, 7, 15, 23, 32] ?_ | skip)
    | refine awp_seq fun K hK => ?_
    | refine Awp.reg ?_
    | refine Awp.skip ?_
    | refine Awp.block ?_
    | refine Awp.scope ?_
    | refine aCt ?_
    | refine aCf ?_
    | (refine aCond ?_ ?_ <;> intro hsp)
    | (refine Awp.exit ?_; simp only [blockQ, thenQ, scopeQ, ↓reduceIte, Nat.reduceEqDiff])
    | (refine viaK ‹_› ?_; first | refine aKeep [0, 2, 3, 4, 6, 7, 15, 23, 32] ?_ | skip)
    | simp only [thenQ_normal, blockQ_normal])); all_goals (clear XH; clear XG))
  · have e := (tw_no ‹¬ twE m = 0›).2.2.2
    (refine Awp.ret ?_; refine aRet ?_; (simp [-List.getD_eq_getElem?_getD, laxR, laxX, laxC, laxCs, rB, rN, rO, rBy, rSup, supP_len, rB2, rEn, rI64, e]))
  · have e0 := ‹twE m = 0›
    (refine Awp.ret ?_; refine aRet ?_; (simp [-List.getD_eq_getElem?_getD, laxR, laxX, laxC, laxCs, rB, rN, rO, rBy, rSup, supP_len, rB2, rEn, rI64, e0]))
set_option maxHeartbeats 4000000 in
set_option maxRecDepth 10000 in
open Xe442309 in
theorem k_twin_Heal (m : List Int) (hm : ∀ x ∈ m, isU x) (hn : m.length ≤ 1000000) : Con Try.prog 11 [sN .u64 m] [rEn (twH m), rN .i64 (twE m)] := by
  refine con_of_awp hmix Try.func11 s11 rfl (by rw [n11]; simp) r11 n11 ?_
  simp only [Eng.start, startFr, inX, sN, vN, List.map_cons, List.map_nil, supA, supC, sEn, c11]
  (have XH := @he00; have XG := (And.intro (And.intro (And.intro @he00 (And.intro @List.take_succ_cons.{0} @List.take_zero.{0})) (And.intro (And.intro @List.take_nil.{0} @List.length_cons.{0}) (And.intro @List.length_nil.{0} @Nat.zero_add))) (And.intro (And.intro (And.intro @List.drop_succ_cons.{0} @List.drop_zero.{0}) (And.intro @List.drop_nil.{0} @Nat.zero_mul)) (And.intro (And.intro @Nat.mul_one @List.nil_append.{0}) (And.intro @List.cons_append.{0} @List.append_nil.{0})))); (repeat' (first
    | (refine aCall 12 ?_; apply aE2; exact k_twin_View _ hm (by omega); refine aPost ?_)
    | (refine aCall 24 ?_; apply aE2; exact k_Diff_tw m ‹twE m = 0› hn; refine aPost ?_)
    | refine aOp ?_
    | refine aOp2 ?_
    | refine aOff1 ?_
    | refine aOff2 ?_
    | (refine aSplit ?_ ?_ <;> intro hsp)
    | (refine RegA.done ‹_› ?_; first | refine aKeep [0, 2, 3, 4, 5, 6, 7, 9, 16, 25, 27, 28, 29, 30] ?_ | skip)
    | refine awp_seq fun K hK => ?_
    | refine Awp.reg ?_
    | refine Awp.skip ?_
    | refine Awp.block ?_
    | refine Awp.scope ?_
    | refine aCt ?_
    | refine aCf ?_
    | (refine aCond ?_ ?_ <;> intro hsp)
    | (refine Awp.exit ?_; simp only [blockQ, thenQ, scopeQ, ↓reduceIte, Nat.reduceEqDiff])
    | (refine viaK ‹_› ?_; first | refine aKeep [0, 2, 3, 4, 5, 6, 7, 9, 16, 25, 27, 28, 29, 30] ?_ | skip)
    | simp only [thenQ_normal, blockQ_normal])); all_goals (clear XH; clear XG))
  · have e := twH_no ‹¬ twE m = 0›
    (refine Awp.ret ?_; refine aRet ?_; (simp [-List.getD_eq_getElem?_getD, laxR, laxX, laxC, laxCs, rB, rN, rO, rBy, rSup, supP_len, rB2, rEn, rI64, e, rEn]))
  · have e0 := ‹twE m = 0›
    have hv := twV_len ‹twE m = 0›
    have e := chE_all ‹twE m = 0›
    have hcl0 := chL_len m
    refine Awp.loopK (α := {i : Nat // i ≤ (chL m).length}) (fun x => [(29, vv (.int .i64 (x.1 : Int))), (7, one (.own 3 (chE m x.1).length))]) (fun x => [(3, .row (rg 2 (chE m x.1)) ((chE m x.1).map entC) false)]) [2, 3, 4, 27, 28] [0, 1, 2] (fun x => (chL m).length - x.1) ⟨0, by omega⟩ [] (by simp only [List.filterMap_cons, List.filterMap_nil, lk_nil, lk_cons, ↓reduceIte, Nat.reduceEqDiff, Option.map_some, Option.map_none]; rfl) (by simp only [List.filterMap_cons, List.filterMap_nil, lk_nil, lk_cons, ↓reduceIte, Nat.reduceEqDiff, Option.map_some, Option.map_none]; rfl) rfl rfl ?_ ?_
    · simp only [Wk, frIn, hpIn, lk_nil, lk_cons, renV, renX, renC, belV, belX, belC, belL, belB, List.cons_append, List.nil_append, ↓reduceIte, Nat.reduceEqDiff, and_self, and_true, true_and] <;> simp [-List.getD_eq_getElem?_getD, vv, one, renV, renX, renC, belV, belX, belC, belL, belB, rho, renO, belO, lk_nil, lk_cons, rg_nil, chE_zero]
    · rintro ⟨i, hi⟩
      have hcl := chE_le m i
      have hx : i < (chL m).length → 0 ≤ (chL m).getD i 0 ∧ (chL m).getD i 0 < m.length := fun h => chL_at h
      dsimp only
      simp only [vv, one, List.cons_append, List.nil_append]
      (have XH := (And.intro (And.intro (@rg_or Ent) @List.length_append.{0}) (And.intro @hv @he00)); have XG := (And.intro (And.intro (And.intro (And.intro @ent_snoc @he00) (And.intro @List.take_succ_cons.{0} @List.take_zero.{0})) (And.intro (And.intro @List.take_nil.{0} @List.length_cons.{0}) (And.intro @List.length_nil.{0} @Nat.zero_add))) (And.intro (And.intro (And.intro @List.drop_succ_cons.{0} @List.drop_zero.{0}) (And.intro @List.drop_nil.{0} @Nat.zero_mul)) (And.intro (And.intro @Nat.mul_one @List.nil_append.{0}) (And.intro @List.cons_append.{0} @List.append_nil.{0})))); (repeat' (first
        | refine aOp ?_
        | refine aOp2 ?_
        | refine aOff1 ?_
        | refine aOff2 ?_
        | (refine aSplit ?_ ?_ <;> intro hsp)
        | (refine RegA.done ‹_› ?_; first | refine aKeep [0, 2, 3, 4, 5, 6, 7, 9, 16, 25, 27, 28, 29, 30] ?_ | skip)
        | refine awp_seq fun K hK => ?_
        | refine Awp.reg ?_
        | refine Awp.skip ?_
        | refine Awp.block ?_
        | refine Awp.scope ?_
        | refine aCt ?_
        | refine aCf ?_
        | (refine aCond ?_ ?_ <;> intro hsp)
        | (refine Awp.exit ?_; simp only [blockQ, thenQ, scopeQ, ↓reduceIte, Nat.reduceEqDiff])
        | (refine viaK ‹_› ?_; first | refine aKeep [0, 2, 3, 4, 5, 6, 7, 9, 16, 25, 27, 28, 29, 30] ?_ | skip)
        | simp only [thenQ_normal, blockQ_normal])); all_goals (clear XH; clear XG))
      · have hx := chL_at (m := m) (i := i) (by omega)
        have e3 := chE_next (m := m) (i := i) (by omega)
        have e4 := rg_snoc 2 (chE m i) ⟨(chL m).getD i 0, (twV m).getD ((chL m).getD i 0).toNat 0⟩
        refine RegA.nil ⟨⟨i + 1, by omega⟩, [], ?_, ?_⟩
        · simp only [Wk, frIn, hpIn, lk_nil, lk_cons, renV, renX, renC, belV, belX, belC, belL, belB, List.cons_append, List.nil_append, ↓reduceIte, Nat.reduceEqDiff, and_self, and_true, true_and] <;> simp [-List.getD_eq_getElem?_getD, vv, one, renV, renX, renC, belV, belX, belC, belL, belB, rho, renO, belO, lk_nil, lk_cons, ← e3, e4]
        · (simp only []; omega)
      · obtain rfl : i = (chL m).length := by omega
        rcases rg_or' 2 (chE m (chL m).length) with hz | hz
        · rw [e] at hz
          (refine Awp.ret ?_; refine aRet ?_; (simp [-List.getD_eq_getElem?_getD, laxR, laxX, laxC, laxCs, rB, rN, rO, rBy, rSup, supP_len, rB2, rEn, rI64, e, e0, hz, rEn]))
        · rw [e] at hz
          (refine Awp.ret ?_; refine aRet ?_; (simp [-List.getD_eq_getElem?_getD, laxR, laxX, laxC, laxCs, rB, rN, rO, rBy, rSup, supP_len, rB2, rEn, rI64, e, e0, hz, rg_nil, rEn]))
end
end Go.Proofs.Yteodihbpnpgccaa
