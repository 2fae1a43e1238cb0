/-
  The contracts of the program's functions, data in, data out. Conditions: those in the statements.
-/
import Derived.Test.YtmhnogmbpoeaeaaJ2
namespace Go.Proofs.Ytmhnogmbpoeaeaa
set_option linter.all false
open Go Go.Proofs.Ytmhnogmbpoeaeaa.Eng Go.RowKit
noncomputable section

/-! Applying. -/
@[irreducible] def apI (m : List Int) (l : List Ent) (n : Nat) : List Int := (l.take n).foldl (fun m e => m.set e.at_.toNat e.v) m
@[irreducible] def apT (m : List Int) (l : List Ent) : List Int := apI m l l.length
theorem apI_zero (m : List Int) (l : List Ent) : apI m l 0 = m := by unfold apI; rfl
theorem apI_succ (m : List Int) {l : List Ent} {i : Nat} (h : i < l.length) : (apI m l i).set (l.getD i default).at_.toNat (l.getD i default).v = apI m l (i + 1) := by
  unfold apI
  have e : l.take (i + 1) = l.take i ++ [l.getD i default] := by
    rw [List.take_add_one, List.getElem?_eq_getElem h]
    simp [List.getD, h]
  rw [e, List.foldl_append]; rfl
theorem apI_len (m : List Int) {l : List Ent} : ∀ {i : Nat}, i ≤ l.length → (apI m l i).length = m.length
  | 0, _ => by rw [apI_zero]
  | i + 1, h => by rw [← apI_succ m (by omega), List.length_set, apI_len m (by omega)]
theorem apT_len (m : List Int) (l : List Ent) : (apT m l).length = m.length := by unfold apT; exact apI_len m (Nat.le_refl _)
@[irreducible] def apE (m : List Int) (l : List Ent) : Int := if chk m.length = 0 then enE l m.length else 8
@[irreducible] def apV (m : List Int) (l : List Ent) : List Int := if apE m l = 0 then apT m l else []
theorem apE_8 {m : List Int} (l : List Ent) (h : ¬ chk m.length = 0) : apE m l = 8 := by unfold apE; rw [if_neg h]
theorem apE_y {m : List Int} (l : List Ent) (h : chk m.length = 0) : apE m l = enE l m.length := by unfold apE; rw [if_pos h]
theorem apV_0 {m : List Int} {l : List Ent} (h : apE m l = 0) : apV m l = apT m l := by unfold apV; rw [if_pos h]
theorem apV_no {m : List Int} {l : List Ent} (h : ¬ apE m l = 0) : apV m l = [] := by unfold apV; rw [if_neg h]
/-! The journal. -/
@[irreducible] def jrI (m : List Int) (n : Nat) : List Ent := (List.range n).map fun j => ⟨IntKind.i64.wrap (m.getD (32 + 2 * j) 0), m.getD (33 + 2 * j) 0⟩
theorem jrI_zero (m : List Int) : jrI m 0 = [] := by unfold jrI; rfl
theorem jrI_succ (m : List Int) (i : Nat) : jrI m i ++ [⟨IntKind.i64.wrap (m.getD (32 + 2 * i) 0), m.getD (33 + 2 * i) 0⟩] = jrI m (i + 1) := by
  unfold jrI
  rw [List.range_succ, List.map_append]; rfl
theorem jrI_len (m : List Int) (n : Nat) : (jrI m n).length = n := by unfold jrI; rw [List.length_map, List.length_range]
def jrTo (m : List Int) (n : Nat) : Prop := ∀ j < n, m.getD (32 + 2 * j) 0 < m.length
@[irreducible] def jrA (m : List Int) (n : Nat) : Bool := (List.range n).all fun j => decide (m.getD (32 + 2 * j) 0 < m.length)
theorem jrA_iff {m : List Int} {n : Nat} : jrA m n = true ↔ jrTo m n := by
  unfold jrA jrTo
  rw [List.all_eq_true]
  exact ⟨fun h j hj => of_decide_eq_true (h j (List.mem_range.2 hj)), fun h j hj => decide_eq_true (h j (List.mem_range.1 hj))⟩
@[irreducible] def jrV (m : List Int) (n : Nat) : List Ent := if jrA m n then jrI m n else []
@[irreducible] def jrB (m : List Int) (n : Nat) : Bool := jrA m n && decide (enE (jrI m n) m.length = 0)
theorem jr_bad {m : List Int} {n i : Nat} (hi : i < n) (h : (m.length : Int) ≤ m.getD (32 + 2 * i) 0) : jrV m n = [] ∧ jrB m n = false := by
  have e : jrA m n = false := by
    cases hc : jrA m n with
    | false => rfl
    | true => have := jrA_iff.1 hc i hi; omega
  unfold jrV jrB
  rw [e]; exact ⟨rfl, rfl⟩
theorem jr_good {m : List Int} {n : Nat} (h : jrTo m n) : jrV m n = jrI m n ∧ jrB m n = decide (enE (jrI m n) m.length = 0) := by
  have e := jrA_iff.2 h
  unfold jrV jrB
  rw [e]; exact ⟨rfl, rfl⟩
@[irreducible] def rdE (m : List Int) (n : Int) : Int := if chk m.length = 0 then (if 0 ≤ n ∧ n ≤ 32 then (if jrB m n.toNat = true then 0 else 50) else 2) else 8
@[irreducible] def rdL (m : List Int) (n : Int) : List Ent := if rdE m n = 0 then jrV m n.toNat else []
theorem rdE_8 {m : List Int} (n : Int) (h : ¬ chk m.length = 0) : rdE m n = 8 := by unfold rdE; rw [if_neg h]
theorem rdE_2 {m : List Int} {n : Int} (h : chk m.length = 0) (h2 : ¬ (0 ≤ n ∧ n ≤ 32)) : rdE m n = 2 := by unfold rdE; rw [if_pos h, if_neg h2]
theorem rdE_50 {m : List Int} {n : Int} (h : chk m.length = 0) (h2 : 0 ≤ n ∧ n ≤ 32) (h3 : jrB m n.toNat = false) : rdE m n = 50 := by unfold rdE; rw [if_pos h, if_pos h2, h3]; rfl
theorem rdE_0 {m : List Int} {n : Int} (h : chk m.length = 0) (h2 : 0 ≤ n ∧ n ≤ 32) (h3 : jrB m n.toNat = true) : rdE m n = 0 := by unfold rdE; rw [if_pos h, if_pos h2, if_pos h3]
theorem rdL_0 {m : List Int} {n : Int} (h : rdE m n = 0) : rdL m n = jrV m n.toNat := by unfold rdL; rw [if_pos h]
theorem rdL_no {m : List Int} {n : Int} (h : ¬ rdE m n = 0) : rdL m n = [] := by unfold rdL; rw [if_neg h]
theorem jrTo_succ {m : List Int} {i : Nat} (h : jrTo m i) (h2 : m.getD (32 + 2 * i) 0 < m.length) : jrTo m (i + 1) := fun j hj => by
  rcases Nat.lt_succ_iff_lt_or_eq.1 hj with h3 | rfl
  · exact h j h3
  · exact h2
theorem tn32 (i : Nat) : (32 + 2 * (i : Int)).toNat = 32 + 2 * i := by omega
theorem tn33 (i : Nat) : (33 + 2 * (i : Int)).toNat = 33 + 2 * i := by omega
theorem ap_tri {l : List Ent} {w : Int} (ho : okTo l w l.length) {i : Nat} (hi : i ≤ l.length) :
    (i < l.length ∧ decide ((i : Int) < (l.length : Int)) = true ∧ (16 ≤ (l.getD i default).at_ ∧ (l.getD i default).at_ < w)) ∨ (i = l.length ∧ decide ((i : Int) < (l.length : Int)) = false ∧ True) := by
  rcases Nat.lt_or_ge i l.length with h | h
  · have hf := frB_iff.1 (ho i h).1
    exact .inl ⟨h, decide_eq_true (by omega), hf.1, hf.2.1⟩
  · exact .inr ⟨by omega, decide_eq_false (by omega), trivial⟩
namespace X6acc57e
def XX := (And.intro (And.intro (And.intro @tdiv8 (And.intro @tmod8 @toNatAddI)) (And.intro (And.intro @toNatSubI @takeAll) (And.intro @takeDropAll @getD_entC))) (And.intro (And.intro @List.all_cons.{0} (And.intro @List.all_nil.{0} @List.getElem?_cons_zero.{0})) (And.intro (And.intro @List.getElem?_cons_succ.{0} @Bool.and_self) (And.intro @List.cons_append.{0} @Nat.mul_one))))
def XN := @Nat.zero_add
def XR := (And.intro (And.intro @rBy.eq_1 @rSup.eq_1) (And.intro @supP_len (And.intro @rB2.eq_1 @rEn.eq_1)))
def XH := @Nat.zero_add
def XG := @Nat.zero_add
end X6acc57e
set_option maxHeartbeats 4000000 in
set_option maxRecDepth 10000 in
open X6acc57e in
theorem k_ref08_Applied (m : List Int) (l : List Ent) (ho : okTo l m.length l.length) (hl : l.length ≤ 1000000) (hn : m.length ≤ 1000000) : Con Try.prog 40 [sN .u64 m, sEn l] [rO .u64 (apT m l)] := by
  refine con_of_awp hmix Try.func40 s40 rfl (by rw [n40]; simp) r40 n40 ?_
  simp only [Eng.start, startFr, inX, sN, vN, List.map_cons, List.map_nil, supA, supC, sEn, c40]
  (repeat' (first
    | (refine isR ?_; first | (refine isC ?_; first | (refine isF 24 ?_; first | (refine aCall 24 ?_; apply aE2; exact k_ref02_Twin _ (by omega); refine aPost ?_))) | refine aOp ?_ | refine aOff1 ?_ | refine aOff2 ?_ | (refine aSplit ?_ ?_ <;> intro hsp) | (refine RegA.done ‹_› ?_; first | refine aKeep [0, 1, 4, 5, 6, 12] ?_ | skip))
    | (refine isN ?_; first | refine aNop ?_ | refine aNoff1 ?_ | refine aNoff2 ?_ | (refine aNsplit ?_ ?_ <;> intro hsp) | refine aNnil ?_)
    | (refine isA ?_; first | refine awp_seq fun K hK => ?_ | refine Awp.reg ?_ | refine aDrawN 11 [[], [], [], [1, 2], [3], [4], [], [], [6, 7], [8], [9], [0, 5, 0, 1, 2, 3, 4, 5, 6, 7, 8, 9, 10], [11, 10, 0, 1, 2, 3, 4, 5, 6, 7, 8, 9, 10]] [[], [], [], [1, 2], [3, 1, 2], [4, 3, 1, 2], [], [], [6, 7], [8, 6, 7], [9, 8, 6, 7], [0, 5, 1, 2, 3, 4, 6, 7, 8, 9, 10], [11, 10, 0, 1, 2, 3, 4, 5, 6, 7, 8, 9]] ?_ | refine Awp.skip ?_ | refine Awp.block ?_ | refine Awp.scope ?_ | refine aCt ?_ | refine aCf ?_ | (refine aCond ?_ ?_ <;> intro hsp) | (refine Awp.exit ?_; simp only [blockQ, thenQ, scopeQ, ↓reduceIte, Nat.reduceEqDiff]))
    | (refine viaK ‹_› ?_; first | refine aKeep [0, 1, 4, 5, 6, 12] ?_ | skip)
    | simp only [thenQ_normal, blockQ_normal]))
  refine Awp.loopK (α := {i : Nat // i ≤ l.length}) (fun x => [(6, vv (.int .i64 (x.1 : Int)))]) (fun x => [(1, .row 1 ((apI m l x.1).map (numD .u64)) false)]) [1, 4, 5] [0] (fun x => l.length - x.1) ⟨0, by omega⟩ [] (by simp only [List.filterMap_cons, List.filterMap_nil, lk_nil, lk_cons, ↓reduceIte, Nat.reduceEqDiff, Option.map_some, Option.map_none]; rfl) (by simp only [List.filterMap_cons, List.filterMap_nil, lk_nil, lk_cons, ↓reduceIte, Nat.reduceEqDiff, Option.map_some, Option.map_none]; rfl) rfl rfl ?_ ?_
  · simp only [Wk, frIn, hpIn, lk_nil, lk_cons, renV, renX, renC, belV, belX, belC, belL, belB, List.cons_append, List.nil_append, ↓reduceIte, Nat.reduceEqDiff, and_self, and_true, true_and] <;> simp [-List.getD_eq_getElem?_getD, vv, one, renV, renX, renC, belV, belX, belC, belL, belB, rho, renO, belO, lk_nil, lk_cons, apI_zero]
  · rintro ⟨i, hi⟩
    have hal := apI_len m hi
    dsimp only
    simp only [vv, one, List.cons_append, List.nil_append]
    rcases ap_tri ho hi with ⟨hi1, e0, hf⟩ | ⟨hi1, e0, hf⟩ <;>
    (have XH := (And.intro @e0 @hal); have XG := @e0; (repeat' (first
      | (refine isR ?_; first | refine aOp ?_ | refine aOff1 ?_ | refine aOff2 ?_ | (refine aSplit ?_ ?_ <;> intro hsp) | (refine RegA.done ‹_› ?_; first | refine aKeep [0, 1, 4, 5, 6, 12] ?_ | skip))
      | (refine isN ?_; first | refine aNop ?_ | refine aNoff1 ?_ | refine aNoff2 ?_ | (refine aNsplit ?_ ?_ <;> intro hsp) | refine aNnil ?_)
      | (refine isA ?_; first | refine awp_seq fun K hK => ?_ | refine Awp.reg ?_ | refine aDrawN 11 [[], [], [], [1, 2], [3], [4], [], [], [6, 7], [8], [9], [0, 5, 0, 1, 2, 3, 4, 5, 6, 7, 8, 9, 10], [11, 10, 0, 1, 2, 3, 4, 5, 6, 7, 8, 9, 10]] [[], [], [], [1, 2], [3, 1, 2], [4, 3, 1, 2], [], [], [6, 7], [8, 6, 7], [9, 8, 6, 7], [0, 5, 1, 2, 3, 4, 6, 7, 8, 9, 10], [11, 10, 0, 1, 2, 3, 4, 5, 6, 7, 8, 9]] ?_ | refine Awp.skip ?_ | refine Awp.block ?_ | refine Awp.scope ?_ | refine aCt ?_ | refine aCf ?_ | (refine aCond ?_ ?_ <;> intro hsp) | (refine Awp.exit ?_; simp only [blockQ, thenQ, scopeQ, ↓reduceIte, Nat.reduceEqDiff]))
      | (refine viaK ‹_› ?_; first | refine aKeep [0, 1, 4, 5, 6, 12] ?_ | skip)
      | simp only [thenQ_normal, blockQ_normal])); all_goals (clear XH; clear XG))
    · refine RegA.nil ⟨⟨i + 1, by omega⟩, [], ?_, ?_⟩
      · simp only [Wk, frIn, hpIn, lk_nil, lk_cons, renV, renX, renC, belV, belX, belC, belL, belB, List.cons_append, List.nil_append, ↓reduceIte, Nat.reduceEqDiff, and_self, and_true, true_and] <;> simp [-List.getD_eq_getElem?_getD, vv, one, renV, renX, renC, belV, belX, belC, belL, belB, rho, renO, belO, lk_nil, lk_cons, num_set, apI_succ m hi1]
      · (simp only []; omega)
    · subst hi1
      have e : apT m l = apI m l l.length := by unfold apT; rfl
      (refine Awp.ret ?_; refine aRet ?_; (simp [-List.getD_eq_getElem?_getD, laxR, laxX, laxC, laxCs, rB, rN, rO, rBy, rSup, supP_len, rB2, rEn, e]))
set_option maxHeartbeats 4000000 in
set_option maxRecDepth 10000 in
open X6acc57e in
theorem k_ref08_Apply (m : List Int) (l : List Ent) (hl : l.length ≤ 1000000) (hn : m.length ≤ 1000000) : Con Try.prog 26 [sN .u64 m, sEn l] [rO .u64 (apV m l), rN .i64 (apE m l)] := by
  refine con_of_awp hmix Try.func26 s26 rfl (by rw [n26]; simp) r26 n26 ?_
  simp only [Eng.start, startFr, inX, sN, vN, List.map_cons, List.map_nil, supA, supC, sEn, c26]
  (repeat' (first
    | (refine isR ?_; first | (refine isC ?_; first | (refine isF 27 ?_; first | (refine aCallF 27 ?_; apply aE3; exact k_ref02_Check _; exact flatA; refine aPost ?_)) | (refine isF 21 ?_; first | (refine aCallF 21 ?_; apply aE3; exact k_ref08_Check _ _; exact flatA; refine aPost ?_)) | (refine isF 40 ?_; first | (refine aCall 40 ?_; apply aE2; exact k_ref08_Applied _ _ (enE_is ‹enE l _ = 0›).2.2 (by omega) (by omega); refine aPost ?_))) | refine aOp ?_ | refine aOff1 ?_ | refine aOff2 ?_ | (refine aSplit ?_ ?_ <;> intro hsp) | (refine RegA.done ‹_› ?_; first | refine aKeep [0, 1, 4, 5, 8, 13] ?_ | skip))
    | (refine isA ?_; first | refine awp_seq fun K hK => ?_ | refine Awp.reg ?_ | refine Awp.skip ?_ | refine Awp.block ?_ | refine Awp.scope ?_ | refine aCt ?_ | refine aCf ?_ | (refine aCond ?_ ?_ <;> intro hsp) | (refine Awp.exit ?_; simp only [blockQ, thenQ, scopeQ, ↓reduceIte, Nat.reduceEqDiff]))
    | (refine viaK ‹_› ?_; first | refine aKeep [0, 1, 4, 5, 8, 13] ?_ | skip)
    | simp only [thenQ_normal, blockQ_normal]))
  · have e := apE_8 l ‹¬ chk m.length = 0›
    have e2 := apV_no (m := m) (l := l) (by omega)
    (refine Awp.ret ?_; refine aRet ?_; (simp [-List.getD_eq_getElem?_getD, laxR, laxX, laxC, laxCs, rB, rN, rO, rBy, rSup, supP_len, rB2, rEn, e, e2]))
  · have e := apE_y l ‹chk m.length = 0›
    have e2 := apV_no (m := m) (l := l) (by rw [e]; assumption)
    (refine Awp.ret ?_; refine aRet ?_; (simp [-List.getD_eq_getElem?_getD, laxR, laxX, laxC, laxCs, rB, rN, rO, rBy, rSup, supP_len, rB2, rEn, e, e2]))
  · have e := apE_y l ‹chk m.length = 0›
    have e1 := ‹enE l m.length = 0›
    have e2 := apV_0 (m := m) (l := l) (by rw [e]; assumption)
    (refine Awp.ret ?_; refine aRet ?_; (simp [-List.getD_eq_getElem?_getD, laxR, laxX, laxC, laxCs, rB, rN, rO, rBy, rSup, supP_len, rB2, rEn, e, e1, e2]))
end
end Go.Proofs.Ytmhnogmbpoeaeaa
