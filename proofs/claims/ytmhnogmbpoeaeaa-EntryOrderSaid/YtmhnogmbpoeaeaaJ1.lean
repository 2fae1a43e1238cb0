/-
  The contracts of the program's functions, data in, data out. Conditions: those in the statements.
-/
import Derived.Test.YtmhnogmbpoeaeaaH1
namespace Go.Proofs.Ytmhnogmbpoeaeaa
set_option linter.all false
open Go Go.Proofs.Ytmhnogmbpoeaeaa.Eng Go.RowKit
noncomputable section

/-- An address that may be changed. -/
@[irreducible] def frB (a w : Int) : Bool := decide (16 ≤ a) && (decide (a < w) && (decide (a < 24) || decide (95 < a)))
theorem frB_iff {a w : Int} : frB a w = true ↔ 16 ≤ a ∧ a < w ∧ (a < 24 ∨ 95 < a) := by
  unfold frB
  simp only [Bool.and_eq_true, Bool.or_eq_true, decide_eq_true_eq]
/-- The first n entries are those of a change. -/
def okTo (l : List Ent) (w : Int) (n : Nat) : Prop := ∀ j < n, frB (l.getD j default).at_ w = true ∧ ∀ k < j, ¬ (l.getD k default).at_ = (l.getD j default).at_
@[irreducible] def okL (l : List Ent) (w : Int) : Prop := okTo l w l.length
@[irreducible] def enE (l : List Ent) (w : Int) : Int := if sz w = true then (if 32 < l.length then 4 else (open Classical in if okL l w then 0 else 8)) else 2
theorem enE_2 {l : List Ent} {w : Int} (h : sz w = false) : enE l w = 2 := by unfold enE; rw [if_neg (by rw [h]; decide)]
theorem enE_4 {l : List Ent} {w : Int} (h : sz w = true) (h2 : 32 < l.length) : enE l w = 4 := by unfold enE; rw [if_pos h, if_pos h2]
theorem enE_0 {l : List Ent} {w : Int} (h : sz w = true) (h2 : l.length ≤ 32) (h3 : okTo l w l.length) : enE l w = 0 := by unfold enE okL; rw [if_pos h, if_neg (by omega), if_pos h3]
theorem enE_8 {l : List Ent} {w : Int} (h : sz w = true) (h2 : l.length ≤ 32) (h3 : ¬ okTo l w l.length) : enE l w = 8 := by unfold enE okL; rw [if_pos h, if_neg (by omega), if_neg h3]
theorem enE_8a {l : List Ent} {w : Int} (h : sz w = true) (h2 : l.length ≤ 32) {i : Nat} (hi : i < l.length) (h3 : frB (l.getD i default).at_ w = false) : enE l w = 8 := enE_8 h h2 fun h4 => by
  have := (h4 i hi).1
  rw [h3] at this; cases this
theorem enE_8b {l : List Ent} {w : Int} (h : sz w = true) (h2 : l.length ≤ 32) {i k : Nat} (hi : i < l.length) (hk : k < i) (h3 : (l.getD k default).at_ = (l.getD i default).at_) : enE l w = 8 := enE_8 h h2 fun h4 => (h4 i hi).2 k hk h3
theorem enE_is {l : List Ent} {w : Int} (h : enE l w = 0) : sz w = true ∧ l.length ≤ 32 ∧ okTo l w l.length := by
  unfold enE okL at h
  split at h
  · rename_i h1
    split at h
    · omega
    · split at h
      · rename_i h2 h3; exact ⟨h1, by omega, h3⟩
      · omega
  · omega
theorem enE_or (l : List Ent) (w : Int) : enE l w = 0 ∨ enE l w = 2 ∨ enE l w = 4 ∨ enE l w = 8 := by
  unfold enE
  split
  · split
    · exact .inr (.inr (.inl rfl))
    · split
      · exact .inl rfl
      · exact .inr (.inr (.inr rfl))
  · exact .inr (.inl rfl)
@[irreducible] def mayB (a w : Int) : Bool := sz w && frB a w
@[irreducible] def mayE (w : Int) : Int := if sz w = true then 0 else 2
theorem may_no {w : Int} (a : Int) (h : sz w = false) : mayB a w = false ∧ mayE w = 2 := by
  unfold mayB mayE
  rw [h]; exact ⟨rfl, rfl⟩
theorem may_yes {w : Int} (a : Int) (h : sz w = true) : mayB a w = frB a w ∧ mayE w = 0 := by
  unfold mayB mayE
  rw [h]; exact ⟨rfl, rfl⟩
namespace X21f0534
def XX := (And.intro (And.intro (And.intro @tdiv8 (And.intro @tmod8 @toNatAddI)) (And.intro (And.intro @toNatSubI @takeAll) (And.intro @takeDropAll @getD_entC))) (And.intro (And.intro @List.all_cons.{0} (And.intro @List.all_nil.{0} @List.getElem?_cons_zero.{0})) (And.intro (And.intro @List.getElem?_cons_succ.{0} @Bool.and_self) (And.intro @List.cons_append.{0} @Nat.mul_one))))
def XN := @Nat.zero_add
def XR := (And.intro (And.intro @rBy.eq_1 @rSup.eq_1) (And.intro @supP_len (And.intro @rB2.eq_1 @rEn.eq_1)))
def XH := @Nat.zero_add
def XG := @Nat.zero_add
end X21f0534
set_option maxHeartbeats 4000000 in
set_option maxRecDepth 10000 in
open X21f0534 in
theorem k_ref08_Free (a w : Int) : Con Try.prog 37 [vN .i64 a, vN .i64 w] [rB (frB a w)] := by
  refine con_of_awp hmix Try.func37 s37 rfl (by rw [n37]; simp) r37 n37 ?_
  simp only [Eng.start, startFr, inX, sN, vN, List.map_cons, List.map_nil, supA, supC, sEn, c37]
  (repeat' (first
    | (refine isR ?_; first | refine aOp ?_ | refine aOff1 ?_ | refine aOff2 ?_ | (refine aSplit ?_ ?_ <;> intro hsp) | (refine RegA.done ‹_› ?_; first | refine aKeep [0, 1, 4] ?_ | skip))
    | (refine isA ?_; first | refine awp_seq fun K hK => ?_ | refine Awp.reg ?_ | refine Awp.skip ?_ | refine Awp.block ?_ | refine Awp.scope ?_ | refine aCt ?_ | refine aCf ?_ | (refine aCond ?_ ?_ <;> intro hsp) | (refine Awp.exit ?_; simp only [blockQ, thenQ, scopeQ, ↓reduceIte, Nat.reduceEqDiff]))
    | (refine viaK ‹_› ?_; first | refine aKeep [0, 1, 4] ?_ | skip)
    | simp only [thenQ_normal, blockQ_normal]))
  all_goals (refine Awp.ret ?_; refine aRet ?_; (simp [-List.getD_eq_getElem?_getD, laxR, laxX, laxC, laxCs, rB, rN, rO, rBy, rSup, supP_len, rB2, rEn, frB, *] <;> (intros; omega)))
set_option maxHeartbeats 4000000 in
set_option maxRecDepth 10000 in
open X21f0534 in
theorem k_ref08_Great (l : List Ent) : Con Try.prog 17 [sEn l] [rB (decide (50 < (l.length : Int)))] := by
  refine con_of_awp hmix Try.func17 s17 rfl (by rw [n17]; simp) r17 n17 ?_
  simp only [Eng.start, startFr, inX, sN, vN, List.map_cons, List.map_nil, supA, supC, sEn, c17]
  (repeat' (first
    | (refine isR ?_; first | refine aOp ?_ | refine aOff1 ?_ | refine aOff2 ?_ | (refine aSplit ?_ ?_ <;> intro hsp) | (refine RegA.done ‹_› ?_; first | refine aKeep [0, 2] ?_ | skip))
    | (refine isA ?_; first | refine awp_seq fun K hK => ?_ | refine Awp.reg ?_ | refine Awp.skip ?_ | refine Awp.block ?_ | refine Awp.scope ?_ | refine aCt ?_ | refine aCf ?_ | (refine aCond ?_ ?_ <;> intro hsp) | (refine Awp.exit ?_; simp only [blockQ, thenQ, scopeQ, ↓reduceIte, Nat.reduceEqDiff]))
    | (refine viaK ‹_› ?_; first | refine aKeep [0, 2] ?_ | skip)
    | simp only [thenQ_normal, blockQ_normal]))
  all_goals (refine Awp.ret ?_; refine aRet ?_; (simp [-List.getD_eq_getElem?_getD, laxR, laxX, laxC, laxCs, rB, rN, rO, rBy, rSup, supP_len, rB2, rEn] <;> (intros; omega)))
set_option maxHeartbeats 4000000 in
set_option maxRecDepth 10000 in
open X21f0534 in
theorem k_ref08_Twin (l : List Ent) (hl : l.length ≤ 1000000) : Con Try.prog 18 [sEn l] [rEn l] := by
  refine con_of_awp hmix Try.func18 s18 rfl (by rw [n18]; simp) r18 n18 ?_
  simp only [Eng.start, startFr, inX, sN, vN, List.map_cons, List.map_nil, supA, supC, sEn, c18]
  (repeat' (first
    | (refine isR ?_; first | refine aOp ?_ | refine aOff1 ?_ | refine aOff2 ?_ | (refine aSplit ?_ ?_ <;> intro hsp) | (refine RegA.done ‹_› ?_; first | refine aKeep [0, 2] ?_ | skip))
    | (refine isA ?_; first | refine awp_seq fun K hK => ?_ | refine Awp.reg ?_ | refine Awp.skip ?_ | refine Awp.block ?_ | refine Awp.scope ?_ | refine aCt ?_ | refine aCf ?_ | (refine aCond ?_ ?_ <;> intro hsp) | (refine Awp.exit ?_; simp only [blockQ, thenQ, scopeQ, ↓reduceIte, Nat.reduceEqDiff]))
    | (refine viaK ‹_› ?_; first | refine aKeep [0, 2] ?_ | skip)
    | simp only [thenQ_normal, blockQ_normal]))
  all_goals (refine Awp.ret ?_; refine aRet ?_; (simp [-List.getD_eq_getElem?_getD, laxR, laxX, laxC, laxCs, rB, rN, rO, rBy, rSup, supP_len, rB2, rEn, rEn] <;> (intros; omega)))
set_option maxHeartbeats 4000000 in
set_option maxRecDepth 10000 in
open X21f0534 in
theorem k_ref08_May (a w : Int) : Con Try.prog 19 [vN .i64 a, vN .i64 w] [rB (mayB a w), rN .i64 (mayE w)] := by
  refine con_of_awp hmix Try.func19 s19 rfl (by rw [n19]; simp) r19 n19 ?_
  simp only [Eng.start, startFr, inX, sN, vN, List.map_cons, List.map_nil, supA, supC, sEn, c19]
  (repeat' (first
    | (refine isR ?_; first | (refine isC ?_; first | (refine isF 36 ?_; first | (refine aCallF 36 ?_; apply aE3; exact k_ref02_Size _; exact flatA; refine aPost ?_)) | (refine isF 37 ?_; first | (refine aCallF 37 ?_; apply aE3; exact k_ref08_Free _ _; exact flatA; refine aPost ?_))) | refine aOp ?_ | refine aOff1 ?_ | refine aOff2 ?_ | (refine aSplit ?_ ?_ <;> intro hsp) | (refine RegA.done ‹_› ?_; first | refine aKeep [0, 1, 4, 5, 8] ?_ | skip))
    | (refine isA ?_; first | refine awp_seq fun K hK => ?_ | refine Awp.reg ?_ | refine Awp.skip ?_ | refine Awp.block ?_ | refine Awp.scope ?_ | refine aCt ?_ | refine aCf ?_ | (refine aCond ?_ ?_ <;> intro hsp) | (refine Awp.exit ?_; simp only [blockQ, thenQ, scopeQ, ↓reduceIte, Nat.reduceEqDiff]))
    | (refine viaK ‹_› ?_; first | refine aKeep [0, 1, 4, 5, 8] ?_ | skip)
    | simp only [thenQ_normal, blockQ_normal]))
  · obtain ⟨e1, e2⟩ := may_no a ‹sz w = false›
    (refine Awp.ret ?_; refine aRet ?_; (simp [-List.getD_eq_getElem?_getD, laxR, laxX, laxC, laxCs, rB, rN, rO, rBy, rSup, supP_len, rB2, rEn, e1, e2]))
  · obtain ⟨e1, e2⟩ := may_yes a ‹sz w = true›
    (refine Awp.ret ?_; refine aRet ?_; (simp [-List.getD_eq_getElem?_getD, laxR, laxX, laxC, laxCs, rB, rN, rO, rBy, rSup, supP_len, rB2, rEn, e1, e2]))
set_option maxHeartbeats 4000000 in
set_option maxRecDepth 10000 in
open X21f0534 in
theorem k_ref08_Check (l : List Ent) (w : Int) : Con Try.prog 21 [sEn l, vN .i64 w] [rN .i64 (enE l w)] := by
  refine con_of_awp hmix Try.func21 s21 rfl (by rw [n21]; simp) r21 n21 ?_
  simp only [Eng.start, startFr, inX, sN, vN, List.map_cons, List.map_nil, supA, supC, sEn, c21]
  (repeat' (first
    | (refine isR ?_; first | (refine isC ?_; first | (refine isF 36 ?_; first | (refine aCallF 36 ?_; apply aE3; exact k_ref02_Size _; exact flatA; refine aPost ?_))) | refine aOp ?_ | refine aOff1 ?_ | refine aOff2 ?_ | (refine aSplit ?_ ?_ <;> intro hsp) | (refine RegA.done ‹_› ?_; first | refine aKeep [0, 1, 4, 5, 6, 9, 12, 16, 26, 29, 42] ?_ | skip))
    | (refine isN ?_; first | (refine aNcall (f := 36) ?_; apply aE6; exact k_ref02_Size _; (refine aNr (by simp only [unV', unX, unXs, unC, unL, rN, rB, List.append_nil, List.nil_append, rBy, rSup, supP_len, rB2, rEn]; rfl) rfl rfl); (first | exact .inl rfl | exact .inr flatA); refine aNpost ?_) | refine aNop ?_ | refine aNoff1 ?_ | refine aNoff2 ?_ | (refine aNsplit ?_ ?_ <;> intro hsp) | refine aNnil ?_)
    | (refine isA ?_; first | refine awp_seq fun K hK => ?_ | refine Awp.reg ?_ | refine aDrawN 10 [[], [], [0, 1], [2], [3], [], [], [5, 6], [7], [8], [4, 9]] [[], [], [0, 1], [2, 0, 1], [3, 2, 0, 1], [], [], [5, 6], [7, 5, 6], [8, 7, 5, 6], [4, 9, 3, 2, 0, 1, 8, 7, 5, 6]] ?_ | refine Awp.skip ?_ | refine Awp.block ?_ | refine Awp.scope ?_ | refine aCt ?_ | refine aCf ?_ | (refine aCond ?_ ?_ <;> intro hsp) | (refine Awp.exit ?_; simp only [blockQ, thenQ, scopeQ, ↓reduceIte, Nat.reduceEqDiff]))
    | (refine viaK ‹_› ?_; first | refine aKeep [0, 1, 4, 5, 6, 9, 12, 16, 26, 29, 42] ?_ | skip)
    | simp only [thenQ_normal, blockQ_normal]))
  · have e := enE_2 (l := l) ‹sz w = false›
    (refine Awp.ret ?_; refine aRet ?_; (simp [-List.getD_eq_getElem?_getD, laxR, laxX, laxC, laxCs, rB, rN, rO, rBy, rSup, supP_len, rB2, rEn, e]))
  · have e := enE_4 (l := l) ‹sz w = true› (by omega)
    (refine Awp.ret ?_; refine aRet ?_; (simp [-List.getD_eq_getElem?_getD, laxR, laxX, laxC, laxCs, rB, rN, rO, rBy, rSup, supP_len, rB2, rEn, e]))
  · refine Awp.loopK (α := {i : Nat // i ≤ l.length ∧ okTo l w i}) (fun x => [(4, vv (.int .i64 0)), (5, vv (.int .i64 (x.1 : Int)))]) (fun x => []) [0, 1] [] (fun x => l.length - x.1) ⟨0, by omega, fun j hj => absurd hj (by omega)⟩ [] (by simp only [List.filterMap_cons, List.filterMap_nil, lk_nil, lk_cons, ↓reduceIte, Nat.reduceEqDiff, Option.map_some, Option.map_none]; rfl) (by simp only [List.filterMap_cons, List.filterMap_nil, lk_nil, lk_cons, ↓reduceIte, Nat.reduceEqDiff, Option.map_some, Option.map_none]; rfl) rfl rfl ?_ ?_
    · simp only [Wk, frIn, hpIn, lk_nil, lk_cons, renV, renX, renC, belV, belX, belC, belL, belB, List.cons_append, List.nil_append, ↓reduceIte, Nat.reduceEqDiff, and_self, and_true, true_and] <;> simp [-List.getD_eq_getElem?_getD, vv, one, renV, renX, renC, belV, belX, belC, belL, belB, rho, renO, belO, lk_nil, lk_cons]
    · rintro ⟨i, hi, ho⟩
      simp only [vv, one, List.cons_append, List.nil_append]
      (repeat' (first
        | (refine isR ?_; first | (refine isC ?_; first | (refine isF 37 ?_; first | (refine aCallF 37 ?_; apply aE3; exact k_ref08_Free _ _; exact flatA; refine aPost ?_))) | refine aOp ?_ | refine aOff1 ?_ | refine aOff2 ?_ | (refine aSplit ?_ ?_ <;> intro hsp) | (refine RegA.done ‹_› ?_; first | refine aKeep [0, 1, 4, 5, 6, 9, 12, 16, 26, 29, 42] ?_ | skip))
        | (refine isN ?_; first | (refine aNcall (f := 37) ?_; apply aE6; exact k_ref08_Free _ _; (refine aNr (by simp only [unV', unX, unXs, unC, unL, rN, rB, List.append_nil, List.nil_append, rBy, rSup, supP_len, rB2, rEn]; rfl) rfl rfl); (first | exact .inl rfl | exact .inr flatA); refine aNpost ?_) | refine aNop ?_ | refine aNoff1 ?_ | refine aNoff2 ?_ | (refine aNsplit ?_ ?_ <;> intro hsp) | refine aNnil ?_)
        | (refine isA ?_; first | refine awp_seq fun K hK => ?_ | refine Awp.reg ?_ | refine aDrawN 10 [[], [], [0, 1], [2], [3], [], [], [5, 6], [7], [8], [4, 9]] [[], [], [0, 1], [2, 0, 1], [3, 2, 0, 1], [], [], [5, 6], [7, 5, 6], [8, 7, 5, 6], [4, 9, 3, 2, 0, 1, 8, 7, 5, 6]] ?_ | refine Awp.skip ?_ | refine Awp.block ?_ | refine Awp.scope ?_ | refine aCt ?_ | refine aCf ?_ | (refine aCond ?_ ?_ <;> intro hsp) | (refine Awp.exit ?_; simp only [blockQ, thenQ, scopeQ, ↓reduceIte, Nat.reduceEqDiff]))
        | (refine viaK ‹_› ?_; first | refine aKeep [0, 1, 4, 5, 6, 9, 12, 16, 26, 29, 42] ?_ | skip)
        | simp only [thenQ_normal, blockQ_normal]))
      · have e := enE_8a (l := l) ‹sz w = true› (by omega) (i := i) (by omega) ‹frB (l.getD i default).at_ w = false›
        (refine Awp.ret ?_; refine aRet ?_; (simp [-List.getD_eq_getElem?_getD, laxR, laxX, laxC, laxCs, rB, rN, rO, rBy, rSup, supP_len, rB2, rEn, e]))
      · refine Awp.loopK (α := {k : Nat // k ≤ i ∧ ∀ k' < k, ¬ (l.getD k' default).at_ = (l.getD i default).at_}) (fun x => [(4, vv (.int .i64 0)), (6, vv (.int .i64 (x.1 : Int)))]) (fun x => []) [0, 5, 1] [] (fun x => i - x.1) ⟨0, by omega, by simp⟩ [] (by simp only [List.filterMap_cons, List.filterMap_nil, lk_nil, lk_cons, ↓reduceIte, Nat.reduceEqDiff, Option.map_some, Option.map_none]; rfl) (by simp only [List.filterMap_cons, List.filterMap_nil, lk_nil, lk_cons, ↓reduceIte, Nat.reduceEqDiff, Option.map_some, Option.map_none]; rfl) rfl rfl ?_ ?_
        · simp only [Wk, frIn, hpIn, lk_nil, lk_cons, renV, renX, renC, belV, belX, belC, belL, belB, List.cons_append, List.nil_append, ↓reduceIte, Nat.reduceEqDiff, and_self, and_true, true_and] <;> simp [-List.getD_eq_getElem?_getD, vv, one, renV, renX, renC, belV, belX, belC, belL, belB, rho, renO, belO, lk_nil, lk_cons]
        · rintro ⟨k, hk, hd⟩
          simp only [vv, one, List.cons_append, List.nil_append]
          (repeat' (first
            | (refine isR ?_; first | refine aOp ?_ | refine aOff1 ?_ | refine aOff2 ?_ | (refine aSplit ?_ ?_ <;> intro hsp) | (refine RegA.done ‹_› ?_; first | refine aKeep [0, 1, 4, 5, 6, 9, 12, 16, 26, 29, 42] ?_ | skip))
            | (refine isN ?_; first | refine aNop ?_ | refine aNoff1 ?_ | refine aNoff2 ?_ | (refine aNsplit ?_ ?_ <;> intro hsp) | refine aNnil ?_)
            | (refine isA ?_; first | refine awp_seq fun K hK => ?_ | refine Awp.reg ?_ | refine aDrawN 10 [[], [], [0, 1], [2], [3], [], [], [5, 6], [7], [8], [4, 9]] [[], [], [0, 1], [2, 0, 1], [3, 2, 0, 1], [], [], [5, 6], [7, 5, 6], [8, 7, 5, 6], [4, 9, 3, 2, 0, 1, 8, 7, 5, 6]] ?_ | refine Awp.skip ?_ | refine Awp.block ?_ | refine Awp.scope ?_ | refine aCt ?_ | refine aCf ?_ | (refine aCond ?_ ?_ <;> intro hsp) | (refine Awp.exit ?_; simp only [blockQ, thenQ, scopeQ, ↓reduceIte, Nat.reduceEqDiff]))
            | (refine viaK ‹_› ?_; first | refine aKeep [0, 1, 4, 5, 6, 9, 12, 16, 26, 29, 42] ?_ | skip)
            | simp only [thenQ_normal, blockQ_normal]))
          · have e := enE_8b (w := w) ‹sz w = true› (by omega) (i := i) (k := k) (by omega) (by omega) ‹(l.getD k default).at_ = (l.getD i default).at_›
            (refine Awp.ret ?_; refine aRet ?_; (simp [-List.getD_eq_getElem?_getD, laxR, laxX, laxC, laxCs, rB, rN, rO, rBy, rSup, supP_len, rB2, rEn, e]))
          · refine RegA.nil ⟨⟨k + 1, by omega, fun k' hk' => by rcases Nat.lt_succ_iff_lt_or_eq.1 hk' with h | rfl; exact hd k' h; assumption⟩, [], ?_, ?_⟩
            · simp only [Wk, frIn, hpIn, lk_nil, lk_cons, renV, renX, renC, belV, belX, belC, belL, belB, List.cons_append, List.nil_append, ↓reduceIte, Nat.reduceEqDiff, and_self, and_true, true_and] <;> simp [-List.getD_eq_getElem?_getD, vv, one, renV, renX, renC, belV, belX, belC, belL, belB, rho, renO, belO, lk_nil, lk_cons]
            · (simp only []; omega)
          · obtain rfl : k = i := by omega
            refine RegA.nil ⟨⟨k + 1, by omega, fun j hj => by rcases Nat.lt_succ_iff_lt_or_eq.1 hj with h | rfl; exact ho j h; exact ⟨‹frB _ w = true›, hd⟩⟩, [], ?_, ?_⟩
            · simp only [Wk, frIn, hpIn, lk_nil, lk_cons, renV, renX, renC, belV, belX, belC, belL, belB, List.cons_append, List.nil_append, ↓reduceIte, Nat.reduceEqDiff, and_self, and_true, true_and] <;> simp [-List.getD_eq_getElem?_getD, vv, one, renV, renX, renC, belV, belX, belC, belL, belB, rho, renO, belO, lk_nil, lk_cons]
            · (simp only []; omega)
      · obtain rfl : i = l.length := by omega
        have e := enE_0 (l := l) ‹sz w = true› (by omega) ho
        (refine Awp.ret ?_; refine aRet ?_; (simp [-List.getD_eq_getElem?_getD, laxR, laxX, laxC, laxCs, rB, rN, rO, rBy, rSup, supP_len, rB2, rEn, e]))
end
end Go.Proofs.Ytmhnogmbpoeaeaa
