/-
  The contracts of the program's functions, data in, data out. Conditions: those in the statements.
-/
import Derived.Test.YtijllihnheggbaaD3
namespace Go.Proofs.Ytijllihnheggbaa
set_option linter.all false
open Go Go.Proofs.Ytijllihnheggbaa.Eng Go.RowKit
noncomputable section

@[irreducible] def rzn (l : List Int) : Nat := if l.isEmpty then 0 else 1
theorem rzn_nil : rzn [] = 0 := by unfold rzn; rfl
theorem rzn_snoc (l : List Int) (x : Int) : rzn (l ++ [x]) = 1 := by unfold rzn; simp
theorem rzn_or (l : List Int) : (rzn l = 1 ∨ rzn l = 0) = True := by unfold rzn; cases l <;> simp
theorem rzn_or' (l : List Int) : rzn l = 1 ∨ l = [] := by unfold rzn; cases l <;> simp
theorem int_snoc (l : List Int) (a : Int) : l.map (numD .i64) ++ [[.v (.int .i64 a)]] = (l ++ [a]).map (numD .i64) := by rw [List.map_append]; rfl
namespace X2b15b8b
def XX := (And.intro (And.intro @getD_dty (And.intro @tdiv8 @tmod8)) (And.intro (And.intro @takeAll @takeDropAll) (And.intro @toNatAdd @toNatSub)))
def XN := @Nat.zero_add
def XR := (And.intro (And.intro @rDev.eq_1 @dtyD.eq_1) (And.intro @spent_img @spent_dirty))
def XH := @Nat.zero_add
def XG := @Nat.zero_add
end X2b15b8b
set_option maxHeartbeats 4000000 in
set_option maxRecDepth 10000 in
open X2b15b8b in
theorem k_crash_indices (l : List Dty) (m : Int) (hl : l.length ≤ 1000000) (hs : Srt l) : Con Try.prog 31 [sD l, sD (keptL m l)] [rI (chosenL m l.length)] := by
  have hk2 := keptL_le m l
  refine con_of_awp hmix Try.func31 s31 rfl (by rw [n31]; simp) r31 n31 ?_
  simp only [Eng.start, startFr, inX, sN, vN, List.map_cons, List.map_nil, devA, devC, dtyD, sD, c31]
  (repeat' (first
    | refine aOp ?_
    | refine aOff1 ?_
    | refine aOff2 ?_
    | (refine aSplit ?_ ?_ <;> intro hsp)
    | (refine RegA.done ‹_› ?_; first | refine aKeep [0, 1, 4, 5, 6, 8, 9, 10, 28] ?_ | skip)
    | refine awp_seq fun K hK => ?_
    | refine Awp.reg ?_
    | refine aNop ?_
    | refine aNoff1 ?_
    | refine aNoff2 ?_
    | (refine aNsplit ?_ ?_ <;> intro hsp)
    | refine aNnil ?_
    | refine aDrawN 15 [[], [0], [], [2], [1, 3], [4], [5], [5], [6, 7, 5], [8, 5], [5], [5], [11, 5], [10, 12, 5], [13, 5], [9, 14, 5], [5, 15]] [[], [0], [], [2], [1, 3, 0, 2], [4, 1, 3, 0, 2], [5, 4, 1, 3, 0, 2], [5, 4, 1, 3, 0, 2], [6, 7, 5, 4, 1, 3, 0, 2], [8, 5, 6, 7, 4, 1, 3, 0, 2], [5, 4, 1, 3, 0, 2], [5, 4, 1, 3, 0, 2], [11, 5, 4, 1, 3, 0, 2], [10, 12, 5, 4, 1, 3, 0, 2, 11], [13, 5, 10, 12, 4, 1, 3, 0, 2, 11], [9, 14, 5, 8, 6, 7, 4, 1, 3, 0, 2, 13, 10, 12, 11], [5, 15, 4, 1, 3, 0, 2, 9, 14, 8, 6, 7, 13, 10, 12, 11]] ?_
    | refine Awp.skip ?_
    | refine Awp.block ?_
    | refine Awp.scope ?_
    | refine aCt ?_
    | refine aCf ?_
    | (refine aCond ?_ ?_ <;> intro hsp)
    | (refine Awp.exit ?_; simp only [blockQ, thenQ, scopeQ, ↓reduceIte, Nat.reduceEqDiff])
    | (refine viaK ‹_› ?_; first | refine aKeep [0, 1, 4, 5, 6, 8, 9, 10, 28] ?_ | skip)
    | simp only [thenQ_normal, blockQ_normal]))
  refine Awp.loopK (α := {i : Nat // i ≤ l.length}) (fun x => [(9, vv (.int .i64 (x.1 : Int))), (5, one (.own 1 (chosenL m x.1).length))]) (fun x => [(1, .row (rzn (chosenL m x.1)) ((chosenL m x.1).map (numD .i64)) false)]) [0, 1, 4, 8] [] (fun x => l.length - x.1) ⟨0, by omega⟩ [] (by simp only [List.filterMap_cons, List.filterMap_nil, lk_nil, lk_cons, ↓reduceIte, Nat.reduceEqDiff, Option.map_some, Option.map_none]; rfl) (by simp only [List.filterMap_cons, List.filterMap_nil, lk_nil, lk_cons, ↓reduceIte, Nat.reduceEqDiff, Option.map_some, Option.map_none]; rfl) rfl rfl ?_ ?_
  · simp only [Wk, frIn, hpIn, lk_nil, lk_cons, renV, renX, renC, belV, belX, belC, belL, belB, List.cons_append, List.nil_append, ↓reduceIte, Nat.reduceEqDiff, and_self, and_true, true_and] <;> simp [-List.getD_eq_getElem?_getD, vv, one, renV, renX, renC, belV, belX, belC, belL, belB, rho, renO, belO, lk_nil, lk_cons, rzn_nil, chosenL_zero]
  · rintro ⟨i, hi⟩
    have hcl := chosenL_le m i
    dsimp only
    simp only [vv, one, List.cons_append, List.nil_append]
    (have XH := (And.intro (And.intro @rzn_or @List.length_append.{0}) (And.intro @eqs_dty @dty_eta)); have XG := (And.intro (And.intro (And.intro @int_snoc @List.take_succ_cons.{0}) (And.intro @List.take_zero.{0} (And.intro @List.take_nil.{0} @List.length_cons.{0}))) (And.intro (And.intro @List.length_nil.{0} @Nat.zero_add) (And.intro @List.drop_succ_cons.{0} (And.intro @List.drop_zero.{0} @List.drop_nil.{0})))); (repeat' (first
      | refine aOp ?_
      | refine aOff1 ?_
      | refine aOff2 ?_
      | (refine aSplit ?_ ?_ <;> intro hsp)
      | (refine RegA.done ‹_› ?_; first | refine aKeep [0, 1, 4, 5, 6, 8, 9, 10, 28] ?_ | skip)
      | refine awp_seq fun K hK => ?_
      | refine Awp.reg ?_
      | refine aNop ?_
      | refine aNoff1 ?_
      | refine aNoff2 ?_
      | (refine aNsplit ?_ ?_ <;> intro hsp)
      | refine aNnil ?_
      | refine aDrawN 15 [[], [0], [], [2], [1, 3], [4], [5], [5], [6, 7, 5], [8, 5], [5], [5], [11, 5], [10, 12, 5], [13, 5], [9, 14, 5], [5, 15]] [[], [0], [], [2], [1, 3, 0, 2], [4, 1, 3, 0, 2], [5, 4, 1, 3, 0, 2], [5, 4, 1, 3, 0, 2], [6, 7, 5, 4, 1, 3, 0, 2], [8, 5, 6, 7, 4, 1, 3, 0, 2], [5, 4, 1, 3, 0, 2], [5, 4, 1, 3, 0, 2], [11, 5, 4, 1, 3, 0, 2], [10, 12, 5, 4, 1, 3, 0, 2, 11], [13, 5, 10, 12, 4, 1, 3, 0, 2, 11], [9, 14, 5, 8, 6, 7, 4, 1, 3, 0, 2, 13, 10, 12, 11], [5, 15, 4, 1, 3, 0, 2, 9, 14, 8, 6, 7, 13, 10, 12, 11]] ?_
      | refine Awp.skip ?_
      | refine Awp.block ?_
      | refine Awp.scope ?_
      | refine aCt ?_
      | refine aCf ?_
      | (refine aCond ?_ ?_ <;> intro hsp)
      | (refine Awp.exit ?_; simp only [blockQ, thenQ, scopeQ, ↓reduceIte, Nat.reduceEqDiff])
      | (refine viaK ‹_› ?_; first | refine aKeep [0, 1, 4, 5, 6, 8, 9, 10, 28] ?_ | skip)
      | simp only [thenQ_normal, blockQ_normal])); all_goals (clear XH; clear XG))
    · have hk := (kept_here (m := m) hs (show i < l.length by omega)).1 ⟨by omega, ‹_›⟩
      have e := chosenL_t hk
      refine RegA.nil ⟨⟨i + 1, by omega⟩, [], ?_, ?_⟩
      · simp only [Wk, frIn, hpIn, lk_nil, lk_cons, renV, renX, renC, belV, belX, belC, belL, belB, List.cons_append, List.nil_append, ↓reduceIte, Nat.reduceEqDiff, and_self, and_true, true_and] <;> simp [-List.getD_eq_getElem?_getD, vv, one, renV, renX, renC, belV, belX, belC, belL, belB, rho, renO, belO, lk_nil, lk_cons, ← e, rzn_snoc]
      · (simp only []; omega)
    · have hk : keepB m i = false := by
        cases hq : keepB m i with
        | false => rfl
        | true => exact absurd ((kept_here (m := m) hs (show i < l.length by omega)).2 hq).2 ‹_›
      have e := chosenL_f hk
      refine RegA.nil ⟨⟨i + 1, by omega⟩, [], ?_, ?_⟩
      · simp only [Wk, frIn, hpIn, lk_nil, lk_cons, renV, renX, renC, belV, belX, belC, belL, belB, List.cons_append, List.nil_append, ↓reduceIte, Nat.reduceEqDiff, and_self, and_true, true_and] <;> simp [-List.getD_eq_getElem?_getD, vv, one, renV, renX, renC, belV, belX, belC, belL, belB, rho, renO, belO, lk_nil, lk_cons, ← e]
      · (simp only []; omega)
    · have hk : keepB m i = false := by
        cases hq : keepB m i with
        | false => rfl
        | true => have := ((kept_here (m := m) hs (show i < l.length by omega)).2 hq).1; omega
      have e := chosenL_f hk
      refine RegA.nil ⟨⟨i + 1, by omega⟩, [], ?_, ?_⟩
      · simp only [Wk, frIn, hpIn, lk_nil, lk_cons, renV, renX, renC, belV, belX, belC, belL, belB, List.cons_append, List.nil_append, ↓reduceIte, Nat.reduceEqDiff, and_self, and_true, true_and] <;> simp [-List.getD_eq_getElem?_getD, vv, one, renV, renX, renC, belV, belX, belC, belL, belB, rho, renO, belO, lk_nil, lk_cons, ← e]
      · (simp only []; omega)
    all_goals
      obtain rfl : i = l.length := by omega
      rcases rzn_or' (chosenL m l.length) with hz | hz
      · (refine Awp.ret ?_; refine aRet ?_; (simp [-List.getD_eq_getElem?_getD, laxR, laxX, laxC, laxCs, rB, rN, rO, rDev, dtyD, spent_img, spent_dirty, hz, rI, *]))
      · (refine Awp.ret ?_; refine aRet ?_; (simp [-List.getD_eq_getElem?_getD, laxR, laxX, laxC, laxCs, rB, rN, rO, rDev, dtyD, spent_img, spent_dirty, hz, rzn_nil, rI, *]))
set_option maxHeartbeats 4000000 in
set_option maxRecDepth 10000 in
open X2b15b8b in
theorem k_crash_Arm (d : Dev) (n : Int) (hm : d.img.length ≤ 1000000) (hl : d.dirty.length ≤ 1000000) : Con Try.prog 9 [devA d, vN .i64 n] [rDev (armX d n), rN .i64 (armE d n)] := by
  refine con_of_awp hmix Try.func9 s9 rfl (by rw [n9]; simp) r9 n9 ?_
  simp only [Eng.start, startFr, inX, sN, vN, List.map_cons, List.map_nil, devA, devC, dtyD, sD, c9]
  (repeat' (first
    | (refine aCallF 28 ?_; apply aE3; exact k_cache_Check _ (by omega) (by omega); exact flatA; refine aPost ?_)
    | refine aOp ?_
    | refine aOff1 ?_
    | refine aOff2 ?_
    | (refine aSplit ?_ ?_ <;> intro hsp)
    | (refine RegA.done ‹_› ?_; first | refine aKeep [0, 1, 2, 4, 5, 6, 10, 18] ?_ | skip)
    | refine awp_seq fun K hK => ?_
    | refine Awp.reg ?_
    | (refine aNcall (f := 28) ?_; apply aE6; exact k_cache_Check _ (by omega) (by omega); (refine aNr (by simp only [unV', unX, unXs, unC, unL, rN, rB, List.append_nil, List.nil_append, rDev, dtyD, spent_img, spent_dirty]; rfl) rfl rfl); (first | exact .inl rfl | exact .inr flatA); refine aNpost ?_)
    | refine aNop ?_
    | refine aNoff1 ?_
    | refine aNoff2 ?_
    | (refine aNsplit ?_ ?_ <;> intro hsp)
    | refine aNnil ?_
    | refine aDrawN 7 [[], [0], [1], [], [3], [4, 2], [], [2, 5, 6], [7, 5, 0, 1, 2, 3, 4, 5, 6, 7], [8, 0, 1, 2, 3, 4, 5, 6, 7, 8]] [[], [0], [1, 0], [], [3], [4, 2, 3, 1, 0], [], [2, 5, 6, 1, 0, 4, 3], [7, 5, 0, 1, 2, 3, 4, 6], [8, 0, 1, 2, 3, 4, 5, 6, 7]] ?_
    | refine Awp.skip ?_
    | refine Awp.block ?_
    | refine Awp.scope ?_
    | refine aCt ?_
    | refine aCf ?_
    | (refine aCond ?_ ?_ <;> intro hsp)
    | (refine Awp.exit ?_; simp only [blockQ, thenQ, scopeQ, ↓reduceIte, Nat.reduceEqDiff])
    | (refine viaK ‹_› ?_; first | refine aKeep [0, 1, 2, 4, 5, 6, 10, 18] ?_ | skip)
    | simp only [thenQ_normal, blockQ_normal]))
  all_goals first
  | (have e : armE d n = 8 := by unfold armE; rw [if_neg ‹_›]); (have e2 : armX d n = zDev := by unfold armX; rw [e]; rfl); (have e3 := chkD8 ‹_›); (refine Awp.ret ?_; refine aRet ?_; (simp [-List.getD_eq_getElem?_getD, laxR, laxX, laxC, laxCs, rB, rN, rO, rDev, dtyD, spent_img, spent_dirty, e, e2, e3, zDev, rDev]))
  | (have e : armE d n = 0 := by unfold armE; rw [if_pos ‹chkD d = 0›, if_pos ⟨by omega, by omega⟩]); (have e2 : armX d n = ⟨d.img, d.dirty, n, false⟩ := by unfold armX; rw [if_pos e]); (refine Awp.ret ?_; refine aRet ?_; (simp [-List.getD_eq_getElem?_getD, laxR, laxX, laxC, laxCs, rB, rN, rO, rDev, dtyD, spent_img, spent_dirty, e, e2, rDev, *]))
  | (have e : armE d n = 2 := by unfold armE; rw [if_pos ‹chkD d = 0›, if_neg (by omega)]); (have e2 : armX d n = zDev := by unfold armX; rw [e]; rfl); (refine Awp.ret ?_; refine aRet ?_; (simp [-List.getD_eq_getElem?_getD, laxR, laxX, laxC, laxCs, rB, rN, rO, rDev, dtyD, spent_img, spent_dirty, e, e2, zDev, rDev, *]))
end
end Go.Proofs.Ytijllihnheggbaa
