/-
  The contracts of the program's functions, data in, data out. Conditions: those in the statements.
-/
import Derived.Test.YtijllihnheggbaaD5
namespace Go.Proofs.Ytijllihnheggbaa
set_option linter.all false
open Go Go.Proofs.Ytijllihnheggbaa.Eng Go.RowKit
noncomputable section
namespace X5883ea9
def XX := (And.intro (And.intro @getD_dty (And.intro @tdiv8 @tmod8)) (And.intro (And.intro @takeAll @takeDropAll) (And.intro @toNatAdd @toNatSub)))
def XN := @Nat.zero_add
def XR := (And.intro (And.intro (And.intro @rDev.eq_1 @dtyD.eq_1) (And.intro @spent_img (And.intro @spent_dirty @sK.eq_1))) (And.intro (And.intro @sI.eq_1 @sDev.eq_1) (And.intro @sO.eq_1 (And.intro @rK.eq_1 @rI.eq_1))))
def XH := @Nat.zero_add
def XG := @Nat.zero_add
end X5883ea9
set_option maxHeartbeats 4000000 in
set_option maxRecDepth 10000 in
open X5883ea9 in
theorem k_ref04_Keeps (i : Nat) (m : Int) (hi : i ≤ 1000000) (h0 : 0 ≤ m ∧ m < 18446744073709551616) : Con Try.prog 35 [vN .u64 m, vN .i64 (i : Int)] [rB (keepB m i)] := by
  refine con_of_awp hmix Try.func35 s35 rfl (by rw [n35]; simp) r35 n35 ?_
  simp only [Eng.start, startFr, inX, sN, vN, List.map_cons, List.map_nil, devA, devC, dtyD, sD, c35]
  (have XH := @tmod64; (repeat' (first
    | refine aOp ?_
    | refine aOff1 ?_
    | refine aOff2 ?_
    | (refine aSplit ?_ ?_ <;> intro hsp)
    | (refine RegA.done ‹_› ?_; first | refine aKeep [0, 1, 4, 5, 9] ?_ | skip)
    | refine awp_seq fun K hK => ?_
    | refine Awp.reg ?_
    | refine Awp.skip ?_
    | refine Awp.block ?_
    | refine Awp.scope ?_
    | refine aCt ?_
    | refine aCf ?_
    | (refine aCond ?_ ?_ <;> intro hsp)
    | (refine Awp.exit ?_; simp only [blockQ, thenQ, scopeQ, ↓reduceIte, Nat.reduceEqDiff])
    | (refine viaK ‹_› ?_; first | refine aKeep [0, 1, 4, 5, 9] ?_ | skip)
    | simp only [thenQ_normal, blockQ_normal])); all_goals (clear XH))
  refine Awp.loopK (α := {k : Nat // k ≤ i % 64}) (fun x => [(5, vv (.int .i64 (x.1 : Int))), (0, vv (.int .u64 (half m x.1)))]) (fun x => []) [1, 4] [] (fun x => i % 64 - x.1) ⟨0, by omega⟩ [] (by simp only [List.filterMap_cons, List.filterMap_nil, lk_nil, lk_cons, ↓reduceIte, Nat.reduceEqDiff, Option.map_some, Option.map_none]; rfl) (by simp only [List.filterMap_cons, List.filterMap_nil, lk_nil, lk_cons, ↓reduceIte, Nat.reduceEqDiff, Option.map_some, Option.map_none]; rfl) rfl rfl ?_ ?_
  · simp only [Wk, frIn, hpIn, lk_nil, lk_cons, renV, renX, renC, belV, belX, belC, belL, belB, List.cons_append, List.nil_append, ↓reduceIte, Nat.reduceEqDiff, and_self, and_true, true_and] <;> simp [-List.getD_eq_getElem?_getD, vv, one, renV, renX, renC, belV, belX, belC, belL, belB, rho, renO, belO, lk_nil, lk_cons, half_zero]
  · rintro ⟨k, hk⟩
    have hh := half_le h0.1 k
    dsimp only
    simp only [vv, one, List.cons_append, List.nil_append]
    (have XH := (And.intro @tmod64 ((half_succ h0.1 h0.2))); (repeat' (first
      | refine aOp ?_
      | refine aOff1 ?_
      | refine aOff2 ?_
      | (refine aSplit ?_ ?_ <;> intro hsp)
      | (refine RegA.done ‹_› ?_; first | refine aKeep [0, 1, 4, 5, 9] ?_ | skip)
      | refine awp_seq fun K hK => ?_
      | refine Awp.reg ?_
      | refine Awp.skip ?_
      | refine Awp.block ?_
      | refine Awp.scope ?_
      | refine aCt ?_
      | refine aCf ?_
      | (refine aCond ?_ ?_ <;> intro hsp)
      | (refine Awp.exit ?_; simp only [blockQ, thenQ, scopeQ, ↓reduceIte, Nat.reduceEqDiff])
      | (refine viaK ‹_› ?_; first | refine aKeep [0, 1, 4, 5, 9] ?_ | skip)
      | simp only [thenQ_normal, blockQ_normal])); all_goals (clear XH))
    · refine RegA.nil ⟨⟨k + 1, by omega⟩, [], ?_, ?_⟩
      · simp only [Wk, frIn, hpIn, lk_nil, lk_cons, renV, renX, renC, belV, belX, belC, belL, belB, List.cons_append, List.nil_append, ↓reduceIte, Nat.reduceEqDiff, and_self, and_true, true_and] <;> simp [-List.getD_eq_getElem?_getD, vv, one, renV, renX, renC, belV, belX, belC, belL, belB, rho, renO, belO, lk_nil, lk_cons]
      · (simp only []; omega)
    · have e := half_keep h0.1 i
      have e2 : k = i % 64 := by omega
      subst e2
      (refine Awp.ret ?_; refine aRet ?_; (simp [-List.getD_eq_getElem?_getD, laxR, laxX, laxC, laxCs, rB, rN, rO, rDev, dtyD, spent_img, spent_dirty, sK, sI, sDev, sO, rK, rI, e]))

@[irreducible] def wKept (d : Dev) (m : Int) (i : Nat) : List Int := (keptL m (d.dirty.take i)).foldl (fun m x => m.set x.at_.toNat x.v) d.img
theorem wKept_len (d : Dev) (m : Int) (i : Nat) : (wKept d m i).length = d.img.length := by unfold wKept; exact setAll_len _ _
theorem wKept_zero (d : Dev) (m : Int) : wKept d m 0 = d.img := by unfold wKept; rw [List.take_zero, keptL_nil]; rfl
theorem wKept_t {d : Dev} {m : Int} {i : Nat} (h : i < d.dirty.length) (hk : keepB m i = true) : (wKept d m i).set (d.dirty.getD i default).at_.toNat (d.dirty.getD i default).v = wKept d m (i + 1) := by
  unfold wKept
  rw [← keptL_t h hk, List.foldl_append]
  rfl
theorem wKept_f {d : Dev} {m : Int} {i : Nat} (h : i < d.dirty.length) (hk : keepB m i = false) : wKept d m i = wKept d m (i + 1) := by
  unfold wKept
  rw [← keptL_f h hk]
theorem wKept_all (d : Dev) (m : Int) : wKept d m d.dirty.length = words (keptD d m) := by unfold wKept words keptD; rw [List.take_length]
theorem crashD_eq (d : Dev) (m : Int) : crashD d m = ⟨words (keptD d m), [], -1, false⟩ := by unfold crashD; rfl
set_option maxHeartbeats 4000000 in
set_option maxRecDepth 10000 in
open X5883ea9 in
theorem k_ref04_Crashed (d : Dev) (m : Int) (hm : d.img.length ≤ 1000000) (hl : d.dirty.length ≤ 1000000) (h0 : 0 ≤ m ∧ m < 18446744073709551616) (hc : chkD d = 0) : Con Try.prog 34 [devA d, vN .u64 m] [rDev (crashD d m)] := by
  refine con_of_awp hmix Try.func34 s34 rfl (by rw [n34]; simp) r34 n34 ?_
  simp only [Eng.start, startFr, inX, sN, vN, List.map_cons, List.map_nil, devA, devC, dtyD, sD, c34]
  (repeat' (first
    | (refine aCall 16 ?_; apply aE2; exact k_ref03_Twin _ (by omega) (by omega); refine aPost ?_)
    | refine aOp ?_
    | refine aOff1 ?_
    | refine aOff2 ?_
    | (refine aSplit ?_ ?_ <;> intro hsp)
    | (refine RegA.done ‹_› ?_; first | refine aKeep [0, 1, 2, 4, 5, 6, 13, 18] ?_ | skip)
    | refine awp_seq fun K hK => ?_
    | refine Awp.reg ?_
    | refine aNop ?_
    | refine aNoff1 ?_
    | refine aNoff2 ?_
    | (refine aNsplit ?_ ?_ <;> intro hsp)
    | refine aNnil ?_
    | refine aDrawN 14 [[], [0], [], [2], [], [3, 4], [5], [6], [], [8], [], [9, 10], [11], [12], [1, 7, 0, 1, 2, 3, 4, 5, 6, 7, 8, 9, 10, 11, 12, 13], [14, 13, 0, 1, 2, 3, 4, 5, 6, 7, 8, 9, 10, 11, 12, 13]] [[], [0], [], [2], [], [3, 4, 2], [5, 3, 4, 2], [6, 5, 3, 4, 2], [], [8], [], [9, 10, 8], [11, 9, 10, 8], [12, 11, 9, 10, 8], [1, 7, 0, 2, 3, 4, 5, 6, 8, 9, 10, 11, 12, 13], [14, 13, 0, 1, 2, 3, 4, 5, 6, 7, 8, 9, 10, 11, 12]] ?_
    | refine Awp.skip ?_
    | refine Awp.block ?_
    | refine Awp.scope ?_
    | refine aCt ?_
    | refine aCf ?_
    | (refine aCond ?_ ?_ <;> intro hsp)
    | (refine Awp.exit ?_; simp only [blockQ, thenQ, scopeQ, ↓reduceIte, Nat.reduceEqDiff])
    | (refine viaK ‹_› ?_; first | refine aKeep [0, 1, 2, 4, 5, 6, 13, 18] ?_ | skip)
    | simp only [thenQ_normal, blockQ_normal]))
  refine Awp.loopK (α := {i : Nat // i ≤ d.dirty.length}) (fun x => [(6, vv (.int .i64 (x.1 : Int)))]) (fun x => [(2, .row 1 ((wKept d m x.1).map (numD .u64)) false)]) [1, 2, 4, 5] [0, 1, 3, 4] (fun x => d.dirty.length - x.1) ⟨0, by omega⟩ [] (by simp only [List.filterMap_cons, List.filterMap_nil, lk_nil, lk_cons, ↓reduceIte, Nat.reduceEqDiff, Option.map_some, Option.map_none]; rfl) (by simp only [List.filterMap_cons, List.filterMap_nil, lk_nil, lk_cons, ↓reduceIte, Nat.reduceEqDiff, Option.map_some, Option.map_none]; rfl) rfl rfl ?_ ?_
  · simp only [Wk, frIn, hpIn, lk_nil, lk_cons, renV, renX, renC, belV, belX, belC, belL, belB, List.cons_append, List.nil_append, ↓reduceIte, Nat.reduceEqDiff, and_self, and_true, true_and] <;> simp [-List.getD_eq_getElem?_getD, vv, one, renV, renX, renC, belV, belX, belC, belL, belB, rho, renO, belO, lk_nil, lk_cons, wKept_zero]
  · rintro ⟨i, hi⟩
    have hb := (devOk_all hc).1 i
    have hwl := wKept_len d m i
    dsimp only
    simp only [vv, one, List.cons_append, List.nil_append]
    (have XH := @wKept_len; have XG := (And.intro @set_num @wKept_len); (repeat' (first
      | (refine aCallF 35 ?_; apply aE3; exact k_ref04_Keeps i m (by omega) h0; exact flatA; refine aPost ?_)
      | refine aOp ?_
      | refine aOff1 ?_
      | refine aOff2 ?_
      | (refine aSplit ?_ ?_ <;> intro hsp)
      | (refine RegA.done ‹_› ?_; first | refine aKeep [0, 1, 2, 4, 5, 6, 13, 18] ?_ | skip)
      | refine awp_seq fun K hK => ?_
      | refine Awp.reg ?_
      | (refine aNcall (f := 35) ?_; apply aE6; exact k_ref04_Keeps i m (by omega) h0; (refine aNr (by simp only [unV', unX, unXs, unC, unL, rN, rB, List.append_nil, List.nil_append, rDev, dtyD, spent_img, spent_dirty, sK, sI, sDev, sO, rK, rI]; rfl) rfl rfl); (first | exact .inl rfl | exact .inr flatA); refine aNpost ?_)
      | refine aNop ?_
      | refine aNoff1 ?_
      | refine aNoff2 ?_
      | (refine aNsplit ?_ ?_ <;> intro hsp)
      | refine aNnil ?_
      | refine aDrawN 14 [[], [0], [], [2], [], [3, 4], [5], [6], [], [8], [], [9, 10], [11], [12], [1, 7, 0, 1, 2, 3, 4, 5, 6, 7, 8, 9, 10, 11, 12, 13], [14, 13, 0, 1, 2, 3, 4, 5, 6, 7, 8, 9, 10, 11, 12, 13]] [[], [0], [], [2], [], [3, 4, 2], [5, 3, 4, 2], [6, 5, 3, 4, 2], [], [8], [], [9, 10, 8], [11, 9, 10, 8], [12, 11, 9, 10, 8], [1, 7, 0, 2, 3, 4, 5, 6, 8, 9, 10, 11, 12, 13], [14, 13, 0, 1, 2, 3, 4, 5, 6, 7, 8, 9, 10, 11, 12]] ?_
      | refine Awp.skip ?_
      | refine Awp.block ?_
      | refine Awp.scope ?_
      | refine aCt ?_
      | refine aCf ?_
      | (refine aCond ?_ ?_ <;> intro hsp)
      | (refine Awp.exit ?_; simp only [blockQ, thenQ, scopeQ, ↓reduceIte, Nat.reduceEqDiff])
      | (refine viaK ‹_› ?_; first | refine aKeep [0, 1, 2, 4, 5, 6, 13, 18] ?_ | skip)
      | simp only [thenQ_normal, blockQ_normal])); all_goals (clear XH; clear XG))
    · have e := wKept_t (m := m) (show i < d.dirty.length by omega) ‹_›
      refine RegA.nil ⟨⟨i + 1, by omega⟩, [], ?_, ?_⟩
      · simp only [Wk, frIn, hpIn, lk_nil, lk_cons, renV, renX, renC, belV, belX, belC, belL, belB, List.cons_append, List.nil_append, ↓reduceIte, Nat.reduceEqDiff, and_self, and_true, true_and] <;> simp [-List.getD_eq_getElem?_getD, vv, one, renV, renX, renC, belV, belX, belC, belL, belB, rho, renO, belO, lk_nil, lk_cons, e]
      · (simp only []; omega)
    · have e := wKept_f (m := m) (show i < d.dirty.length by omega) ‹_›
      refine RegA.nil ⟨⟨i + 1, by omega⟩, [], ?_, ?_⟩
      · simp only [Wk, frIn, hpIn, lk_nil, lk_cons, renV, renX, renC, belV, belX, belC, belL, belB, List.cons_append, List.nil_append, ↓reduceIte, Nat.reduceEqDiff, and_self, and_true, true_and] <;> simp [-List.getD_eq_getElem?_getD, vv, one, renV, renX, renC, belV, belX, belC, belL, belB, rho, renO, belO, lk_nil, lk_cons, ← e]
      · (simp only []; omega)
    · have e := crashD_eq d m
      obtain rfl : i = d.dirty.length := by omega
      have e2 := wKept_all d m
      (refine Awp.ret ?_; refine aRet ?_; (simp [-List.getD_eq_getElem?_getD, laxR, laxX, laxC, laxCs, rB, rN, rO, rDev, dtyD, spent_img, spent_dirty, sK, sI, sDev, sO, rK, rI, e, e2, rDev]))
end
end Go.Proofs.Ytijllihnheggbaa
