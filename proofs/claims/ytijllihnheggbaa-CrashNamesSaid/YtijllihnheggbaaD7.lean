/-
  The contracts of the program's functions, data in, data out. Conditions: those in the statements.
-/
import Derived.Test.YtijllihnheggbaaD6
namespace Go.Proofs.Ytijllihnheggbaa
set_option linter.all false
open Go Go.Proofs.Ytijllihnheggbaa.Eng Go.RowKit
noncomputable section
namespace Xe8bf40b
def XX := (And.intro (And.intro @getD_dty (And.intro @tdiv8 @tmod8)) (And.intro (And.intro @takeAll @takeDropAll) (And.intro @toNatAdd @toNatSub)))
def XN := @Nat.zero_add
def XR := (And.intro (And.intro (And.intro @rDev.eq_1 @dtyD.eq_1) (And.intro @spent_img (And.intro @spent_dirty @sK.eq_1))) (And.intro (And.intro @sI.eq_1 @sDev.eq_1) (And.intro @sO.eq_1 (And.intro @rK.eq_1 @rI.eq_1))))
def XH := @Nat.zero_add
def XG := @Nat.zero_add
end Xe8bf40b
set_option maxHeartbeats 4000000 in
set_option maxRecDepth 10000 in
open Xe8bf40b in
theorem k_ref04_Arm (d : Dev) (n : Int) (hm : d.img.length ≤ 1000000) (hl : d.dirty.length ≤ 1000000) : Con Try.prog 17 [devA d, vN .i64 n] [rDev (armX d n), rN .i64 (armE d n)] := by
  refine con_of_awp hmix Try.func17 s17 rfl (by rw [n17]; simp) r17 n17 ?_
  simp only [Eng.start, startFr, inX, sN, vN, List.map_cons, List.map_nil, devA, devC, dtyD, sD, c17]
  (repeat' (first
    | (refine aCallF 21 ?_; apply aE3; exact k_ref03_Check _ (by omega) (by omega); exact flatA; refine aPost ?_)
    | (refine aCall 16 ?_; apply aE2; exact k_ref03_Twin _ (by omega) (by omega); refine aPost ?_)
    | refine aOp ?_
    | refine aOff1 ?_
    | refine aOff2 ?_
    | (refine aSplit ?_ ?_ <;> intro hsp)
    | (refine RegA.done ‹_› ?_; first | refine aKeep [0, 1, 2, 4, 5, 6, 9, 16] ?_ | skip)
    | refine awp_seq fun K hK => ?_
    | refine Awp.reg ?_
    | refine Awp.skip ?_
    | refine Awp.block ?_
    | refine Awp.scope ?_
    | refine aCt ?_
    | refine aCf ?_
    | (refine aCond ?_ ?_ <;> intro hsp)
    | (refine Awp.exit ?_; simp only [blockQ, thenQ, scopeQ, ↓reduceIte, Nat.reduceEqDiff])
    | (refine viaK ‹_› ?_; first | refine aKeep [0, 1, 2, 4, 5, 6, 9, 16] ?_ | skip)
    | simp only [thenQ_normal, blockQ_normal]))
  all_goals first
  | (have e : armE d n = 8 := by unfold armE; rw [if_neg ‹_›]); (have e2 : armX d n = zDev := by unfold armX; rw [e]; rfl); (have e3 := chkD8 ‹_›); (refine Awp.ret ?_; refine aRet ?_; (simp [-List.getD_eq_getElem?_getD, laxR, laxX, laxC, laxCs, rB, rN, rO, rDev, dtyD, spent_img, spent_dirty, sK, sI, sDev, sO, rK, rI, e, e2, e3, zDev, rDev]))
  | (have e : armE d n = 0 := by unfold armE; rw [if_pos ‹chkD d = 0›, if_pos ⟨by omega, by omega⟩]); (have e2 : armX d n = ⟨d.img, d.dirty, n, false⟩ := by unfold armX; rw [if_pos e]); (refine Awp.ret ?_; refine aRet ?_; (simp [-List.getD_eq_getElem?_getD, laxR, laxX, laxC, laxCs, rB, rN, rO, rDev, dtyD, spent_img, spent_dirty, sK, sI, sDev, sO, rK, rI, e, e2, rDev, *]))
  | (have e : armE d n = 2 := by unfold armE; rw [if_pos ‹chkD d = 0›, if_neg (by omega)]); (have e2 : armX d n = zDev := by unfold armX; rw [e]; rfl); (refine Awp.ret ?_; refine aRet ?_; (simp [-List.getD_eq_getElem?_getD, laxR, laxX, laxC, laxCs, rB, rN, rO, rDev, dtyD, spent_img, spent_dirty, sK, sI, sDev, sO, rK, rI, e, e2, zDev, rDev, *]))
set_option maxHeartbeats 4000000 in
set_option maxRecDepth 10000 in
open Xe8bf40b in
theorem k_ref04_Crash (d : Dev) (m : Int) (hm : d.img.length ≤ 1000000) (hl : d.dirty.length ≤ 1000000) (h0 : 0 ≤ m ∧ m < 18446744073709551616) : Con Try.prog 18 [devA d, vN .u64 m] [rDev (crashX d m), rN .i64 (chkD d)] := by
  refine con_of_awp hmix Try.func18 s18 rfl (by rw [n18]; simp) r18 n18 ?_
  simp only [Eng.start, startFr, inX, sN, vN, List.map_cons, List.map_nil, devA, devC, dtyD, sD, c18]
  (repeat' (first
    | (refine aCallF 21 ?_; apply aE3; exact k_ref03_Check _ (by omega) (by omega); exact flatA; refine aPost ?_)
    | (refine aCall 34 ?_; apply aE2; exact k_ref04_Crashed _ _ (by omega) (by omega) h0 ‹chkD d = 0›; refine aPost ?_)
    | refine aOp ?_
    | refine aOff1 ?_
    | refine aOff2 ?_
    | (refine aSplit ?_ ?_ <;> intro hsp)
    | (refine RegA.done ‹_› ?_; first | refine aKeep [0, 1, 2, 4, 5, 8] ?_ | skip)
    | refine awp_seq fun K hK => ?_
    | refine Awp.reg ?_
    | refine Awp.skip ?_
    | refine Awp.block ?_
    | refine Awp.scope ?_
    | refine aCt ?_
    | refine aCf ?_
    | (refine aCond ?_ ?_ <;> intro hsp)
    | (refine Awp.exit ?_; simp only [blockQ, thenQ, scopeQ, ↓reduceIte, Nat.reduceEqDiff])
    | (refine viaK ‹_› ?_; first | refine aKeep [0, 1, 2, 4, 5, 8] ?_ | skip)
    | simp only [thenQ_normal, blockQ_normal]))
  · have e : crashX d m = zDev := by unfold crashX; rw [if_neg ‹_›]
    have e3 := chkD8 ‹_›
    (refine Awp.ret ?_; refine aRet ?_; (simp [-List.getD_eq_getElem?_getD, laxR, laxX, laxC, laxCs, rB, rN, rO, rDev, dtyD, spent_img, spent_dirty, sK, sI, sDev, sO, rK, rI, e, e3, zDev, rDev, *]))
  · have e : crashX d m = crashD d m := by unfold crashX; rw [if_pos ‹_›]
    (refine Awp.ret ?_; refine aRet ?_; (simp [-List.getD_eq_getElem?_getD, laxR, laxX, laxC, laxCs, rB, rN, rO, rDev, dtyD, spent_img, spent_dirty, sK, sI, sDev, sO, rK, rI, e, rDev, *]))
set_option maxHeartbeats 4000000 in
set_option maxRecDepth 10000 in
open Xe8bf40b in
theorem k_ref04_Chosen (d : Dev) (m : Int) (hm : d.img.length ≤ 1000000) (hl : d.dirty.length ≤ 1000000) (h0 : 0 ≤ m ∧ m < 18446744073709551616) : Con Try.prog 19 [devA d, vN .u64 m] [rI (chosenX d m), rN .i64 (chkD d)] := by
  refine con_of_awp hmix Try.func19 s19 rfl (by rw [n19]; simp) r19 n19 ?_
  simp only [Eng.start, startFr, inX, sN, vN, List.map_cons, List.map_nil, devA, devC, dtyD, sD, c19]
  (repeat' (first
    | (refine aCallF 21 ?_; apply aE3; exact k_ref03_Check _ (by omega) (by omega); exact flatA; refine aPost ?_)
    | refine aOp ?_
    | refine aOff1 ?_
    | refine aOff2 ?_
    | (refine aSplit ?_ ?_ <;> intro hsp)
    | (refine RegA.done ‹_› ?_; first | refine aKeep [0, 1, 2, 4, 5, 6, 7, 10, 15, 20] ?_ | skip)
    | refine awp_seq fun K hK => ?_
    | refine Awp.reg ?_
    | refine Awp.skip ?_
    | refine Awp.block ?_
    | refine Awp.scope ?_
    | refine aCt ?_
    | refine aCf ?_
    | (refine aCond ?_ ?_ <;> intro hsp)
    | (refine Awp.exit ?_; simp only [blockQ, thenQ, scopeQ, ↓reduceIte, Nat.reduceEqDiff])
    | (refine viaK ‹_› ?_; first | refine aKeep [0, 1, 2, 4, 5, 6, 7, 10, 15, 20] ?_ | skip)
    | simp only [thenQ_normal, blockQ_normal]))
  · have e : chosenX d m = [] := by unfold chosenX; rw [if_neg ‹_›]
    have e3 := chkD8 ‹_›
    (refine Awp.ret ?_; refine aRet ?_; (simp [-List.getD_eq_getElem?_getD, laxR, laxX, laxC, laxCs, rB, rN, rO, rDev, dtyD, spent_img, spent_dirty, sK, sI, sDev, sO, rK, rI, e, e3, rI, *]))
  · refine Awp.loopK (α := {i : Nat // i ≤ d.dirty.length}) (fun x => [(7, vv (.int .i64 (x.1 : Int))), (6, one (.own 2 (chosenL m x.1).length))]) (fun x => [(2, .row (rzn (chosenL m x.1)) ((chosenL m x.1).map (numD .i64)) false)]) [1, 2, 4, 5] [0, 1] (fun x => d.dirty.length - x.1) ⟨0, by omega⟩ [] (by simp only [List.filterMap_cons, List.filterMap_nil, lk_nil, lk_cons, ↓reduceIte, Nat.reduceEqDiff, Option.map_some, Option.map_none]; rfl) (by simp only [List.filterMap_cons, List.filterMap_nil, lk_nil, lk_cons, ↓reduceIte, Nat.reduceEqDiff, Option.map_some, Option.map_none]; rfl) rfl rfl ?_ ?_
    · simp only [Wk, frIn, hpIn, lk_nil, lk_cons, renV, renX, renC, belV, belX, belC, belL, belB, List.cons_append, List.nil_append, ↓reduceIte, Nat.reduceEqDiff, and_self, and_true, true_and] <;> simp [-List.getD_eq_getElem?_getD, vv, one, renV, renX, renC, belV, belX, belC, belL, belB, rho, renO, belO, lk_nil, lk_cons, rzn_nil, chosenL_zero]
    · rintro ⟨i, hi⟩
      have hcl := chosenL_le m i
      dsimp only
      simp only [vv, one, List.cons_append, List.nil_append]
      (have XH := (And.intro @rzn_or @List.length_append.{0}); have XG := (And.intro (And.intro (And.intro @int_snoc @List.take_succ_cons.{0}) (And.intro @List.take_zero.{0} (And.intro @List.take_nil.{0} @List.length_cons.{0}))) (And.intro (And.intro @List.length_nil.{0} @Nat.zero_add) (And.intro @List.drop_succ_cons.{0} (And.intro @List.drop_zero.{0} @List.drop_nil.{0})))); (repeat' (first
        | (refine aCallF 35 ?_; apply aE3; exact k_ref04_Keeps i m (by omega) h0; exact flatA; refine aPost ?_)
        | refine aOp ?_
        | refine aOff1 ?_
        | refine aOff2 ?_
        | (refine aSplit ?_ ?_ <;> intro hsp)
        | (refine RegA.done ‹_› ?_; first | refine aKeep [0, 1, 2, 4, 5, 6, 7, 10, 15, 20] ?_ | skip)
        | refine awp_seq fun K hK => ?_
        | refine Awp.reg ?_
        | refine Awp.skip ?_
        | refine Awp.block ?_
        | refine Awp.scope ?_
        | refine aCt ?_
        | refine aCf ?_
        | (refine aCond ?_ ?_ <;> intro hsp)
        | (refine Awp.exit ?_; simp only [blockQ, thenQ, scopeQ, ↓reduceIte, Nat.reduceEqDiff])
        | (refine viaK ‹_› ?_; first | refine aKeep [0, 1, 2, 4, 5, 6, 7, 10, 15, 20] ?_ | skip)
        | simp only [thenQ_normal, blockQ_normal])); all_goals (clear XH; clear XG))
      · have e := chosenL_t ‹keepB m i = true›
        refine RegA.nil ⟨⟨i + 1, by omega⟩, [], ?_, ?_⟩
        · simp only [Wk, frIn, hpIn, lk_nil, lk_cons, renV, renX, renC, belV, belX, belC, belL, belB, List.cons_append, List.nil_append, ↓reduceIte, Nat.reduceEqDiff, and_self, and_true, true_and] <;> simp [-List.getD_eq_getElem?_getD, vv, one, renV, renX, renC, belV, belX, belC, belL, belB, rho, renO, belO, lk_nil, lk_cons, ← e, rzn_snoc]
        · (simp only []; omega)
      · have e := chosenL_f ‹keepB m i = false›
        refine RegA.nil ⟨⟨i + 1, by omega⟩, [], ?_, ?_⟩
        · simp only [Wk, frIn, hpIn, lk_nil, lk_cons, renV, renX, renC, belV, belX, belC, belL, belB, List.cons_append, List.nil_append, ↓reduceIte, Nat.reduceEqDiff, and_self, and_true, true_and] <;> simp [-List.getD_eq_getElem?_getD, vv, one, renV, renX, renC, belV, belX, belC, belL, belB, rho, renO, belO, lk_nil, lk_cons, ← e]
        · (simp only []; omega)
      all_goals
        obtain rfl : i = d.dirty.length := by omega
        have e : chosenX d m = chosenL m d.dirty.length := by unfold chosenX; rw [if_pos ‹_›]
        rcases rzn_or' (chosenL m d.dirty.length) with hz | hz
        · (refine Awp.ret ?_; refine aRet ?_; (simp [-List.getD_eq_getElem?_getD, laxR, laxX, laxC, laxCs, rB, rN, rO, rDev, dtyD, spent_img, spent_dirty, sK, sI, sDev, sO, rK, rI, e, hz, rI, *]))
        · (refine Awp.ret ?_; refine aRet ?_; (simp [-List.getD_eq_getElem?_getD, laxR, laxX, laxC, laxCs, rB, rN, rO, rDev, dtyD, spent_img, spent_dirty, sK, sI, sDev, sO, rK, rI, e, hz, rzn_nil, rI, *]))
set_option maxHeartbeats 4000000 in
set_option maxRecDepth 10000 in
open Xe8bf40b in
theorem k_ref02_SameInts (a b : List Int) (ha : a.length ≤ 1000000) (hb : b.length ≤ 1000000) : Con Try.prog 13 [sN .i64 a, sN .i64 b] [rB (decide (a = b))] := by
  refine con_of_awp hmix Try.func13 s13 rfl (by rw [n13]; simp) r13 n13 ?_
  simp only [Eng.start, startFr, inX, sN, vN, List.map_cons, List.map_nil, devA, devC, dtyD, sD, c13]
  (repeat' (first
    | refine aOp ?_
    | refine aOff1 ?_
    | refine aOff2 ?_
    | (refine aSplit ?_ ?_ <;> intro hsp)
    | (refine RegA.done ‹_› ?_)
    | refine awp_seq fun K hK => ?_
    | refine Awp.reg ?_
    | refine aNop ?_
    | refine aNoff1 ?_
    | refine aNoff2 ?_
    | (refine aNsplit ?_ ?_ <;> intro hsp)
    | refine aNnil ?_
    | refine aDrawN 8 [[], [], [0, 1], [2], [], [], [4, 5], [6], [3, 7]] [[], [], [0, 1], [2, 0, 1], [], [], [4, 5], [6, 4, 5], [3, 7, 2, 0, 1, 6, 4, 5]] ?_
    | refine Awp.skip ?_
    | refine Awp.block ?_
    | refine Awp.scope ?_
    | refine aCt ?_
    | refine aCf ?_
    | (refine aCond ?_ ?_ <;> intro hsp)
    | (refine Awp.exit ?_; simp only [blockQ, thenQ, scopeQ, ↓reduceIte, Nat.reduceEqDiff])
    | (refine viaK ‹_› ?_)
    | simp only [thenQ_normal, blockQ_normal]))
  · have e : decide (a = b) = false := decide_eq_false fun h => by have := congrArg List.length h; omega
    (refine Awp.ret ?_; refine aRet ?_; (simp [-List.getD_eq_getElem?_getD, laxR, laxX, laxC, laxCs, rB, rN, rO, rDev, dtyD, spent_img, spent_dirty, sK, sI, sDev, sO, rK, rI, e] <;> (intros; omega)))
  · refine Awp.loopK (α := {i : Nat // i ≤ a.length ∧ ∀ j < i, a.getD j 0 = b.getD j 0}) (fun x => [(5, vv (.int .i64 (x.1 : Int)))]) (fun x => []) [0, 1] [] (fun x => a.length - x.1) ⟨0, by omega, by simp⟩ [] (by simp only [List.filterMap_cons, List.filterMap_nil, lk_nil, lk_cons, ↓reduceIte, Nat.reduceEqDiff, Option.map_some, Option.map_none]; rfl) (by simp only [List.filterMap_cons, List.filterMap_nil, lk_nil, lk_cons, ↓reduceIte, Nat.reduceEqDiff, Option.map_some, Option.map_none]; rfl) rfl rfl ?_ ?_
    · simp only [Wk, frIn, hpIn, lk_nil, lk_cons, renV, renX, renC, belV, belX, belC, belL, belB, List.cons_append, List.nil_append, ↓reduceIte, Nat.reduceEqDiff, and_self, and_true, true_and] <;> simp [-List.getD_eq_getElem?_getD, vv, one, renV, renX, renC, belV, belX, belC, belL, belB, rho, renO, belO, lk_nil, lk_cons]
    · rintro ⟨i, hi, hj⟩
      simp only [vv, one, List.cons_append, List.nil_append]
      (repeat' (first
        | refine aOp ?_
        | refine aOff1 ?_
        | refine aOff2 ?_
        | (refine aSplit ?_ ?_ <;> intro hsp)
        | (refine RegA.done ‹_› ?_)
        | refine awp_seq fun K hK => ?_
        | refine Awp.reg ?_
        | refine aNop ?_
        | refine aNoff1 ?_
        | refine aNoff2 ?_
        | (refine aNsplit ?_ ?_ <;> intro hsp)
        | refine aNnil ?_
        | refine aDrawN 8 [[], [], [0, 1], [2], [], [], [4, 5], [6], [3, 7]] [[], [], [0, 1], [2, 0, 1], [], [], [4, 5], [6, 4, 5], [3, 7, 2, 0, 1, 6, 4, 5]] ?_
        | refine Awp.skip ?_
        | refine Awp.block ?_
        | refine Awp.scope ?_
        | refine aCt ?_
        | refine aCf ?_
        | (refine aCond ?_ ?_ <;> intro hsp)
        | (refine Awp.exit ?_; simp only [blockQ, thenQ, scopeQ, ↓reduceIte, Nat.reduceEqDiff])
        | (refine viaK ‹_› ?_)
        | simp only [thenQ_normal, blockQ_normal]))
      · have e : decide (a = b) = false := decide_eq_false fun h => hsp (by rw [h])
        (refine Awp.ret ?_; refine aRet ?_; (simp [-List.getD_eq_getElem?_getD, laxR, laxX, laxC, laxCs, rB, rN, rO, rDev, dtyD, spent_img, spent_dirty, sK, sI, sDev, sO, rK, rI, e] <;> (intros; omega)))
      · refine RegA.nil ⟨⟨i + 1, by omega, fun j hj' => by rcases Nat.lt_succ_iff_lt_or_eq.1 hj' with h | rfl; exact hj j h; exact hsp⟩, [], ?_, ?_⟩
        · simp only [Wk, frIn, hpIn, lk_nil, lk_cons, renV, renX, renC, belV, belX, belC, belL, belB, List.cons_append, List.nil_append, ↓reduceIte, Nat.reduceEqDiff, and_self, and_true, true_and] <;> simp [-List.getD_eq_getElem?_getD, vv, one, renV, renX, renC, belV, belX, belC, belL, belB, rho, renO, belO, lk_nil, lk_cons]
        · (simp only []; omega)
      · have e : decide (a = b) = true := decide_eq_true (list_ext0 (by omega) fun j hj' => hj j (by omega))
        (refine Awp.ret ?_; refine aRet ?_; (simp [-List.getD_eq_getElem?_getD, laxR, laxX, laxC, laxCs, rB, rN, rO, rDev, dtyD, spent_img, spent_dirty, sK, sI, sDev, sO, rK, rI, e] <;> (intros; omega)))
end
end Go.Proofs.Ytijllihnheggbaa
