/-
  The contracts of the program's functions, data in, data out. Conditions: those in the statements.
-/
import Derived.Test.YtijllihnheggbaaD2
namespace Go.Proofs.Ytijllihnheggbaa
set_option linter.all false
open Go Go.Proofs.Ytijllihnheggbaa.Eng Go.RowKit
noncomputable section
namespace Xd83aa7f
def XX := (And.intro (And.intro @getD_dty (And.intro @tdiv8 @tmod8)) (And.intro (And.intro @takeAll @takeDropAll) (And.intro @toNatAdd @toNatSub)))
def XN := @Nat.zero_add
def XR := (And.intro (And.intro @rDev.eq_1 @dtyD.eq_1) (And.intro @spent_img @spent_dirty))
def XH := @Nat.zero_add
def XG := @Nat.zero_add
end Xd83aa7f
set_option maxHeartbeats 4000000 in
set_option maxRecDepth 10000 in
open Xd83aa7f in
theorem k_crash_kept (l : List Dty) (m : Int) (hl : l.length ≤ 1000000) (h0 : 0 ≤ m ∧ m < 18446744073709551616) : Con Try.prog 29 [sD l, vN .u64 m] [rK (keptL m l)] := by
  refine con_of_awp hmix Try.func29 s29 rfl (by rw [n29]; simp) r29 n29 ?_
  simp only [Eng.start, startFr, inX, sN, vN, List.map_cons, List.map_nil, devA, devC, dtyD, sD, c29]
  (repeat' (first
    | (refine aCallH 43 ?_; apply aE5; exact h_crash_keeper _ _ _; refine aPost2 ?_)
    | refine aOp ?_
    | refine aOff1 ?_
    | refine aOff2 ?_
    | (refine aSplit ?_ ?_ <;> intro hsp)
    | (refine RegA.done ‹_› ?_; first | refine aKeep [0, 1, 4, 5, 6, 7, 11, 12, 13, 17] ?_ | skip)
    | refine awp_seq fun K hK => ?_
    | refine Awp.reg ?_
    | refine Awp.skip ?_
    | refine Awp.block ?_
    | refine Awp.scope ?_
    | refine aCt ?_
    | refine aCf ?_
    | (refine aCond ?_ ?_ <;> intro hsp)
    | (refine Awp.exit ?_; simp only [blockQ, thenQ, scopeQ, ↓reduceIte, Nat.reduceEqDiff])
    | (refine viaK ‹_› ?_; first | refine aKeep [0, 1, 4, 5, 6, 7, 11, 12, 13, 17] ?_ | skip)
    | simp only [thenQ_normal, blockQ_normal]))
  refine Awp.loopK (α := {i : Nat // i ≤ l.length}) (fun x => [(12, vv (.int .i64 (x.1 : Int))), (6, one (.own 2 (keptL m (l.take x.1)).length))]) (fun x => [(2, .row (rz (keptL m (l.take x.1))) ((keptL m (l.take x.1)).map dtyD) false)]) [0, 4, 5, 11] [1] (fun x => l.length - x.1) ⟨0, by omega⟩ [] (by simp only [List.filterMap_cons, List.filterMap_nil, lk_nil, lk_cons, ↓reduceIte, Nat.reduceEqDiff, Option.map_some, Option.map_none]; rfl) (by simp only [List.filterMap_cons, List.filterMap_nil, lk_nil, lk_cons, ↓reduceIte, Nat.reduceEqDiff, Option.map_some, Option.map_none]; rfl) rfl rfl ?_ ?_
  · simp only [Wk, frIn, hpIn, lk_nil, lk_cons, renV, renX, renC, belV, belX, belC, belL, belB, List.cons_append, List.nil_append, ↓reduceIte, Nat.reduceEqDiff, and_self, and_true, true_and] <;> simp [-List.getD_eq_getElem?_getD, vv, one, renV, renX, renC, belV, belX, belC, belL, belB, rho, renO, belO, lk_nil, lk_cons, rz_nil, keptL_nil, List.take_zero]
  · rintro ⟨i, hi⟩
    have hkl := keptL_take_le m l i
    dsimp only
    simp only [vv, one, List.cons_append, List.nil_append]
    (have XH := (And.intro @rz_or @List.length_append.{0}); have XG := (And.intro (And.intro (And.intro @dty_snoc @dty_eta) (And.intro @List.take_succ_cons.{0} (And.intro @List.take_zero.{0} @List.take_nil.{0}))) (And.intro (And.intro @List.length_cons.{0} (And.intro @List.length_nil.{0} @Nat.zero_add)) (And.intro @List.drop_succ_cons.{0} (And.intro @List.drop_zero.{0} @List.drop_nil.{0})))); (repeat' (first
      | (refine aCallC 52 ?_; apply aE5; exact h_crash_keeper_1 i rfl h0; refine aPost2 ?_)
      | refine aOp ?_
      | refine aOff1 ?_
      | refine aOff2 ?_
      | (refine aSplit ?_ ?_ <;> intro hsp)
      | (refine RegA.done ‹_› ?_; first | refine aKeep [0, 1, 4, 5, 6, 7, 11, 12, 13, 17] ?_ | skip)
      | refine awp_seq fun K hK => ?_
      | refine Awp.reg ?_
      | refine Awp.skip ?_
      | refine Awp.block ?_
      | refine Awp.scope ?_
      | refine aCt ?_
      | refine aCf ?_
      | (refine aCond ?_ ?_ <;> intro hsp)
      | (refine Awp.exit ?_; simp only [blockQ, thenQ, scopeQ, ↓reduceIte, Nat.reduceEqDiff])
      | (refine viaK ‹_› ?_; first | refine aKeep [0, 1, 4, 5, 6, 7, 11, 12, 13, 17] ?_ | skip)
      | simp only [thenQ_normal, blockQ_normal])); all_goals (clear XH; clear XG))
    · have e := keptL_t (m := m) (show i < l.length by omega) ‹_›
      have e3 : rz (keptL m (l.take (i + 1))) = 3 := by rw [← e]; exact rz_snoc _ _
      have e4 : (keptL m (l.take (i + 1))).length = (keptL m (l.take i)).length + 1 := by rw [← e]; simp
      refine RegA.nil ⟨⟨i + 1, by omega⟩, [], ?_, ?_⟩
      · simp only [Wk, frIn, hpIn, lk_nil, lk_cons, renV, renX, renC, belV, belX, belC, belL, belB, List.cons_append, List.nil_append, ↓reduceIte, Nat.reduceEqDiff, and_self, and_true, true_and] <;> simp [-List.getD_eq_getElem?_getD, vv, one, renV, renX, renC, belV, belX, belC, belL, belB, rho, renO, belO, lk_nil, lk_cons, e, e3, e4]
      · (simp only []; omega)
    · have e := keptL_f (m := m) (show i < l.length by omega) ‹_›
      refine RegA.nil ⟨⟨i + 1, by omega⟩, [], ?_, ?_⟩
      · simp only [Wk, frIn, hpIn, lk_nil, lk_cons, renV, renX, renC, belV, belX, belC, belL, belB, List.cons_append, List.nil_append, ↓reduceIte, Nat.reduceEqDiff, and_self, and_true, true_and] <;> simp [-List.getD_eq_getElem?_getD, vv, one, renV, renX, renC, belV, belX, belC, belL, belB, rho, renO, belO, lk_nil, lk_cons, ← e]
      · (simp only []; omega)
    all_goals
      obtain rfl : i = l.length := by omega
      rcases rz_or' (keptL m l) with hz | hz
      · (refine Awp.ret ?_; refine aRetO ?_; apply aE2; (simp (disch := omega) only [outXs, outX, outC, outL, lk_nil, lk_cons, ↓reduceIte, Nat.reduceEqDiff, List.length_map, List.length_nil, List.length_replicate, List.length_cons, List.length_take, List.length_drop, List.length_append, List.length_set, ite_eq, Option.map_some, Bool.false_eq_true, List.take_length]; rfl); (simp [-List.getD_eq_getElem?_getD, laxR, laxX, laxC, laxCs, rB, rN, rO, rDev, dtyD, spent_img, spent_dirty, hz, List.take_length, rK, *]))
      · (refine Awp.ret ?_; refine aRetO ?_; apply aE2; (simp (disch := omega) only [outXs, outX, outC, outL, lk_nil, lk_cons, ↓reduceIte, Nat.reduceEqDiff, List.length_map, List.length_nil, List.length_replicate, List.length_cons, List.length_take, List.length_drop, List.length_append, List.length_set, ite_eq, Option.map_some, Bool.false_eq_true, List.take_length]; rfl); (simp [-List.getD_eq_getElem?_getD, laxR, laxX, laxC, laxCs, rB, rN, rO, rDev, dtyD, spent_img, spent_dirty, hz, List.take_length, rz_nil, rK, *]))
end
end Go.Proofs.Ytijllihnheggbaa
