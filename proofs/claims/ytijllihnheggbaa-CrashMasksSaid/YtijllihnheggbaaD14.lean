/-
  The contracts of the program's functions, data in, data out. Conditions: those in the statements.
-/
import Derived.Test.YtijllihnheggbaaD13
namespace Go.Proofs.Ytijllihnheggbaa
set_option linter.all false
open Go Go.Proofs.Ytijllihnheggbaa.Eng Go.RowKit
noncomputable section

theorem k_Arm_ok (d : Dev) (n : Int) (hm : d.img.length ≤ 1000000) (hl : d.dirty.length ≤ 1000000) (h : armE d n = 0) : Con Try.prog 9 [devA d, vN .i64 n] [sDev (armX d n), rN .i64 0] := by
  have := k_Arm_s d n hm hl
  rw [h] at this
  exact this
namespace X76054a8
def XX := (And.intro (And.intro @getD_dty (And.intro @tdiv8 @tmod8)) (And.intro (And.intro @takeAll @takeDropAll) (And.intro @toNatAdd @toNatSub)))
def XN := @Nat.zero_add
def XR := (And.intro (And.intro (And.intro @rDev.eq_1 @dtyD.eq_1) (And.intro @spent_img (And.intro @spent_dirty @sK.eq_1))) (And.intro (And.intro @sI.eq_1 @sDev.eq_1) (And.intro @sO.eq_1 (And.intro @rK.eq_1 @rI.eq_1))))
def XH := @Nat.zero_add
def XG := @Nat.zero_add
end X76054a8
set_option maxHeartbeats 4000000 in
set_option maxRecDepth 10000 in
open X76054a8 in
theorem k_law04_CrashMasks (d : Dev) (a b n : Int) (h0 : 0 ≤ a ∧ a < 18446744073709551616) (g0 : 0 ≤ b ∧ b < 18446744073709551616) : Con Try.prog 8 [devA d, vN .u64 a, vN .u64 b, vN .i64 n] [rB true] := by
  refine con_of_awp hmix Try.func8 s8 rfl (by rw [n8]; simp) r8 n8 ?_
  simp only [Eng.start, startFr, inX, sN, vN, List.map_cons, List.map_nil, devA, devC, dtyD, sD, c8]
  (have XH := @eq_self.{1}; (repeat' (first
    | (refine aCallF 15 ?_; apply aE3; exact k_Great _; exact flatA; refine aPost ?_)
    | (refine aCallF 21 ?_; apply aE3; exact k_ref03_Check _ (by omega) (by omega); exact flatA; refine aPost ?_)
    | (refine aCallF 14 ?_; apply aE3; exact k_alive4; exact flatA; refine aPost ?_)
    | refine aOp ?_
    | refine aOff1 ?_
    | refine aOff2 ?_
    | (refine aSplit ?_ ?_ <;> intro hsp)
    | (refine RegA.done ‹_› ?_; first | refine aKeep [0, 1, 2, 3, 4, 8, 9, 10, 11, 12, 13, 14, 15, 16, 17, 18, 19, 20, 21, 22, 23, 24, 25, 40, 71, 75, 89, 98, 112, 119, 125, 137] ?_ | skip)
    | refine awp_seq fun K hK => ?_
    | refine Awp.reg ?_
    | refine Awp.skip ?_
    | refine Awp.block ?_
    | refine Awp.scope ?_
    | refine aCt ?_
    | refine aCf ?_
    | (refine aCond ?_ ?_ <;> intro hsp)
    | (refine Awp.exit ?_; simp only [blockQ, thenQ, scopeQ, ↓reduceIte, Nat.reduceEqDiff])
    | (refine viaK ‹_› ?_; first | refine aKeep [0, 1, 2, 3, 4, 8, 9, 10, 11, 12, 13, 14, 15, 16, 17, 18, 19, 20, 21, 22, 23, 24, 25, 40, 71, 75, 89, 98, 112, 119, 125, 137] ?_ | skip)
    | simp only [thenQ_normal, blockQ_normal])); all_goals (clear XH))
  rotate_right 1
  · have hch : chkD d = 0 := ‹_›
    have hor := or_range h0 g0
    obtain ⟨ha1, ha2⟩ := arm_ok (n := n) hch (by omega) (by omega)
    have l1 := crashD_len d a
    have l2 := crashD_len (armX d n) a
    have l3 := armX_len d n
    have l4 : (crashD d a).dirty.length = 0 := by rw [crashD_dirty]; rfl
    have l5 : (crashD (armX d n) a).dirty.length = 0 := by rw [crashD_dirty]; rfl
    have hw : decide (crashD (armX d n) a = crashD d a) = true := decide_eq_true (crash_armed d n a ha1)
    have l6 := chosenL_le a d.dirty.length
    have l7 := chosenL_le b d.dirty.length
    have l8 := chosenL_le (bits .or .u64 a b) d.dirty.length
    (have XH := @eq_self.{1}; have XG := @bx_zero; (repeat' (first
        | (refine aCallF 15 ?_; apply aE3; exact k_Great _; exact flatA; refine aPost ?_)
        | (refine aCallF 21 ?_; apply aE3; exact k_ref03_Check _ (by omega) (by omega); exact flatA; refine aPost ?_)
        | (refine aCallF 14 ?_; apply aE3; exact k_alive4; exact flatA; refine aPost ?_)
        | (refine aCall 22 ?_; apply aE2; exact k_View_s _ (by omega) (by omega) (by assumption); refine aPost ?_)
        | (refine aCall 10 ?_; apply aE2; exact k_Crash_ok _ _ (by omega) (by omega) (by omega) (by assumption); refine aPost ?_)
        | (refine aCall 11 ?_; apply aE2; exact k_Chosen_ok _ _ (by omega) (by omega) (by omega) (by assumption); refine aPost ?_)
        | (refine aCall 9 ?_; apply aE2; exact k_Arm_ok _ _ (by omega) (by omega) (by assumption); refine aPost ?_)
        | (refine aCallF 23 ?_; apply aE3; exact k_ref02_Same _ _ (by omega) (by omega); exact flatA; refine aPost ?_)
        | (refine aCallF 20 ?_; apply aE3; exact k_ref03_Same _ _ (by omega) (by omega) (by omega) (by omega); exact flatA; refine aPost ?_)
        | refine aOp ?_
        | refine aOff1 ?_
        | refine aOff2 ?_
        | (refine aSplit ?_ ?_ <;> intro hsp)
        | (refine RegA.done ‹_› ?_; first | refine aKeep [0, 1, 2, 3, 4, 8, 9, 10, 11, 12, 13, 14, 15, 16, 17, 18, 19, 20, 21, 22, 23, 24, 25, 40, 71, 75, 89, 98, 112, 119, 125, 137] ?_ | skip)
        | refine awp_seq fun K hK => ?_
        | refine Awp.reg ?_
        | refine Awp.skip ?_
        | refine Awp.block ?_
        | refine Awp.scope ?_
        | refine aCt ?_
        | refine aCf ?_
        | (refine aCond ?_ ?_ <;> intro hsp)
        | (refine Awp.exit ?_; simp only [blockQ, thenQ, scopeQ, ↓reduceIte, Nat.reduceEqDiff])
        | (refine viaK ‹_› ?_; first | refine aKeep [0, 1, 2, 3, 4, 8, 9, 10, 11, 12, 13, 14, 15, 16, 17, 18, 19, 20, 21, 22, 23, 24, 25, 40, 71, 75, 89, 98, 112, 119, 125, 137] ?_ | skip)
        | simp only [thenQ_normal, blockQ_normal])); all_goals (clear XH; clear XG))
    refine Awp.loopK (α := {i : Nat // i ≤ (chosenL a d.dirty.length).length}) (fun x => [(8, vv (.bool false)), (16, vv (.int .i64 (x.1 : Int)))]) (fun x => [(1, .box (bx 2101 (fset ((chosenL a d.dirty.length).take x.1))))]) [1, 3, 4, 9, 11, 13, 15] [0] (fun x => (chosenL a d.dirty.length).length - x.1) ⟨0, by omega⟩ [] (by simp only [List.filterMap_cons, List.filterMap_nil, lk_nil, lk_cons, ↓reduceIte, Nat.reduceEqDiff, Option.map_some, Option.map_none]; rfl) (by simp only [List.filterMap_cons, List.filterMap_nil, lk_nil, lk_cons, ↓reduceIte, Nat.reduceEqDiff, Option.map_some, Option.map_none]; rfl) rfl rfl ?_ ?_
    · simp only [Wk, frIn, hpIn, lk_nil, lk_cons, renV, renX, renC, belV, belX, belC, belL, belB, List.cons_append, List.nil_append, ↓reduceIte, Nat.reduceEqDiff, and_self, and_true, true_and] <;> simp [-List.getD_eq_getElem?_getD, vv, one, renV, renX, renC, belV, belX, belC, belL, belB, rho, renO, belO, lk_nil, lk_cons, bx_ren, bx_bel, fset_nil]
    · rintro ⟨i, hi⟩
      have hg := chosen_get a d.dirty.length i
      dsimp only
      simp only [vv, one, List.cons_append, List.nil_append]
      (have XH := (And.intro (And.intro @eq_self.{1} @bx_len) (And.intro @Nat.mul_one @bx_get)); have XG := (And.intro (And.intro (And.intro @bx_zero (And.intro @bx_len @bx_set)) (And.intro @Nat.mul_one (And.intro @List.take_succ_cons.{0} @List.take_zero.{0}))) (And.intro (And.intro @List.take_nil.{0} (And.intro @List.length_cons.{0} @List.length_nil.{0})) (And.intro (And.intro @Nat.zero_add @List.drop_succ_cons.{0}) (And.intro @List.drop_zero.{0} @List.drop_nil.{0})))); (repeat' (first
        | (refine aCallF 15 ?_; apply aE3; exact k_Great _; exact flatA; refine aPost ?_)
        | (refine aCallF 21 ?_; apply aE3; exact k_ref03_Check _ (by omega) (by omega); exact flatA; refine aPost ?_)
        | (refine aCallF 14 ?_; apply aE3; exact k_alive4; exact flatA; refine aPost ?_)
        | (refine aCall 22 ?_; apply aE2; exact k_View_s _ (by omega) (by omega) (by assumption); refine aPost ?_)
        | (refine aCall 10 ?_; apply aE2; exact k_Crash_ok _ _ (by omega) (by omega) (by omega) (by assumption); refine aPost ?_)
        | (refine aCall 11 ?_; apply aE2; exact k_Chosen_ok _ _ (by omega) (by omega) (by omega) (by assumption); refine aPost ?_)
        | (refine aCall 9 ?_; apply aE2; exact k_Arm_ok _ _ (by omega) (by omega) (by assumption); refine aPost ?_)
        | (refine aCallF 23 ?_; apply aE3; exact k_ref02_Same _ _ (by omega) (by omega); exact flatA; refine aPost ?_)
        | (refine aCallF 20 ?_; apply aE3; exact k_ref03_Same _ _ (by omega) (by omega) (by omega) (by omega); exact flatA; refine aPost ?_)
        | refine aOp ?_
        | refine aOff1 ?_
        | refine aOff2 ?_
        | (refine aSplit ?_ ?_ <;> intro hsp)
        | (refine RegA.done ‹_› ?_; first | refine aKeep [0, 1, 2, 3, 4, 8, 9, 10, 11, 12, 13, 14, 15, 16, 17, 18, 19, 20, 21, 22, 23, 24, 25, 40, 71, 75, 89, 98, 112, 119, 125, 137] ?_ | skip)
        | refine awp_seq fun K hK => ?_
        | refine Awp.reg ?_
        | refine Awp.skip ?_
        | refine Awp.block ?_
        | refine Awp.scope ?_
        | refine aCt ?_
        | refine aCf ?_
        | (refine aCond ?_ ?_ <;> intro hsp)
        | (refine Awp.exit ?_; simp only [blockQ, thenQ, scopeQ, ↓reduceIte, Nat.reduceEqDiff])
        | (refine viaK ‹_› ?_; first | refine aKeep [0, 1, 2, 3, 4, 8, 9, 10, 11, 12, 13, 14, 15, 16, 17, 18, 19, 20, 21, 22, 23, 24, 25, 40, 71, 75, 89, 98, 112, 119, 125, 137] ?_ | skip)
        | simp only [thenQ_normal, blockQ_normal])); all_goals (clear XH; clear XG))
      all_goals first
        | (focus (
          have e := fset_take 2101 [] (chosenL a d.dirty.length) (i := i) (by omega) (by omega)
          rw [List.nil_append, List.nil_append] at e
          refine RegA.nil ⟨⟨i + 1, by omega⟩, [], ?_, ?_⟩
          · simp only [Wk, frIn, hpIn, lk_nil, lk_cons, renV, renX, renC, belV, belX, belC, belL, belB, List.cons_append, List.nil_append, ↓reduceIte, Nat.reduceEqDiff, and_self, and_true, true_and] <;> simp [-List.getD_eq_getElem?_getD, vv, one, renV, renX, renC, belV, belX, belC, belL, belB, rho, renO, belO, lk_nil, lk_cons, e, bx_ren, bx_bel]
          · (simp only []; omega)))
        | (focus (exfalso; omega))
        | skip
      obtain rfl : i = (chosenL a d.dirty.length).length := by omega
      simp only [List.take_length]
      refine Awp.loopK (α := {i : Nat // i ≤ (chosenL b d.dirty.length).length}) (fun x => [(8, vv (.bool false)), (17, vv (.int .i64 (x.1 : Int)))]) (fun x => [(1, .box (bx 2101 (fset (chosenL a d.dirty.length ++ (chosenL b d.dirty.length).take x.1))))]) [1, 3, 4, 11, 13, 15] [0] (fun x => (chosenL b d.dirty.length).length - x.1) ⟨0, by omega⟩ [] (by simp only [List.filterMap_cons, List.filterMap_nil, lk_nil, lk_cons, ↓reduceIte, Nat.reduceEqDiff, Option.map_some, Option.map_none]; rfl) (by simp only [List.filterMap_cons, List.filterMap_nil, lk_nil, lk_cons, ↓reduceIte, Nat.reduceEqDiff, Option.map_some, Option.map_none]; rfl) rfl rfl ?_ ?_
      · simp only [Wk, frIn, hpIn, lk_nil, lk_cons, renV, renX, renC, belV, belX, belC, belL, belB, List.cons_append, List.nil_append, ↓reduceIte, Nat.reduceEqDiff, and_self, and_true, true_and] <;> simp [-List.getD_eq_getElem?_getD, vv, one, renV, renX, renC, belV, belX, belC, belL, belB, rho, renO, belO, lk_nil, lk_cons, bx_ren, bx_bel]
      · rintro ⟨i, hi⟩
        have hg := chosen_get b d.dirty.length i
        dsimp only
        simp only [vv, one, List.cons_append, List.nil_append]
        (have XH := (And.intro (And.intro @eq_self.{1} @bx_len) (And.intro @Nat.mul_one @bx_get)); have XG := (And.intro (And.intro (And.intro @bx_zero (And.intro @bx_len @bx_set)) (And.intro @Nat.mul_one (And.intro @List.take_succ_cons.{0} @List.take_zero.{0}))) (And.intro (And.intro @List.take_nil.{0} (And.intro @List.length_cons.{0} @List.length_nil.{0})) (And.intro (And.intro @Nat.zero_add @List.drop_succ_cons.{0}) (And.intro @List.drop_zero.{0} @List.drop_nil.{0})))); (repeat' (first
          | (refine aCallF 15 ?_; apply aE3; exact k_Great _; exact flatA; refine aPost ?_)
          | (refine aCallF 21 ?_; apply aE3; exact k_ref03_Check _ (by omega) (by omega); exact flatA; refine aPost ?_)
          | (refine aCallF 14 ?_; apply aE3; exact k_alive4; exact flatA; refine aPost ?_)
          | (refine aCall 22 ?_; apply aE2; exact k_View_s _ (by omega) (by omega) (by assumption); refine aPost ?_)
          | (refine aCall 10 ?_; apply aE2; exact k_Crash_ok _ _ (by omega) (by omega) (by omega) (by assumption); refine aPost ?_)
          | (refine aCall 11 ?_; apply aE2; exact k_Chosen_ok _ _ (by omega) (by omega) (by omega) (by assumption); refine aPost ?_)
          | (refine aCall 9 ?_; apply aE2; exact k_Arm_ok _ _ (by omega) (by omega) (by assumption); refine aPost ?_)
          | (refine aCallF 23 ?_; apply aE3; exact k_ref02_Same _ _ (by omega) (by omega); exact flatA; refine aPost ?_)
          | (refine aCallF 20 ?_; apply aE3; exact k_ref03_Same _ _ (by omega) (by omega) (by omega) (by omega); exact flatA; refine aPost ?_)
          | refine aOp ?_
          | refine aOff1 ?_
          | refine aOff2 ?_
          | (refine aSplit ?_ ?_ <;> intro hsp)
          | (refine RegA.done ‹_› ?_; first | refine aKeep [0, 1, 2, 3, 4, 8, 9, 10, 11, 12, 13, 14, 15, 16, 17, 18, 19, 20, 21, 22, 23, 24, 25, 40, 71, 75, 89, 98, 112, 119, 125, 137] ?_ | skip)
          | refine awp_seq fun K hK => ?_
          | refine Awp.reg ?_
          | refine Awp.skip ?_
          | refine Awp.block ?_
          | refine Awp.scope ?_
          | refine aCt ?_
          | refine aCf ?_
          | (refine aCond ?_ ?_ <;> intro hsp)
          | (refine Awp.exit ?_; simp only [blockQ, thenQ, scopeQ, ↓reduceIte, Nat.reduceEqDiff])
          | (refine viaK ‹_› ?_; first | refine aKeep [0, 1, 2, 3, 4, 8, 9, 10, 11, 12, 13, 14, 15, 16, 17, 18, 19, 20, 21, 22, 23, 24, 25, 40, 71, 75, 89, 98, 112, 119, 125, 137] ?_ | skip)
          | simp only [thenQ_normal, blockQ_normal])); all_goals (clear XH; clear XG))
        all_goals first
          | (focus (
            have e := fset_take 2101 (chosenL a d.dirty.length) (chosenL b d.dirty.length) (i := i) (by omega) (by omega)
            refine RegA.nil ⟨⟨i + 1, by omega⟩, [], ?_, ?_⟩
            · simp only [Wk, frIn, hpIn, lk_nil, lk_cons, renV, renX, renC, belV, belX, belC, belL, belB, List.cons_append, List.nil_append, ↓reduceIte, Nat.reduceEqDiff, and_self, and_true, true_and] <;> simp [-List.getD_eq_getElem?_getD, vv, one, renV, renX, renC, belV, belX, belC, belL, belB, rho, renO, belO, lk_nil, lk_cons, e, bx_ren, bx_bel]
            · (simp only []; omega)))
          | (focus (exfalso; omega))
          | skip
        obtain rfl : i = (chosenL b d.dirty.length).length := by omega
        simp only [List.take_length]
        refine Awp.loopK (α := {i : Nat // i ≤ 2101}) (fun x => [(8, vv (.bool false)), (18, vv (.int .i64 (cnt (bits .or .u64 a b) d.dirty.length x.1 : Int))), (19, vv (.int .i64 (x.1 : Int)))]) (fun x => [(1, .box (bx 2101 (fset (chosenL a d.dirty.length ++ chosenL b d.dirty.length))))]) [1, 3, 4, 13, 15] [0] (fun x => 2101 - x.1) ⟨0, by omega⟩ [] (by simp only [List.filterMap_cons, List.filterMap_nil, lk_nil, lk_cons, ↓reduceIte, Nat.reduceEqDiff, Option.map_some, Option.map_none]; rfl) (by simp only [List.filterMap_cons, List.filterMap_nil, lk_nil, lk_cons, ↓reduceIte, Nat.reduceEqDiff, Option.map_some, Option.map_none]; rfl) rfl rfl ?_ ?_
        · simp only [Wk, frIn, hpIn, lk_nil, lk_cons, renV, renX, renC, belV, belX, belC, belL, belB, List.cons_append, List.nil_append, ↓reduceIte, Nat.reduceEqDiff, and_self, and_true, true_and] <;> simp [-List.getD_eq_getElem?_getD, vv, one, renV, renX, renC, belV, belX, belC, belL, belB, rho, renO, belO, lk_nil, lk_cons, bx_ren, bx_bel, cnt_zero]
        · rintro ⟨i, hi⟩
          have hcl := cnt_le (bits .or .u64 a b) d.dirty.length i
          have hca := cnt_all (bits .or .u64 a b) (N := d.dirty.length) (i := 2101) (by omega)
          have hce : decide ((cnt (bits .or .u64 a b) d.dirty.length 2101 : Int) = ((chosenL (bits .or .u64 a b) d.dirty.length).length : Int)) = true := decide_eq_true (by omega)
          dsimp only
          simp only [vv, one, List.cons_append, List.nil_append]
          rcases mask_tri h0 g0 (N := d.dirty.length) (by omega) hi with ⟨q0, q1, q2, e0, e1, e2, e3⟩ | ⟨q0, q1, q2, e0, e1, e2, e3⟩ | ⟨rfl, q1, q2, e0, e1, e2, e3⟩ <;>
          (have XH := (And.intro (And.intro (And.intro @eq_self.{1} @e0) (And.intro @e1 (And.intro @e2 @e3))) (And.intro (And.intro @hce @hw) (And.intro @bx_len (And.intro @Nat.mul_one @bx_get)))); have XG := (And.intro (And.intro (And.intro @bx_zero (And.intro @bx_len @bx_set)) (And.intro @Nat.mul_one (And.intro @List.take_succ_cons.{0} @List.take_zero.{0}))) (And.intro (And.intro @List.take_nil.{0} (And.intro @List.length_cons.{0} @List.length_nil.{0})) (And.intro (And.intro @Nat.zero_add @List.drop_succ_cons.{0}) (And.intro @List.drop_zero.{0} @List.drop_nil.{0})))); (repeat' (first
            | (refine aCallF 15 ?_; apply aE3; exact k_Great _; exact flatA; refine aPost ?_)
            | (refine aCallF 21 ?_; apply aE3; exact k_ref03_Check _ (by omega) (by omega); exact flatA; refine aPost ?_)
            | (refine aCallF 14 ?_; apply aE3; exact k_alive4; exact flatA; refine aPost ?_)
            | (refine aCall 22 ?_; apply aE2; exact k_View_s _ (by omega) (by omega) (by assumption); refine aPost ?_)
            | (refine aCall 10 ?_; apply aE2; exact k_Crash_ok _ _ (by omega) (by omega) (by omega) (by assumption); refine aPost ?_)
            | (refine aCall 11 ?_; apply aE2; exact k_Chosen_ok _ _ (by omega) (by omega) (by omega) (by assumption); refine aPost ?_)
            | (refine aCall 9 ?_; apply aE2; exact k_Arm_ok _ _ (by omega) (by omega) (by assumption); refine aPost ?_)
            | (refine aCallF 23 ?_; apply aE3; exact k_ref02_Same _ _ (by omega) (by omega); exact flatA; refine aPost ?_)
            | (refine aCallF 20 ?_; apply aE3; exact k_ref03_Same _ _ (by omega) (by omega) (by omega) (by omega); exact flatA; refine aPost ?_)
            | refine aOp ?_
            | refine aOff1 ?_
            | refine aOff2 ?_
            | (refine aSplit ?_ ?_ <;> intro hsp)
            | (refine RegA.done ‹_› ?_; first | refine aKeep [0, 1, 2, 3, 4, 8, 9, 10, 11, 12, 13, 14, 15, 16, 17, 18, 19, 20, 21, 22, 23, 24, 25, 40, 71, 75, 89, 98, 112, 119, 125, 137] ?_ | skip)
            | refine awp_seq fun K hK => ?_
            | refine Awp.reg ?_
            | refine Awp.skip ?_
            | refine Awp.block ?_
            | refine Awp.scope ?_
            | refine aCt ?_
            | refine aCf ?_
            | (refine aCond ?_ ?_ <;> intro hsp)
            | (refine Awp.exit ?_; simp only [blockQ, thenQ, scopeQ, ↓reduceIte, Nat.reduceEqDiff])
            | (refine viaK ‹_› ?_; first | refine aKeep [0, 1, 2, 3, 4, 8, 9, 10, 11, 12, 13, 14, 15, 16, 17, 18, 19, 20, 21, 22, 23, 24, 25, 40, 71, 75, 89, 98, 112, 119, 125, 137] ?_ | skip)
            | simp only [thenQ_normal, blockQ_normal])); all_goals (clear XH; clear XG))
          all_goals first
            | (focus (
              refine RegA.nil ⟨⟨i + 1, by omega⟩, [], ?_, ?_⟩
              · simp only [Wk, frIn, hpIn, lk_nil, lk_cons, renV, renX, renC, belV, belX, belC, belL, belB, List.cons_append, List.nil_append, ↓reduceIte, Nat.reduceEqDiff, and_self, and_true, true_and] <;> simp [-List.getD_eq_getElem?_getD, vv, one, renV, renX, renC, belV, belX, belC, belL, belB, rho, renO, belO, lk_nil, lk_cons, q2, bx_ren, bx_bel]
              · (simp only []; omega)))
            | (focus (
              (refine Awp.ret ?_; refine aRet ?_; (simp [-List.getD_eq_getElem?_getD, laxR, laxX, laxC, laxCs, rB, rN, rO, rDev, dtyD, spent_img, spent_dirty, sK, sI, sDev, sO, rK, rI] <;> (intros; omega)))))
  all_goals (refine Awp.ret ?_; refine aRet ?_; (simp [-List.getD_eq_getElem?_getD, laxR, laxX, laxC, laxCs, rB, rN, rO, rDev, dtyD, spent_img, spent_dirty, sK, sI, sDev, sO, rK, rI] <;> (intros; omega)))
end
end Go.Proofs.Ytijllihnheggbaa
