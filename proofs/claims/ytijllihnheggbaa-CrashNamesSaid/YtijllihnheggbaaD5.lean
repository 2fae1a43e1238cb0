/-
  The contracts of the program's functions, data in, data out. Conditions: those in the statements.
-/
import Derived.Test.YtijllihnheggbaaD4
import Derived.Test.YtijllihnheggbaaC21
namespace Go.Proofs.Ytijllihnheggbaa
set_option linter.all false
open Go Go.Proofs.Ytijllihnheggbaa.Eng Go.RowKit
noncomputable section

theorem k_kept_s (l : List Dty) (m : Int) (hl : l.length ≤ 1000000) (h0 : 0 ≤ m ∧ m < 18446744073709551616) : Con Try.prog 29 [sD l, vN .u64 m] [sK (keptL m l)] := (k_crash_kept l m hl h0).soft rfl
theorem k_indices_s (l : List Dty) (m : Int) (hl : l.length ≤ 1000000) (hs : Srt l) : Con Try.prog 31 [sD l, sD (keptL m l)] [sI (chosenL m l.length)] := (k_crash_indices l m hl hs).soft rfl
namespace Xaf285b0
def XX := (And.intro (And.intro @getD_dty (And.intro @tdiv8 @tmod8)) (And.intro (And.intro @takeAll @takeDropAll) (And.intro @toNatAdd @toNatSub)))
def XN := @Nat.zero_add
def XR := (And.intro (And.intro (And.intro @rDev.eq_1 @dtyD.eq_1) (And.intro @spent_img (And.intro @spent_dirty @sK.eq_1))) (And.intro (And.intro @sI.eq_1 @sDev.eq_1) (And.intro @sO.eq_1 (And.intro @rK.eq_1 @rI.eq_1))))
def XH := @Nat.zero_add
def XG := @Nat.zero_add
end Xaf285b0
set_option maxHeartbeats 4000000 in
set_option maxRecDepth 10000 in
open Xaf285b0 in
theorem k_crash_Chosen (d : Dev) (m : Int) (hm : d.img.length ≤ 1000000) (hl : d.dirty.length ≤ 1000000) (h0 : 0 ≤ m ∧ m < 18446744073709551616) : Con Try.prog 11 [devA d, vN .u64 m] [sI (chosenX d m), rN .i64 (chkD d)] := by
  refine con_of_awp hmix Try.func11 s11 rfl (by rw [n11]; simp) r11 n11 ?_
  simp only [Eng.start, startFr, inX, sN, vN, List.map_cons, List.map_nil, devA, devC, dtyD, sD, c11]
  (repeat' (first
    | (refine aCallF 28 ?_; apply aE3; exact k_cache_Check _ (by omega) (by omega); exact flatA; refine aPost ?_)
    | (refine aCall 29 ?_; apply aE2; exact k_kept_s _ _ (by omega) h0; refine aPost ?_)
    | (refine aCall 31 ?_; apply aE2; exact k_indices_s _ _ (by omega) (chkD_srt ‹chkD d = 0›); refine aPost ?_)
    | refine aOp ?_
    | refine aOff1 ?_
    | refine aOff2 ?_
    | (refine aSplit ?_ ?_ <;> intro hsp)
    | (refine RegA.done ‹_› ?_; first | refine aKeep [0, 1, 2, 4, 5, 6, 10] ?_ | skip)
    | refine awp_seq fun K hK => ?_
    | refine Awp.reg ?_
    | (refine aNcall (f := 28) ?_; apply aE6; exact k_cache_Check _ (by omega) (by omega); (refine aNr (by simp only [unV', unX, unXs, unC, unL, rN, rB, List.append_nil, List.nil_append, rDev, dtyD, spent_img, spent_dirty, sK, sI, sDev, sO, rK, rI]; rfl) rfl rfl); (first | exact .inl rfl | exact .inr flatA); refine aNpost ?_)
    | (refine aNcall (f := 29) ?_; apply aE6; exact k_kept_s _ _ (by omega) h0; (refine aNr (by simp only [unV', unX, unXs, unC, unL, rN, rB, List.append_nil, List.nil_append, rDev, dtyD, spent_img, spent_dirty, sK, sI, sDev, sO, rK, rI]; rfl) rfl rfl); (first | exact .inl rfl | exact .inr flatA); refine aNpost ?_)
    | (refine aNcall (f := 31) ?_; apply aE6; exact k_indices_s _ _ (by omega) (chkD_srt ‹chkD d = 0›); (refine aNr (by simp only [unV', unX, unXs, unC, unL, rN, rB, List.append_nil, List.nil_append, rDev, dtyD, spent_img, spent_dirty, sK, sI, sDev, sO, rK, rI]; rfl) rfl rfl); (first | exact .inl rfl | exact .inr flatA); refine aNpost ?_)
    | refine aNop ?_
    | refine aNoff1 ?_
    | refine aNoff2 ?_
    | (refine aNsplit ?_ ?_ <;> intro hsp)
    | refine aNnil ?_
    | refine aDrawN 6 [[], [0], [], [2], [], [3, 4], [1, 5, 5], [6, 6, 0, 1, 2, 3, 4, 5, 6], [7, 0, 1, 2, 3, 4, 5, 6, 7]] [[], [0], [], [2], [], [3, 4, 2], [1, 5, 0, 3, 4, 2], [6, 0, 1, 2, 3, 4, 5], [7, 0, 1, 2, 3, 4, 5, 6]] ?_
    | refine Awp.skip ?_
    | refine Awp.block ?_
    | refine Awp.scope ?_
    | refine aCt ?_
    | refine aCf ?_
    | (refine aCond ?_ ?_ <;> intro hsp)
    | (refine Awp.exit ?_; simp only [blockQ, thenQ, scopeQ, ↓reduceIte, Nat.reduceEqDiff])
    | (refine viaK ‹_› ?_; first | refine aKeep [0, 1, 2, 4, 5, 6, 10] ?_ | skip)
    | simp only [thenQ_normal, blockQ_normal]))
  · have e : chosenX d m = [] := by unfold chosenX; rw [if_neg ‹_›]
    (refine Awp.ret ?_; refine aRet ?_; (simp [-List.getD_eq_getElem?_getD, laxR, laxX, laxC, laxCs, rB, rN, rO, rDev, dtyD, spent_img, spent_dirty, sK, sI, sDev, sO, rK, rI, e, sI, *]))
  · have e : chosenX d m = chosenL m d.dirty.length := by unfold chosenX; rw [if_pos ‹_›]
    (refine Awp.ret ?_; refine aRet ?_; (simp [-List.getD_eq_getElem?_getD, laxR, laxX, laxC, laxCs, rB, rN, rO, rDev, dtyD, spent_img, spent_dirty, sK, sI, sDev, sO, rK, rI, e, sI, *]))
set_option maxHeartbeats 4000000 in
set_option maxRecDepth 10000 in
open Xaf285b0 in
theorem k_crash_Crash (d : Dev) (m : Int) (hm : d.img.length ≤ 1000000) (hl : d.dirty.length ≤ 1000000) (h0 : 0 ≤ m ∧ m < 18446744073709551616) : Con Try.prog 10 [devA d, vN .u64 m] [rDev (crashX d m), rN .i64 (chkD d)] := by
  refine con_of_awp hmix Try.func10 s10 rfl (by rw [n10]; simp) r10 n10 ?_
  simp only [Eng.start, startFr, inX, sN, vN, List.map_cons, List.map_nil, devA, devC, dtyD, sD, c10]
  (repeat' (first
    | (refine aCallF 28 ?_; apply aE3; exact k_cache_Check _ (by omega) (by omega); exact flatA; refine aPost ?_)
    | (refine aCall 29 ?_; apply aE2; exact k_kept_s _ _ (by omega) h0; refine aPost ?_)
    | (refine aCall 22 ?_; apply aE2; exact k_View_s (keptD d m) (by exact hm) (by exact Nat.le_trans (keptL_le _ _) hl) (chkD_kept m ‹chkD d = 0›); refine aPost ?_)
    | (refine aCallF 30 ?_; apply aE3; exact k_cache_New (words (keptD d m)) (by rw [words_len]; exact hm); exact flatA; refine aPost ?_)
    | refine aOp ?_
    | refine aOff1 ?_
    | refine aOff2 ?_
    | (refine aSplit ?_ ?_ <;> intro hsp)
    | (refine RegA.done ‹_› ?_; first | refine aKeep [0, 1, 2, 4, 5, 6, 7, 8, 12, 26] ?_ | skip)
    | refine awp_seq fun K hK => ?_
    | refine Awp.reg ?_
    | refine Awp.skip ?_
    | refine Awp.block ?_
    | refine Awp.scope ?_
    | refine aCt ?_
    | refine aCf ?_
    | (refine aCond ?_ ?_ <;> intro hsp)
    | (refine Awp.exit ?_; simp only [blockQ, thenQ, scopeQ, ↓reduceIte, Nat.reduceEqDiff])
    | (refine viaK ‹_› ?_; first | refine aKeep [0, 1, 2, 4, 5, 6, 7, 8, 12, 26] ?_ | skip)
    | simp only [thenQ_normal, blockQ_normal]))
  · have e : crashX d m = zDev := by unfold crashX; rw [if_neg ‹_›]
    (refine Awp.ret ?_; refine aRet ?_; (simp [-List.getD_eq_getElem?_getD, laxR, laxX, laxC, laxCs, rB, rN, rO, rDev, dtyD, spent_img, spent_dirty, sK, sI, sDev, sO, rK, rI, e, zDev, rDev, *]))
  · have e : crashX d m = crashD d m := by unfold crashX; rw [if_pos ‹_›]
    have e2 := newX_words d m ‹_›
    have e3 := chk_words d m ‹_›
    (refine Awp.ret ?_; refine aRet ?_; (simp [-List.getD_eq_getElem?_getD, laxR, laxX, laxC, laxCs, rB, rN, rO, rDev, dtyD, spent_img, spent_dirty, sK, sI, sDev, sO, rK, rI, e, e2, e3, rDev, *]))
end
end Go.Proofs.Ytijllihnheggbaa
