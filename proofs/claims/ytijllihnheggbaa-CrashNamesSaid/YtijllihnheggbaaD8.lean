/-
  The contracts of the program's functions, data in, data out. Conditions: those in the statements.
-/
import Derived.Test.YtijllihnheggbaaD7
namespace Go.Proofs.Ytijllihnheggbaa
set_option linter.all false
open Go Go.Proofs.Ytijllihnheggbaa.Eng Go.RowKit
noncomputable section

theorem k_Arm_s (d : Dev) (n : Int) (hm : d.img.length ≤ 1000000) (hl : d.dirty.length ≤ 1000000) : Con Try.prog 9 [devA d, vN .i64 n] [sDev (armX d n), rN .i64 (armE d n)] := (k_crash_Arm d n hm hl).soft rfl
theorem k_Crash_s (d : Dev) (m : Int) (hm : d.img.length ≤ 1000000) (hl : d.dirty.length ≤ 1000000) (h0 : 0 ≤ m ∧ m < 18446744073709551616) : Con Try.prog 10 [devA d, vN .u64 m] [sDev (crashX d m), rN .i64 (chkD d)] := (k_crash_Crash d m hm hl h0).soft rfl
theorem k_rArm_s (d : Dev) (n : Int) (hm : d.img.length ≤ 1000000) (hl : d.dirty.length ≤ 1000000) : Con Try.prog 17 [devA d, vN .i64 n] [sDev (armX d n), rN .i64 (armE d n)] := (k_ref04_Arm d n hm hl).soft rfl
theorem k_rCrash_s (d : Dev) (m : Int) (hm : d.img.length ≤ 1000000) (hl : d.dirty.length ≤ 1000000) (h0 : 0 ≤ m ∧ m < 18446744073709551616) : Con Try.prog 18 [devA d, vN .u64 m] [sDev (crashX d m), rN .i64 (chkD d)] := (k_ref04_Crash d m hm hl h0).soft rfl
theorem k_rChosen_s (d : Dev) (m : Int) (hm : d.img.length ≤ 1000000) (hl : d.dirty.length ≤ 1000000) (h0 : 0 ≤ m ∧ m < 18446744073709551616) : Con Try.prog 19 [devA d, vN .u64 m] [sI (chosenX d m), rN .i64 (chkD d)] := (k_ref04_Chosen d m hm hl h0).soft rfl
theorem k_Twin_s (d : Dev) (hm : d.img.length ≤ 1000000) (hl : d.dirty.length ≤ 1000000) : Con Try.prog 16 [devA d] [sDev d] := (k_ref03_Twin d hm hl).soft rfl
theorem armX_len (d : Dev) (n : Int) : (armX d n).img.length ≤ d.img.length ∧ (armX d n).dirty.length ≤ d.dirty.length := by
  unfold armX
  split <;> simp [zDev]
theorem crashX_len (d : Dev) (m : Int) : (crashX d m).img.length ≤ d.img.length ∧ (crashX d m).dirty.length = 0 := by
  unfold crashX
  split
  · rw [crashD_len, crashD_dirty]; exact ⟨Nat.le_refl _, rfl⟩
  · simp [zDev]
theorem chosenX_le (d : Dev) (m : Int) : (chosenX d m).length ≤ d.dirty.length := by
  unfold chosenX
  split
  · exact chosenL_le _ _
  · simp
namespace X53d2232
def XX := (And.intro (And.intro @getD_dty (And.intro @tdiv8 @tmod8)) (And.intro (And.intro @takeAll @takeDropAll) (And.intro @toNatAdd @toNatSub)))
def XN := @Nat.zero_add
def XR := (And.intro (And.intro (And.intro @rDev.eq_1 @dtyD.eq_1) (And.intro @spent_img (And.intro @spent_dirty @sK.eq_1))) (And.intro (And.intro @sI.eq_1 @sDev.eq_1) (And.intro @sO.eq_1 (And.intro @rK.eq_1 @rI.eq_1))))
def XH := @Nat.zero_add
def XG := @Nat.zero_add
end X53d2232
set_option maxHeartbeats 4000000 in
set_option maxRecDepth 10000 in
open X53d2232 in
theorem k_law04_CrashTells (d : Dev) (n m : Int) (h0 : 0 ≤ m ∧ m < 18446744073709551616) : Con Try.prog 4 [devA d, vN .i64 n, vN .u64 m] [rB true] := by
  have hal := armX_len d n
  have hcl := crashX_len d m
  have hol := chosenX_le d m
  refine con_of_awp hmix Try.func4 s4 rfl (by rw [n4]; simp) r4 n4 ?_
  simp only [Eng.start, startFr, inX, sN, vN, List.map_cons, List.map_nil, devA, devC, dtyD, sD, c4]
  (have XH := @eq_self.{1}; (repeat' (first
    | (refine aCallF 15 ?_; apply aE3; exact k_Great _; exact flatA; refine aPost ?_)
    | (refine aCall 16 ?_; apply aE2; exact k_Twin_s _ (by omega) (by omega); refine aPost ?_)
    | (refine aCall 9 ?_; apply aE2; exact k_Arm_s _ _ (by omega) (by omega); refine aPost ?_)
    | (refine aCall 17 ?_; apply aE2; exact k_rArm_s _ _ (by omega) (by omega); refine aPost ?_)
    | (refine aCall 10 ?_; apply aE2; exact k_Crash_s _ _ (by omega) (by omega) h0; refine aPost ?_)
    | (refine aCall 18 ?_; apply aE2; exact k_rCrash_s _ _ (by omega) (by omega) h0; refine aPost ?_)
    | (refine aCall 11 ?_; apply aE2; exact k_crash_Chosen _ _ (by omega) (by omega) h0; refine aPost ?_)
    | (refine aCall 19 ?_; apply aE2; exact k_rChosen_s _ _ (by omega) (by omega) h0; refine aPost ?_)
    | (refine aCallF 20 ?_; apply aE3; exact k_ref03_Same _ _ (by omega) (by omega) (by omega) (by omega); exact flatA; refine aPost ?_)
    | (refine aCallF 13 ?_; apply aE3; exact k_ref02_SameInts _ _ (by omega) (by omega); exact flatA; refine aPost ?_)
    | refine aOp ?_
    | refine aOff1 ?_
    | refine aOff2 ?_
    | (refine aSplit ?_ ?_ <;> intro hsp)
    | (refine RegA.done ‹_› ?_; first | refine aKeep [0, 1, 2, 3, 6, 7, 8, 9, 10, 11, 12, 13, 14, 15, 16, 17, 18, 19, 21] ?_ | skip)
    | refine awp_seq fun K hK => ?_
    | refine Awp.reg ?_
    | refine Awp.skip ?_
    | refine Awp.block ?_
    | refine Awp.scope ?_
    | refine aCt ?_
    | refine aCf ?_
    | (refine aCond ?_ ?_ <;> intro hsp)
    | (refine Awp.exit ?_; simp only [blockQ, thenQ, scopeQ, ↓reduceIte, Nat.reduceEqDiff])
    | (refine viaK ‹_› ?_; first | refine aKeep [0, 1, 2, 3, 6, 7, 8, 9, 10, 11, 12, 13, 14, 15, 16, 17, 18, 19, 21] ?_ | skip)
    | simp only [thenQ_normal, blockQ_normal])); all_goals (clear XH))
  all_goals (refine Awp.ret ?_; refine aRet ?_; (simp [-List.getD_eq_getElem?_getD, laxR, laxX, laxC, laxCs, rB, rN, rO, rDev, dtyD, spent_img, spent_dirty, sK, sI, sDev, sO, rK, rI] <;> (intros; omega)))
end
end Go.Proofs.Ytijllihnheggbaa
