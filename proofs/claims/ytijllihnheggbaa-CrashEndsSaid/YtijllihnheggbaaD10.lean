/-
  The contracts of the program's functions, data in, data out. Conditions: those in the statements.
-/
import Derived.Test.YtijllihnheggbaaD9
namespace Go.Proofs.Ytijllihnheggbaa
set_option linter.all false
open Go Go.Proofs.Ytijllihnheggbaa.Eng Go.RowKit
noncomputable section
namespace X1fdd706
def XX := (And.intro (And.intro @getD_dty (And.intro @tdiv8 @tmod8)) (And.intro (And.intro @takeAll @takeDropAll) (And.intro @toNatAdd @toNatSub)))
def XN := @Nat.zero_add
def XR := (And.intro (And.intro (And.intro @rDev.eq_1 @dtyD.eq_1) (And.intro @spent_img (And.intro @spent_dirty @sK.eq_1))) (And.intro (And.intro @sI.eq_1 @sDev.eq_1) (And.intro @sO.eq_1 (And.intro @rK.eq_1 @rI.eq_1))))
def XH := @Nat.zero_add
def XG := @Nat.zero_add
end X1fdd706
set_option maxHeartbeats 4000000 in
set_option maxRecDepth 10000 in
open X1fdd706 in
theorem k_law04_CrashEnds (d : Dev) (m g : Int) (h0 : 0 ≤ m ∧ m < 18446744073709551616) (g0 : 0 ≤ g ∧ g < 18446744073709551616) : Con Try.prog 6 [devA d, vN .u64 m, vN .u64 g] [rB true] := by
  refine con_of_awp hmix Try.func6 s6 rfl (by rw [n6]; simp) r6 n6 ?_
  simp only [Eng.start, startFr, inX, sN, vN, List.map_cons, List.map_nil, devA, devC, dtyD, sD, c6]
  (have XH := @eq_self.{1}; (repeat' (first
    | (refine aCallF 15 ?_; apply aE3; exact k_Great _; exact flatA; refine aPost ?_)
    | (refine aCallF 21 ?_; apply aE3; exact k_ref03_Check _ (by omega) (by omega); exact flatA; refine aPost ?_)
    | (refine aCallF 14 ?_; apply aE3; exact k_alive4; exact flatA; refine aPost ?_)
    | refine aOp ?_
    | refine aOff1 ?_
    | refine aOff2 ?_
    | (refine aSplit ?_ ?_ <;> intro hsp)
    | (refine RegA.done ‹_› ?_; first | refine aKeep [0, 1, 2, 3, 6, 7, 8, 9, 10, 11, 12, 13, 14, 15, 16, 23] ?_ | skip)
    | refine awp_seq fun K hK => ?_
    | refine Awp.reg ?_
    | refine Awp.skip ?_
    | refine Awp.block ?_
    | refine Awp.scope ?_
    | refine aCt ?_
    | refine aCf ?_
    | (refine aCond ?_ ?_ <;> intro hsp)
    | (refine Awp.exit ?_; simp only [blockQ, thenQ, scopeQ, ↓reduceIte, Nat.reduceEqDiff])
    | (refine viaK ‹_› ?_; first | refine aKeep [0, 1, 2, 3, 6, 7, 8, 9, 10, 11, 12, 13, 14, 15, 16, 23] ?_ | skip)
    | simp only [thenQ_normal, blockQ_normal])); all_goals (clear XH))
  rotate_right 1
  · have hch : chkD d = 0 := ‹_›
    have h1 : decide ((crashD d 18446744073709551615).img = words d) = true := decide_eq_true (crash_ones d)
    have h2 : decide ((crashD d 0).img = d.img) = true := decide_eq_true (crash_zero d)
    have h3 : decide (crashD d m = crashD (crashD d m) g) = true := decide_eq_true (crash_again d m g).symm
    have hcx := chkD_crash m hch
    have l1 := crashD_len d 18446744073709551615
    have l2 := crashD_len d 0
    have l3 := crashD_len d m
    have l4 := crashD_len (crashD d m) g
    have l5 := words_len d
    have l6 : (crashD d m).dirty.length = 0 := by rw [crashD_dirty]; rfl
    have l7 : (crashD (crashD d m) g).dirty.length = 0 := by rw [crashD_dirty]; rfl
    (have XH := (And.intro (And.intro @eq_self.{1} @h1) (And.intro @h2 @h3)); (repeat' (first
        | (refine aCallF 15 ?_; apply aE3; exact k_Great _; exact flatA; refine aPost ?_)
        | (refine aCallF 21 ?_; apply aE3; exact k_ref03_Check _ (by omega) (by omega); exact flatA; refine aPost ?_)
        | (refine aCallF 14 ?_; apply aE3; exact k_alive4; exact flatA; refine aPost ?_)
        | (refine aCall 22 ?_; apply aE2; exact k_View_s _ (by omega) (by omega) (by assumption); refine aPost ?_)
        | (refine aCall 10 ?_; apply aE2; exact k_Crash_ok _ _ (by omega) (by omega) (by omega) (by assumption); refine aPost ?_)
        | (refine aCallF 23 ?_; apply aE3; exact k_ref02_Same _ _ (by omega) (by omega); exact flatA; refine aPost ?_)
        | (refine aCallF 20 ?_; apply aE3; exact k_ref03_Same _ _ (by omega) (by omega) (by omega) (by omega); exact flatA; refine aPost ?_)
        | refine aOp ?_
        | refine aOff1 ?_
        | refine aOff2 ?_
        | (refine aSplit ?_ ?_ <;> intro hsp)
        | (refine RegA.done ‹_› ?_; first | refine aKeep [0, 1, 2, 3, 6, 7, 8, 9, 10, 11, 12, 13, 14, 15, 16, 23] ?_ | skip)
        | refine awp_seq fun K hK => ?_
        | refine Awp.reg ?_
        | refine Awp.skip ?_
        | refine Awp.block ?_
        | refine Awp.scope ?_
        | refine aCt ?_
        | refine aCf ?_
        | (refine aCond ?_ ?_ <;> intro hsp)
        | (refine Awp.exit ?_; simp only [blockQ, thenQ, scopeQ, ↓reduceIte, Nat.reduceEqDiff])
        | (refine viaK ‹_› ?_; first | refine aKeep [0, 1, 2, 3, 6, 7, 8, 9, 10, 11, 12, 13, 14, 15, 16, 23] ?_ | skip)
        | simp only [thenQ_normal, blockQ_normal])); all_goals (clear XH))
    all_goals (refine Awp.ret ?_; refine aRet ?_; (simp [-List.getD_eq_getElem?_getD, laxR, laxX, laxC, laxCs, rB, rN, rO, rDev, dtyD, spent_img, spent_dirty, sK, sI, sDev, sO, rK, rI] <;> (intros; omega)))
  all_goals (refine Awp.ret ?_; refine aRet ?_; (simp [-List.getD_eq_getElem?_getD, laxR, laxX, laxC, laxCs, rB, rN, rO, rDev, dtyD, spent_img, spent_dirty, sK, sI, sDev, sO, rK, rI] <;> (intros; omega)))
end
end Go.Proofs.Ytijllihnheggbaa
