/-
  The contracts of the program's functions, data in, data out. Conditions: those in the statements.
-/
import Derived.Test.YtijllihnheggbaaC11
namespace Go.Proofs.Ytijllihnheggbaa
set_option linter.all false
open Go Go.Proofs.Ytijllihnheggbaa.Eng Go.RowKit
noncomputable section
namespace X2ba775d
def XX := (And.intro (And.intro @getD_dty (And.intro @tdiv8 @tmod8)) (And.intro (And.intro @takeAll @takeDropAll) (And.intro @toNatAdd @toNatSub)))
def XN := @Nat.zero_add
def XR := (And.intro (And.intro @rDev.eq_1 @dtyD.eq_1) (And.intro @spent_img @spent_dirty))
def XH := @Nat.zero_add
def XG := @Nat.zero_add
end X2ba775d
set_option maxHeartbeats 4000000 in
set_option maxRecDepth 10000 in
open X2ba775d in
theorem k_cache_begin (d : Dev) (hm : d.img.length ≤ 1000000) (hl : d.dirty.length ≤ 1000000) (h0 : chkD d = 0) : Con Try.prog 38 [devA d] [rDev (spent d), rB (madeB d)] := by
  have hdl := ((devOk_iff d).1 h0).2.2
  refine con_of_awp hmix Try.func38 s38 rfl (by rw [n38]; simp) r38 n38 ?_
  simp only [Eng.start, startFr, inX, sN, vN, List.map_cons, List.map_nil, devA, devC, dtyD, sD, c38]
  (repeat' (first
    | refine aOp ?_
    | refine aOff1 ?_
    | refine aOff2 ?_
    | (refine aSplit ?_ ?_ <;> intro hsp)
    | (refine RegA.done ‹_› ?_)
    | refine awp_seq fun K hK => ?_
    | refine Awp.reg ?_
    | refine Awp.skip ?_
    | refine Awp.block ?_
    | refine Awp.scope ?_
    | refine aCt ?_
    | refine aCf ?_
    | (refine aCond ?_ ?_ <;> intro hsp)
    | (refine Awp.exit ?_; simp only [blockQ, thenQ, scopeQ, ↓reduceIte, Nat.reduceEqDiff])
    | (refine viaK ‹_› ?_)
    | simp only [thenQ_normal, blockQ_normal]))
  all_goals ((first | (have e : spent d = ⟨d.img, d.dirty, d.left, true⟩ := by unfold spent; rw [if_pos ‹_›]) | (have e : spent d = d := by unfold spent; rw [if_neg ‹_›, if_pos ‹_›]) | (have e : spent d = ⟨d.img, d.dirty, d.left - 1, d.down⟩ := by unfold spent; rw [if_neg ‹_›, if_neg ‹_›])); (first | (have e2 : madeB d = true := by unfold madeB; exact decide_eq_true ‹_›) | (have e2 : madeB d = false := by unfold madeB; simp [*])); (refine Awp.ret ?_; refine aRet ?_; (simp [-List.getD_eq_getElem?_getD, laxR, laxX, laxC, laxCs, rB, rN, rO, rDev, dtyD, spent_img, spent_dirty, e, e2, rDev])))
set_option maxHeartbeats 4000000 in
set_option maxRecDepth 10000 in
open X2ba775d in
theorem k_cache_New (m : List Int) (hm : m.length ≤ 1000000) : Con Try.prog 30 [sN .u64 m] [rDev (newX m), rN .i64 (chk m.length)] := by
  refine con_of_awp hmix Try.func30 s30 rfl (by rw [n30]; simp) r30 n30 ?_
  simp only [Eng.start, startFr, inX, sN, vN, List.map_cons, List.map_nil, devA, devC, dtyD, sD, c30]
  (repeat' (first
    | (refine aCallF 41 ?_; apply aE3; exact k_image_Check _; exact flatA; refine aPost ?_)
    | refine aOp ?_
    | refine aOff1 ?_
    | refine aOff2 ?_
    | (refine aSplit ?_ ?_ <;> intro hsp)
    | (refine RegA.done ‹_› ?_)
    | refine awp_seq fun K hK => ?_
    | refine Awp.reg ?_
    | refine Awp.skip ?_
    | refine Awp.block ?_
    | refine Awp.scope ?_
    | refine aCt ?_
    | refine aCf ?_
    | (refine aCond ?_ ?_ <;> intro hsp)
    | (refine Awp.exit ?_; simp only [blockQ, thenQ, scopeQ, ↓reduceIte, Nat.reduceEqDiff])
    | (refine viaK ‹_› ?_)
    | simp only [thenQ_normal, blockQ_normal]))
  all_goals (first | (have e : newX m = ⟨m, [], -1, false⟩ := by unfold newX; rw [if_pos ‹_›]) | (have e : newX m = zDev := by unfold newX; rw [if_neg ‹_›])); (refine Awp.ret ?_; refine aRet ?_; (simp [-List.getD_eq_getElem?_getD, laxR, laxX, laxC, laxCs, rB, rN, rO, rDev, dtyD, spent_img, spent_dirty, e, zDev, rDev, *]))
end
end Go.Proofs.Ytijllihnheggbaa
