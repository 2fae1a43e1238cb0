/-
  The contracts of the program's functions, data in, data out. Conditions: those in the statements.
-/
import Derived.Test.YtijllihnheggbaaC5
namespace Go.Proofs.Ytijllihnheggbaa
set_option linter.all false
open Go Go.Proofs.Ytijllihnheggbaa.Eng Go.RowKit
noncomputable section

def setD (m : List Int) (x : Dty) : List Int := m.set x.at_.toNat x.v
def wUpto (d : Dev) (i : Nat) : List Int := (d.dirty.take i).foldl (fun m x => m.set x.at_.toNat x.v) d.img
theorem wUpto_len (d : Dev) (i : Nat) : (wUpto d i).length = d.img.length := setAll_len _ _
theorem wUpto_succ (d : Dev) (i : Nat) (h : i < d.dirty.length) : wUpto d (i + 1) = (wUpto d i).set (d.dirty.getD i default).at_.toNat (d.dirty.getD i default).v := by
  unfold wUpto
  rw [List.take_add_one, List.foldl_append]
  simp [List.getD, h]
theorem wUpto_all (d : Dev) : wUpto d d.dirty.length = words d := by unfold wUpto words; rw [List.take_length]
theorem set_num (l : List Int) (i : Nat) (v : Int) : (l.map (numD .u64)).set i [.v (.int .u64 v)] = (l.set i v).map (numD .u64) := by rw [List.map_set]; rfl
namespace Xb26843d
def XX := (And.intro (And.intro @getD_dty (And.intro @tdiv8 @tmod8)) (And.intro (And.intro @takeAll @takeDropAll) (And.intro @toNatAdd @toNatSub)))
def XN := @Nat.zero_add
def XR := (And.intro @rDev.eq_1 @dtyD.eq_1)
def XH := @Nat.zero_add
def XG := @Nat.zero_add
end Xb26843d
set_option maxHeartbeats 4000000 in
set_option maxRecDepth 10000 in
open Xb26843d in
theorem k_cache_View (d : Dev) (hm : d.img.length ≤ 1000000) (hl : d.dirty.length ≤ 1000000) : Con Try.prog 22 [devA d] [rO .u64 (viewL d), rN .i64 (chkD d)] := by
  refine con_of_awp hmix Try.func22 s22 rfl (by rw [n22]; simp) r22 n22 ?_
  simp only [Eng.start, startFr, inX, sN, vN, List.map_cons, List.map_nil, devA, devC, dtyD, sD, c22]
  (repeat' (first
    | (refine aCallF 28 ?_; apply aE3; exact k_cache_Check _ (by omega) (by omega); exact flatA; refine aPost ?_)
    | refine aOp ?_
    | refine aOff1 ?_
    | refine aOff2 ?_
    | (refine aSplit ?_ ?_ <;> intro hsp)
    | (refine RegA.done ‹_› ?_)
    | refine awp_seq fun K hK => ?_
    | refine Awp.reg ?_
    | refine Awp.skip ?_
    | refine Awp.block ?_
    | refine Awp.scope ?_
    | refine aCt ?_
    | refine aCf ?_
    | (refine aCond ?_ ?_ <;> intro hsp)
    | (refine Awp.exit ?_; simp only [blockQ, thenQ, scopeQ, ↓reduceIte, Nat.reduceEqDiff])
    | (refine viaK ‹_› ?_)
    | simp only [thenQ_normal, blockQ_normal]))
  · have e : viewL d = [] := by unfold viewL; rw [if_neg ‹_›]
    (refine Awp.ret ?_; refine aRet ?_; (simp [-List.getD_eq_getElem?_getD, laxR, laxX, laxC, laxCs, rB, rN, rO, rDev, dtyD, e, *] <;> (intros; omega)))
  · refine Awp.loopK (α := {i : Nat // i ≤ d.dirty.length}) (fun x => [(19, vv (.int .i64 (x.1 : Int)))]) (fun x => [(2, .row 1 ((wUpto d x.1).map (numD .u64)) false)]) [2, 3, 5, 17, 18] [0, 1] (fun x => d.dirty.length - x.1) ⟨0, by omega⟩ [] (by simp only [List.filterMap_cons, List.filterMap_nil, lk_nil, lk_cons, ↓reduceIte, Nat.reduceEqDiff, Option.map_some, Option.map_none]; rfl) (by simp only [List.filterMap_cons, List.filterMap_nil, lk_nil, lk_cons, ↓reduceIte, Nat.reduceEqDiff, Option.map_some, Option.map_none]; rfl) rfl rfl ?_ ?_
    · simp only [Wk, frIn, hpIn, lk_nil, lk_cons, renV, renX, renC, belV, belX, belC, belL, belB, List.cons_append, List.nil_append, ↓reduceIte, Nat.reduceEqDiff, and_self, and_true, true_and] <;> simp [-List.getD_eq_getElem?_getD, vv, one, renV, renX, renC, belV, belX, belC, belL, belB, rho, renO, belO, lk_nil, lk_cons, wUpto]
    · rintro ⟨i, hi⟩
      have hb := (devOk_all ‹chkD d = 0›).1 i
      have hwl := wUpto_len d i
      simp only [vv, one, List.cons_append, List.nil_append]
      (have XH := @wUpto_len; have XG := (And.intro @set_num @wUpto_len); (repeat' (first
        | refine aOp ?_
        | refine aOff1 ?_
        | refine aOff2 ?_
        | (refine aSplit ?_ ?_ <;> intro hsp)
        | (refine RegA.done ‹_› ?_)
        | refine awp_seq fun K hK => ?_
        | refine Awp.reg ?_
        | refine Awp.skip ?_
        | refine Awp.block ?_
        | refine Awp.scope ?_
        | refine aCt ?_
        | refine aCf ?_
        | (refine aCond ?_ ?_ <;> intro hsp)
        | (refine Awp.exit ?_; simp only [blockQ, thenQ, scopeQ, ↓reduceIte, Nat.reduceEqDiff])
        | (refine viaK ‹_› ?_)
        | simp only [thenQ_normal, blockQ_normal])); all_goals (clear XH; clear XG))
      · have e := wUpto_succ d i (by omega)
        refine RegA.nil ⟨⟨i + 1, by omega⟩, [], ?_, ?_⟩
        · simp only [Wk, frIn, hpIn, lk_nil, lk_cons, renV, renX, renC, belV, belX, belC, belL, belB, List.cons_append, List.nil_append, ↓reduceIte, Nat.reduceEqDiff, and_self, and_true, true_and] <;> simp [-List.getD_eq_getElem?_getD, vv, one, renV, renX, renC, belV, belX, belC, belL, belB, rho, renO, belO, lk_nil, lk_cons, e]
        · (simp only []; omega)
      · have e : wUpto d i = words d := by rw [show i = d.dirty.length by omega]; exact wUpto_all d
        have e2 : viewL d = words d := by unfold viewL; rw [if_pos ‹_›]
        (refine Awp.ret ?_; refine aRet ?_; (simp [-List.getD_eq_getElem?_getD, laxR, laxX, laxC, laxCs, rB, rN, rO, rDev, dtyD, e, e2, *] <;> (intros; omega)))
end
end Go.Proofs.Ytijllihnheggbaa
