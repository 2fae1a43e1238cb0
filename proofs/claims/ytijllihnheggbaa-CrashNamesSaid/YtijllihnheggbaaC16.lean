/-
  The contracts of the program's functions, data in, data out. Conditions: those in the statements.
-/
import Derived.Test.YtijllihnheggbaaC15
namespace Go.Proofs.Ytijllihnheggbaa
set_option linter.all false
open Go Go.Proofs.Ytijllihnheggbaa.Eng Go.RowKit
noncomputable section

theorem imgF_nil (m : List Int) : imgF m [] = m := rfl
theorem imgF_take {m : List Int} {l : List Dty} {i : Nat} (h : i < l.length) : imgF m (l.take (i + 1)) = if (l.getD i default).fl = true then (imgF m (l.take i)).set (l.getD i default).at_.toNat (l.getD i default).v else imgF m (l.take i) := by
  unfold imgF
  rw [List.take_add_one, List.filter_append, List.foldl_append]
  simp only [List.getElem?_eq_getElem h, Option.toList_some, List.getD_eq_getElem?_getD, Option.getD_some]
  cases hf : l[i].fl <;> simp [List.filter_cons, hf]
theorem unfl_take {l : List Dty} {i : Nat} (h : i < l.length) : unfl (l.take (i + 1)) = if (l.getD i default).fl = true then unfl (l.take i) else unfl (l.take i) ++ [l.getD i default] := by
  unfold unfl
  rw [List.take_add_one, List.filter_append]
  simp only [List.getElem?_eq_getElem h, Option.toList_some, List.getD_eq_getElem?_getD, Option.getD_some]
  cases hf : l[i].fl <;> simp [List.filter_cons, hf]
theorem imgF_t {m : List Int} {l : List Dty} {i : Nat} (h : i < l.length) (hf : (l.getD i default).fl = true) : (imgF m (l.take i)).set (l.getD i default).at_.toNat (l.getD i default).v = imgF m (l.take (i + 1)) ∧ unfl (l.take i) = unfl (l.take (i + 1)) := by
  rw [imgF_take h, unfl_take h, if_pos hf, if_pos hf]; exact ⟨rfl, rfl⟩
theorem imgF_f {m : List Int} {l : List Dty} {i : Nat} (h : i < l.length) (hf : (l.getD i default).fl = false) : imgF m (l.take i) = imgF m (l.take (i + 1)) ∧ unfl (l.take i) ++ [l.getD i default] = unfl (l.take (i + 1)) := by
  rw [imgF_take h, unfl_take h, hf]; exact ⟨rfl, rfl⟩
theorem unfl_le (l : List Dty) (i : Nat) : (unfl (l.take i)).length ≤ i := by
  unfold unfl
  exact Nat.le_trans (List.length_filter_le _ _) (by simp; omega)
namespace X3011e52
def XX := (And.intro (And.intro @getD_dty (And.intro @tdiv8 @tmod8)) (And.intro (And.intro @takeAll @takeDropAll) (And.intro @toNatAdd @toNatSub)))
def XN := @Nat.zero_add
def XR := (And.intro (And.intro @rDev.eq_1 @dtyD.eq_1) (And.intro @spent_img @spent_dirty))
def XH := @Nat.zero_add
def XG := @Nat.zero_add
end X3011e52
set_option maxHeartbeats 4000000 in
set_option maxRecDepth 10000 in
open X3011e52 in
theorem k_cache_Fence (d : Dev) (hm : d.img.length ≤ 1000000) (hl : d.dirty.length ≤ 1000000) : Con Try.prog 26 [devA d] [rDev (fenceX d), rN .i64 (chkD d)] := by
  refine con_of_awp hmix Try.func26 s26 rfl (by rw [n26]; simp) r26 n26 ?_
  simp only [Eng.start, startFr, inX, sN, vN, List.map_cons, List.map_nil, devA, devC, dtyD, sD, c26]
  (have XH := (And.intro @rz_or (And.intro @List.length_append.{0} @imgF_len)); have XG := (And.intro (And.intro (And.intro (And.intro @dty_snoc @dty_eta) (And.intro @dty_set @set_num)) (And.intro (And.intro @imgF_len @spent_img) (And.intro @spent_dirty @List.take_succ_cons.{0}))) (And.intro (And.intro (And.intro @List.take_zero.{0} @List.take_nil.{0}) (And.intro @List.length_cons.{0} @List.length_nil.{0})) (And.intro (And.intro @Nat.zero_add @List.drop_succ_cons.{0}) (And.intro @List.drop_zero.{0} @List.drop_nil.{0})))); (repeat' (first
    | (refine aCallF 28 ?_; apply aE3; exact k_cache_Check _ (by omega) (by omega); exact flatA; refine aPost ?_)
    | (refine aCall 38 ?_; apply aE2; exact k_cache_begin _ (by omega) (by omega) ‹chkD d = 0›; refine aPost ?_)
    | refine aOp ?_
    | refine aOff1 ?_
    | refine aOff2 ?_
    | (refine aSplit ?_ ?_ <;> intro hsp)
    | (refine RegA.done ‹_› ?_; first | refine aKeep [0, 1, 2, 3, 4, 5, 6, 8, 12, 21, 24, 25, 26, 27, 31] ?_ | skip)
    | refine awp_seq fun K hK => ?_
    | refine Awp.reg ?_
    | refine Awp.skip ?_
    | refine Awp.block ?_
    | refine Awp.scope ?_
    | refine aCt ?_
    | refine aCf ?_
    | (refine aCond ?_ ?_ <;> intro hsp)
    | (refine Awp.exit ?_; simp only [blockQ, thenQ, scopeQ, ↓reduceIte, Nat.reduceEqDiff])
    | (refine viaK ‹_› ?_; first | refine aKeep [0, 1, 2, 3, 4, 5, 6, 8, 12, 21, 24, 25, 26, 27, 31] ?_ | skip)
    | simp only [thenQ_normal, blockQ_normal])); all_goals (clear XH; clear XG))
  · have e : fenceX d = zDev := by unfold fenceX; rw [if_neg ‹_›]
    (refine Awp.ret ?_; refine aRet ?_; (simp [-List.getD_eq_getElem?_getD, laxR, laxX, laxC, laxCs, rB, rN, rO, rDev, dtyD, spent_img, spent_dirty, e, zDev, rDev, *]))
  · have e : fenceX d = spent d := by unfold fenceX fenceD; rw [if_pos ‹_›, if_neg (by simp [*])]
    (refine Awp.ret ?_; refine aRet ?_; (simp [-List.getD_eq_getElem?_getD, laxR, laxX, laxC, laxCs, rB, rN, rO, rDev, dtyD, spent_img, spent_dirty, e, rDev, *]))
  · refine Awp.loopK (α := {i : Nat // i ≤ d.dirty.length}) (fun x => [(26, vv (.int .i64 (x.1 : Int))), (6, one (.own 4 (unfl (d.dirty.take x.1)).length))]) (fun x => [(2, .row 1 ((imgF d.img (d.dirty.take x.1)).map (numD .u64)) false), (4, .row (rz (unfl (d.dirty.take x.1))) ((unfl (d.dirty.take x.1)).map dtyD) false)]) [1, 2, 3, 24, 25] [0, 1, 3] (fun x => d.dirty.length - x.1) ⟨0, by omega⟩ [] (by simp only [List.filterMap_cons, List.filterMap_nil, lk_nil, lk_cons, ↓reduceIte, Nat.reduceEqDiff, Option.map_some, Option.map_none]; rfl) (by simp only [List.filterMap_cons, List.filterMap_nil, lk_nil, lk_cons, ↓reduceIte, Nat.reduceEqDiff, Option.map_some, Option.map_none]; rfl) rfl rfl ?_ ?_
    · simp only [Wk, frIn, hpIn, lk_nil, lk_cons, renV, renX, renC, belV, belX, belC, belL, belB, List.cons_append, List.nil_append, ↓reduceIte, Nat.reduceEqDiff, and_self, and_true, true_and] <;> simp [-List.getD_eq_getElem?_getD, vv, one, renV, renX, renC, belV, belX, belC, belL, belB, rho, renO, belO, lk_nil, lk_cons, rz_nil, imgF_nil, unfl, List.take_zero]
    · rintro ⟨i, hi⟩
      have hb := (devOk_all ‹chkD d = 0›).1 i
      have hul := unfl_le d.dirty i
      have hil := imgF_len (d.dirty.take i) d.img
      dsimp only
      simp only [vv, one, List.cons_append, List.nil_append]
      (have XH := (And.intro @rz_or (And.intro @List.length_append.{0} @imgF_len)); have XG := (And.intro (And.intro (And.intro (And.intro @dty_snoc @dty_eta) (And.intro @dty_set @set_num)) (And.intro (And.intro @imgF_len @spent_img) (And.intro @spent_dirty @List.take_succ_cons.{0}))) (And.intro (And.intro (And.intro @List.take_zero.{0} @List.take_nil.{0}) (And.intro @List.length_cons.{0} @List.length_nil.{0})) (And.intro (And.intro @Nat.zero_add @List.drop_succ_cons.{0}) (And.intro @List.drop_zero.{0} @List.drop_nil.{0})))); (repeat' (first
        | refine aOp ?_
        | refine aOff1 ?_
        | refine aOff2 ?_
        | (refine aSplit ?_ ?_ <;> intro hsp)
        | (refine RegA.done ‹_› ?_; first | refine aKeep [0, 1, 2, 3, 4, 5, 6, 8, 12, 21, 24, 25, 26, 27, 31] ?_ | skip)
        | refine awp_seq fun K hK => ?_
        | refine Awp.reg ?_
        | refine Awp.skip ?_
        | refine Awp.block ?_
        | refine Awp.scope ?_
        | refine aCt ?_
        | refine aCf ?_
        | (refine aCond ?_ ?_ <;> intro hsp)
        | (refine Awp.exit ?_; simp only [blockQ, thenQ, scopeQ, ↓reduceIte, Nat.reduceEqDiff])
        | (refine viaK ‹_› ?_; first | refine aKeep [0, 1, 2, 3, 4, 5, 6, 8, 12, 21, 24, 25, 26, 27, 31] ?_ | skip)
        | simp only [thenQ_normal, blockQ_normal])); all_goals (clear XH; clear XG))
      · obtain ⟨e1, e2⟩ := imgF_t (m := d.img) (show i < d.dirty.length by omega) ‹_›
        refine RegA.nil ⟨⟨i + 1, by omega⟩, [], ?_, ?_⟩
        · simp only [Wk, frIn, hpIn, lk_nil, lk_cons, renV, renX, renC, belV, belX, belC, belL, belB, List.cons_append, List.nil_append, ↓reduceIte, Nat.reduceEqDiff, and_self, and_true, true_and] <;> simp [-List.getD_eq_getElem?_getD, vv, one, renV, renX, renC, belV, belX, belC, belL, belB, rho, renO, belO, lk_nil, lk_cons, e1, e2]
        · (simp only []; omega)
      · obtain ⟨e1, e2⟩ := imgF_f (m := d.img) (show i < d.dirty.length by omega) ‹_›
        have e3 : rz (unfl (d.dirty.take (i + 1))) = 3 := by rw [← e2]; exact rz_snoc _ _
        have e4 : (unfl (d.dirty.take (i + 1))).length = (unfl (d.dirty.take i)).length + 1 := by rw [← e2]; simp
        refine RegA.nil ⟨⟨i + 1, by omega⟩, [], ?_, ?_⟩
        · simp only [Wk, frIn, hpIn, lk_nil, lk_cons, renV, renX, renC, belV, belX, belC, belL, belB, List.cons_append, List.nil_append, ↓reduceIte, Nat.reduceEqDiff, and_self, and_true, true_and] <;> simp [-List.getD_eq_getElem?_getD, vv, one, renV, renX, renC, belV, belX, belC, belL, belB, rho, renO, belO, lk_nil, lk_cons, e1, e2, e3, e4]
        · (simp only []; omega)
      · obtain rfl : i = d.dirty.length := by omega
        rcases rz_or' (unfl d.dirty) with hz | hz
        · ((have e : fenceX d = ⟨imgF d.img d.dirty, unfl d.dirty, (spent d).left, (spent d).down⟩ := by unfold fenceX fenceD; rw [if_pos ‹_›, if_pos ‹_›]); (refine Awp.ret ?_; refine aRetO ?_; apply aE2; (simp (disch := omega) only [outXs, outX, outC, outL, lk_nil, lk_cons, ↓reduceIte, Nat.reduceEqDiff, List.length_map, List.length_nil, List.length_replicate, List.length_cons, List.length_take, List.length_drop, List.length_append, List.length_set, ite_eq, Option.map_some, Bool.false_eq_true, imgF_len, List.take_length]; rfl); (simp [-List.getD_eq_getElem?_getD, laxR, laxX, laxC, laxCs, rB, rN, rO, rDev, dtyD, spent_img, spent_dirty, e, List.take_length, hz, imgF_len, rDev, *])))
        · ((have e : fenceX d = ⟨imgF d.img d.dirty, unfl d.dirty, (spent d).left, (spent d).down⟩ := by unfold fenceX fenceD; rw [if_pos ‹_›, if_pos ‹_›]); (refine Awp.ret ?_; refine aRetO ?_; apply aE2; (simp (disch := omega) only [outXs, outX, outC, outL, lk_nil, lk_cons, ↓reduceIte, Nat.reduceEqDiff, List.length_map, List.length_nil, List.length_replicate, List.length_cons, List.length_take, List.length_drop, List.length_append, List.length_set, ite_eq, Option.map_some, Bool.false_eq_true, imgF_len, List.take_length]; rfl); (simp [-List.getD_eq_getElem?_getD, laxR, laxX, laxC, laxCs, rB, rN, rO, rDev, dtyD, spent_img, spent_dirty, e, List.take_length, hz, rz_nil, imgF_len, rDev, *])))
end
end Go.Proofs.Ytijllihnheggbaa
