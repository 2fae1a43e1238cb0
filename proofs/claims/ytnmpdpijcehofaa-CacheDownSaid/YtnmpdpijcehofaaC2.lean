/-
  The contracts of the program's functions, data in, data out. Conditions: those in the statements.
-/
import Derived.Test.YtnmpdpijcehofaaK1
namespace Go.Proofs.Ytnmpdpijcehofaa
set_option linter.all false
open Go Go.Proofs.Ytnmpdpijcehofaa.Eng Go.RowKit
noncomputable section
theorem decLeT {a b : Int} (h : a ≤ b) : decide (a ≤ b) = true := decide_eq_true h
theorem decLeF {a b : Int} (h : b < a) : decide (a ≤ b) = false := decide_eq_false (by omega)
theorem decLtT {a b : Int} (h : a < b) : decide (a < b) = true := decide_eq_true h
theorem decLtF {a b : Int} (h : b ≤ a) : decide (a < b) = false := decide_eq_false (by omega)
theorem tdiv8 {a : Int} (h : 0 ≤ a) : a.tdiv 8 = a / 8 := Int.tdiv_eq_ediv_of_nonneg h
theorem tmod8 {a : Int} (h : 0 ≤ a) : a.tmod 8 = a % 8 := Int.tmod_eq_emod_of_nonneg h

structure Dty where
  at_ : Int
  v : Int
  fl : Bool
  deriving DecidableEq
instance : Inhabited Dty := ⟨⟨0, 0, false⟩⟩
structure Dev where
  img : List Int
  dirty : List Dty
  left : Int
  down : Bool
  deriving DecidableEq
def dtyD (x : Dty) : List D := [.v (.int .i64 x.at_), .v (.int .u64 x.v), .v (.bool x.fl)]
def devC (d : Dev) : List D := [.sl 1 (d.img.map (numD .u64)), .sl 3 (d.dirty.map dtyD), .v (.int .i64 d.left), .v (.bool d.down)]
def devA (d : Dev) : DA := .agg (devC d)
def rDev (d : Dev) : RX := .agg [.o 1 (d.img.map (numD .u64)), .o 3 (d.dirty.map dtyD), .c (.v (.int .i64 d.left)), .c (.v (.bool d.down))]
def sD (l : List Dty) : DA := .one (.sl 3 (l.map dtyD))
theorem getD_dty (l : List Dty) (i : Nat) (h : i < l.length) : (l.map dtyD).getD i [] = [.v (.int .i64 (l.getD i default).at_), .v (.int .u64 (l.getD i default).v), .v (.bool (l.getD i default).fl)] := getD_map dtyD l i default h
def incr (w : Int) : Int → List Dty → Bool
  | _, [] => true
  | last, x :: r => decide (last < x.at_) && decide (x.at_ < w) && incr w x.at_ r
def lastAt (l : List Dty) : Nat → Int
  | 0 => -1
  | k + 1 => (l.getD k default).at_
theorem drop_getD {α : Type} [Inhabited α] {l : List α} {i : Nat} (h : i < l.length) : l.drop i = l.getD i default :: l.drop (i + 1) := by
  rw [List.drop_eq_getElem_cons h]
  simp [List.getD, h]
theorem incr_step {w : Int} {l : List Dty} {i : Nat} (h : i < l.length) : incr w (lastAt l i) (l.drop i) = (decide (lastAt l i < (l.getD i default).at_) && decide ((l.getD i default).at_ < w) && incr w (lastAt l (i + 1)) (l.drop (i + 1))) := by
  rw [drop_getD h]; rfl
set_option maxHeartbeats 4000000 in
set_option maxRecDepth 10000 in
theorem k_cache_increase (l : List Dty) (w : Int) (hl : l.length ≤ 1000000) : Con Try.prog 41 [sD l, vN .i64 w] [rB (incr w (-1) l)] := by
  refine con_of_awp hmix Try.func41 s41 rfl (by rw [n41]; simp) r41 n41 ?_
  simp only [Eng.start, startFr, inX, sN, vN, List.map_cons, List.map_nil, devA, devC, dtyD, sD, c41]
  (repeat' (first
    | (apply RegA.op (hd := rfl); (first | exact trivial | rfl | exact congrArg some ‹_› | (focus (simp (disch := omega) only [gOk, boolV, lk_nil, lk_cons, ↓reduceIte, Nat.reduceEqDiff, decide_true, decide_false]; done))); (simp (disch := omega) only [binX, List.replicate_succ, List.set_cons_zero, List.set_cons_succ, List.drop_replicate, Nat.sub_self, List.length_replicate, true_or, or_true, or_false, List.replicate_zero, List.nil_append, List.append_nil, maxLen, List.length_append, List.length_take, List.length_drop, Nat.min_self, List.take_length, Option.getD_some, Option.getD_none, Option.isSome_some, Option.isSome_none, forall_const, Bool.false_eq_true, false_implies, imp_self, implies_true, decide_true, decide_false, dropMap, takeMap, effect, callEff, evO, evP, evL, argL, argX, dataL, plain, plainC, plainL, lk_nil, lk_cons, one, vv, one1, isNil, binV, unV, cvV, load1, store1, fieldOf, cellsOf, cellsAt_ptr, cellsAt_eptr, cellsAt_cptr, asVal, shift_ptr, shift_eptr, shift_cptr, partOf, dataC_d, dataC_own, dataC_view, elemsC, app1, cop1, len1, mslice1, bslice1, rowsA, build1, fillA, idx1, index1, slice1, optInt, addrAt, cutC, putAt_ptr, putAt_eptr, allD, dv, spl, boolV, Option.map_some, Option.bind_some, Option.map_none, Option.bind_none, ↓reduceIte, Bool.not_true, Bool.not_false, Bool.false_eq_true, and_true, true_and, Option.some.injEq, List.length_map, Nat.reduceEqDiff, Nat.reduceLeDiff, Nat.reduceAdd, Int.reduceLT, Int.reduceLE, Int.reduceToNat, Int.toNat_natCast, List.length_cons, List.length_nil, List.take_succ_cons, List.take_zero, List.drop_zero, List.map_cons, List.map_nil, Nat.zero_add, Nat.le_refl, List.getD_cons_zero, List.getD_cons_succ, List.drop_succ_cons, List.drop_nil, getD_num, ite_and, ite_le, ite_lt, ite_eq, ite_lei, ite_lti, ite_nei, IntWalk.i64_in, bt4, ti3, ti4, ti22, ti23, ti25, ti26, ti28, ti30, ti60, ti61, ti63, ti96, getD_dty, tdiv8, tmod8, takeAll, takeDropAll, toNatAdd, toNatSub]; first | rfl | done); simp (disch := omega) only [List.length_replicate, List.length_map, Nat.reduceBEq, Bool.not_false, Bool.not_true, ↓reduceIte, Bool.false_eq_true, BEq.rfl, put1, skip1, frOf, know, vv, one, del, decide_true, decide_false, List.filter_cons, List.filter_nil, List.nil_append, List.cons_append, Nat.reduceAdd, Nat.add_zero])
    | (refine RegA.off1 rfl rfl ?_; simp (disch := omega) only [List.length_replicate, List.length_map, Nat.reduceBEq, Bool.not_false, Bool.not_true, ↓reduceIte, Bool.false_eq_true, BEq.rfl, put1, skip1, frOf, know, vv, one, del, decide_true, decide_false, List.filter_cons, List.filter_nil, List.nil_append, List.cons_append, Nat.reduceAdd, Nat.add_zero])
    | (refine RegA.off2 rfl rfl ?_; simp (disch := omega) only [List.length_replicate, List.length_map, Nat.reduceBEq, Bool.not_false, Bool.not_true, ↓reduceIte, Bool.false_eq_true, BEq.rfl, put1, skip1, frOf, know, vv, one, del, decide_true, decide_false, List.filter_cons, List.filter_nil, List.nil_append, List.cons_append, Nat.reduceAdd, Nat.add_zero])
    | (refine RegA.split rfl ?_ ?_ <;> (intro hsp; (try simp only [Bool.not_eq_true', Bool.not_eq_false', decide_eq_true_eq, decide_eq_false_iff_not, Decidable.not_not, Int.not_lt, Int.not_le, Int.natCast_inj, Bool.and_eq_true, Bool.or_eq_true, Bool.not_not, ne_eq, Bool.false_eq_true, Bool.true_eq_false] at hsp); revert hsp; intro hsp; simp (disch := omega) only [List.length_replicate, List.length_map, Nat.reduceBEq, Bool.not_false, Bool.not_true, ↓reduceIte, Bool.false_eq_true, BEq.rfl, put1, skip1, frOf, know, vv, one, del, decide_true, decide_false, List.filter_cons, List.filter_nil, List.nil_append, List.cons_append, Nat.reduceAdd, Nat.add_zero]))
    | (refine RegA.done ‹_› ?_)
    | (refine awp_seq fun K hK => ?_)
    | (refine Awp.reg ?_)
    | (refine Awp.skip ?_)
    | (refine Awp.block ?_)
    | (refine Awp.scope ?_)
    | (refine Awp.ct rfl ?_)
    | (refine Awp.cf rfl ?_)
    | (refine Awp.ct (congrArg some (congrArg Value.bool ?_)) ?_; focus (simp (disch := omega) only [decide_eq_true_eq, decide_eq_false_iff_not, Bool.not_eq_true', Bool.not_eq_false', decide_true, decide_false, Bool.not_true, Bool.not_false, getD_num, ite_and, ite_le, ite_lt, ite_eq, ite_lei, ite_lti, ite_nei, IntWalk.i64_in, bt4, ti3, ti4, ti22, ti23, ti25, ti26, ti28, ti30, ti60, ti61, ti63, ti96, getD_dty, tdiv8, tmod8, takeAll, takeDropAll, toNatAdd, toNatSub]; done))
    | (refine Awp.cf (congrArg some (congrArg Value.bool ?_)) ?_; focus (simp (disch := omega) only [decide_eq_true_eq, decide_eq_false_iff_not, Bool.not_eq_true', Bool.not_eq_false', decide_true, decide_false, Bool.not_true, Bool.not_false, getD_num, ite_and, ite_le, ite_lt, ite_eq, ite_lei, ite_lti, ite_nei, IntWalk.i64_in, bt4, ti3, ti4, ti22, ti23, ti25, ti26, ti28, ti30, ti60, ti61, ti63, ti96, getD_dty, tdiv8, tmod8, takeAll, takeDropAll, toNatAdd, toNatSub]; done))
    | (refine Awp.cond rfl ?_ ?_ <;> (intro hsp; (try simp only [Bool.not_eq_true', Bool.not_eq_false', decide_eq_true_eq, decide_eq_false_iff_not, Decidable.not_not, Int.not_lt, Int.not_le, Int.natCast_inj, Bool.and_eq_true, Bool.or_eq_true, Bool.not_not, ne_eq] at hsp)))
    | (refine Awp.exit ?_; simp only [blockQ, thenQ, scopeQ, ↓reduceIte, Nat.reduceEqDiff])
    | (refine viaK ‹_› ?_)
    | (simp only [thenQ_normal, blockQ_normal])))
  refine Awp.loopK (α := {i : Nat // i ≤ l.length ∧ incr w (-1) l = incr w (lastAt l i) (l.drop i)}) (fun x => [(10, vv (.int .i64 (x.1 : Int))), (5, vv (.int .i64 (lastAt l x.1)))]) (fun x => []) [1, 8, 9] [] (fun x => l.length - x.1) ⟨0, by omega, by simp [lastAt]⟩ [] (by simp only [List.filterMap_cons, List.filterMap_nil, lk_nil, lk_cons, ↓reduceIte, Nat.reduceEqDiff, Option.map_some, Option.map_none]; rfl) (by simp only [List.filterMap_cons, List.filterMap_nil, lk_nil, lk_cons, ↓reduceIte, Nat.reduceEqDiff, Option.map_some, Option.map_none]; rfl) rfl rfl ?_ ?_
  · simp only [Wk, frIn, hpIn, lk_nil, lk_cons, renV, renX, renC, belV, belX, belC, belL, List.cons_append, List.nil_append, ↓reduceIte, Nat.reduceEqDiff, and_self, and_true, true_and] <;> simp [-List.getD_eq_getElem?_getD, vv, one, renV, renX, renC, belV, belX, belC, belL, rho, renO, belO, lk_nil, lk_cons, lastAt]
  · rintro ⟨i, hi, he⟩
    simp only [vv, one, List.cons_append, List.nil_append]
    (repeat' (first
      | (apply RegA.op (hd := rfl); (first | exact trivial | rfl | exact congrArg some ‹_› | (focus (simp (disch := omega) only [gOk, boolV, lk_nil, lk_cons, ↓reduceIte, Nat.reduceEqDiff, decide_true, decide_false]; done))); (simp (disch := omega) only [binX, List.replicate_succ, List.set_cons_zero, List.set_cons_succ, List.drop_replicate, Nat.sub_self, List.length_replicate, true_or, or_true, or_false, List.replicate_zero, List.nil_append, List.append_nil, maxLen, List.length_append, List.length_take, List.length_drop, Nat.min_self, List.take_length, Option.getD_some, Option.getD_none, Option.isSome_some, Option.isSome_none, forall_const, Bool.false_eq_true, false_implies, imp_self, implies_true, decide_true, decide_false, dropMap, takeMap, effect, callEff, evO, evP, evL, argL, argX, dataL, plain, plainC, plainL, lk_nil, lk_cons, one, vv, one1, isNil, binV, unV, cvV, load1, store1, fieldOf, cellsOf, cellsAt_ptr, cellsAt_eptr, cellsAt_cptr, asVal, shift_ptr, shift_eptr, shift_cptr, partOf, dataC_d, dataC_own, dataC_view, elemsC, app1, cop1, len1, mslice1, bslice1, rowsA, build1, fillA, idx1, index1, slice1, optInt, addrAt, cutC, putAt_ptr, putAt_eptr, allD, dv, spl, boolV, Option.map_some, Option.bind_some, Option.map_none, Option.bind_none, ↓reduceIte, Bool.not_true, Bool.not_false, Bool.false_eq_true, and_true, true_and, Option.some.injEq, List.length_map, Nat.reduceEqDiff, Nat.reduceLeDiff, Nat.reduceAdd, Int.reduceLT, Int.reduceLE, Int.reduceToNat, Int.toNat_natCast, List.length_cons, List.length_nil, List.take_succ_cons, List.take_zero, List.drop_zero, List.map_cons, List.map_nil, Nat.zero_add, Nat.le_refl, List.getD_cons_zero, List.getD_cons_succ, List.drop_succ_cons, List.drop_nil, getD_num, ite_and, ite_le, ite_lt, ite_eq, ite_lei, ite_lti, ite_nei, IntWalk.i64_in, bt4, ti3, ti4, ti22, ti23, ti25, ti26, ti28, ti30, ti60, ti61, ti63, ti96, getD_dty, tdiv8, tmod8, takeAll, takeDropAll, toNatAdd, toNatSub]; first | rfl | done); simp (disch := omega) only [List.length_replicate, List.length_map, Nat.reduceBEq, Bool.not_false, Bool.not_true, ↓reduceIte, Bool.false_eq_true, BEq.rfl, put1, skip1, frOf, know, vv, one, del, decide_true, decide_false, List.filter_cons, List.filter_nil, List.nil_append, List.cons_append, Nat.reduceAdd, Nat.add_zero])
      | (refine RegA.off1 rfl rfl ?_; simp (disch := omega) only [List.length_replicate, List.length_map, Nat.reduceBEq, Bool.not_false, Bool.not_true, ↓reduceIte, Bool.false_eq_true, BEq.rfl, put1, skip1, frOf, know, vv, one, del, decide_true, decide_false, List.filter_cons, List.filter_nil, List.nil_append, List.cons_append, Nat.reduceAdd, Nat.add_zero])
      | (refine RegA.off2 rfl rfl ?_; simp (disch := omega) only [List.length_replicate, List.length_map, Nat.reduceBEq, Bool.not_false, Bool.not_true, ↓reduceIte, Bool.false_eq_true, BEq.rfl, put1, skip1, frOf, know, vv, one, del, decide_true, decide_false, List.filter_cons, List.filter_nil, List.nil_append, List.cons_append, Nat.reduceAdd, Nat.add_zero])
      | (refine RegA.split rfl ?_ ?_ <;> (intro hsp; (try simp only [Bool.not_eq_true', Bool.not_eq_false', decide_eq_true_eq, decide_eq_false_iff_not, Decidable.not_not, Int.not_lt, Int.not_le, Int.natCast_inj, Bool.and_eq_true, Bool.or_eq_true, Bool.not_not, ne_eq, Bool.false_eq_true, Bool.true_eq_false] at hsp); revert hsp; intro hsp; simp (disch := omega) only [List.length_replicate, List.length_map, Nat.reduceBEq, Bool.not_false, Bool.not_true, ↓reduceIte, Bool.false_eq_true, BEq.rfl, put1, skip1, frOf, know, vv, one, del, decide_true, decide_false, List.filter_cons, List.filter_nil, List.nil_append, List.cons_append, Nat.reduceAdd, Nat.add_zero]))
      | (refine RegA.done ‹_› ?_)
      | (refine awp_seq fun K hK => ?_)
      | (refine Awp.reg ?_)
      | (refine Awp.skip ?_)
      | (refine Awp.block ?_)
      | (refine Awp.scope ?_)
      | (refine Awp.ct rfl ?_)
      | (refine Awp.cf rfl ?_)
      | (refine Awp.ct (congrArg some (congrArg Value.bool ?_)) ?_; focus (simp (disch := omega) only [decide_eq_true_eq, decide_eq_false_iff_not, Bool.not_eq_true', Bool.not_eq_false', decide_true, decide_false, Bool.not_true, Bool.not_false, getD_num, ite_and, ite_le, ite_lt, ite_eq, ite_lei, ite_lti, ite_nei, IntWalk.i64_in, bt4, ti3, ti4, ti22, ti23, ti25, ti26, ti28, ti30, ti60, ti61, ti63, ti96, getD_dty, tdiv8, tmod8, takeAll, takeDropAll, toNatAdd, toNatSub]; done))
      | (refine Awp.cf (congrArg some (congrArg Value.bool ?_)) ?_; focus (simp (disch := omega) only [decide_eq_true_eq, decide_eq_false_iff_not, Bool.not_eq_true', Bool.not_eq_false', decide_true, decide_false, Bool.not_true, Bool.not_false, getD_num, ite_and, ite_le, ite_lt, ite_eq, ite_lei, ite_lti, ite_nei, IntWalk.i64_in, bt4, ti3, ti4, ti22, ti23, ti25, ti26, ti28, ti30, ti60, ti61, ti63, ti96, getD_dty, tdiv8, tmod8, takeAll, takeDropAll, toNatAdd, toNatSub]; done))
      | (refine Awp.cond rfl ?_ ?_ <;> (intro hsp; (try simp only [Bool.not_eq_true', Bool.not_eq_false', decide_eq_true_eq, decide_eq_false_iff_not, Decidable.not_not, Int.not_lt, Int.not_le, Int.natCast_inj, Bool.and_eq_true, Bool.or_eq_true, Bool.not_not, ne_eq] at hsp)))
      | (refine Awp.exit ?_; simp only [blockQ, thenQ, scopeQ, ↓reduceIte, Nat.reduceEqDiff])
      | (refine viaK ‹_› ?_)
      | (simp only [thenQ_normal, blockQ_normal])))
    · have e : incr w (-1) l = false := by rw [he, incr_step (by omega)]; simp [-List.getD_eq_getElem?_getD]; omega
      (refine Awp.ret ?_; apply ret_of (.inl rfl); rfl; (simp (disch := omega) only [outXs, outX, outC, outL, lk_nil, lk_cons, ↓reduceIte, Nat.reduceEqDiff, List.length_map, List.length_nil, List.length_replicate, List.length_cons, List.length_take, List.length_drop, List.length_append, List.length_set, ite_eq, Option.map_some, Bool.false_eq_true]; rfl); (focus simp [ownsX, ownsC]); (simp [-List.getD_eq_getElem?_getD, laxR, laxX, laxC, laxCs, rB, rN, rO, rDev, dtyD, e]))
    · have e : incr w (-1) l = false := by rw [he, incr_step (by omega)]; simp [-List.getD_eq_getElem?_getD]; omega
      (refine Awp.ret ?_; apply ret_of (.inl rfl); rfl; (simp (disch := omega) only [outXs, outX, outC, outL, lk_nil, lk_cons, ↓reduceIte, Nat.reduceEqDiff, List.length_map, List.length_nil, List.length_replicate, List.length_cons, List.length_take, List.length_drop, List.length_append, List.length_set, ite_eq, Option.map_some, Bool.false_eq_true]; rfl); (focus simp [ownsX, ownsC]); (simp [-List.getD_eq_getElem?_getD, laxR, laxX, laxC, laxCs, rB, rN, rO, rDev, dtyD, e]))
    · refine RegA.nil ⟨⟨i + 1, by omega, by rw [he, incr_step (by omega)]; simp [-List.getD_eq_getElem?_getD]; omega⟩, [], ?_, ?_⟩
      · simp only [Wk, frIn, hpIn, lk_nil, lk_cons, renV, renX, renC, belV, belX, belC, belL, List.cons_append, List.nil_append, ↓reduceIte, Nat.reduceEqDiff, and_self, and_true, true_and] <;> simp [-List.getD_eq_getElem?_getD, vv, one, renV, renX, renC, belV, belX, belC, belL, rho, renO, belO, lk_nil, lk_cons, lastAt]
      · (simp only []; omega)
    · have e : incr w (-1) l = true := by rw [he, show i = l.length by omega]; simp [incr]
      (refine Awp.ret ?_; apply ret_of (.inl rfl); rfl; (simp (disch := omega) only [outXs, outX, outC, outL, lk_nil, lk_cons, ↓reduceIte, Nat.reduceEqDiff, List.length_map, List.length_nil, List.length_replicate, List.length_cons, List.length_take, List.length_drop, List.length_append, List.length_set, ite_eq, Option.map_some, Bool.false_eq_true]; rfl); (focus simp [ownsX, ownsC]); (simp [-List.getD_eq_getElem?_getD, laxR, laxX, laxC, laxCs, rB, rN, rO, rDev, dtyD, e]))
end
end Go.Proofs.Ytnmpdpijcehofaa
