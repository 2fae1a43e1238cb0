/-
  The contracts of the program's functions, data in, data out. Conditions: those in the statements.
-/
import Derived.Test.YthknepamlbicmaaE29
import Derived.Test.YthknepamlbicmaaProg
namespace Go.Proofs.Ythknepamlbicmaa
set_option linter.all false
open Go Go.Proofs.Ythknepamlbicmaa.Eng Go.RowKit
def c15 : SC :=
  .seq
  (.reg
    [.mk (some 2) (.assign (.const (.int .i64 0))) none])
  (.seq
    (.seq
      (.reg
        [.mk (some 3) (.move (.tmp 0)) none,
          .mk (some 4)
            (.call (.mk (.builtin .len) #[.tmp 3] #[23])) none,
          .mk (some 5)
            (.call (.mk (.value (.func 27)) #[.tmp 4] #[3])) none,
          .mk (some 6) (.unOp .not 4 (.tmp 5)) none])
      (.cond (.tmp 6)
        (.seq
          (.reg
            [.mk (some 2) (.assign (.const (.int .i64 8)))
                none])
          .ret)
        .skip))
    (.seq
      (.reg
        [.mk (some 2) (.assign (.const (.int .i64 0))) none])
      .ret))
theorem s15 : Try.f15.body.bind slim = some c15 := by kernel_rfl
theorem n15 : Try.f15.ntmps = 7 := rfl
theorem r15 : Try.f15.results.toList = [ResultVar.tmp 2] := rfl
def c18 : SC :=
  .seq
  (.reg
    [.mk (some 2) (.assign (.const (.bool false))) none])
  (.seq
    (.reg
      [.mk (some 3) (.move (.tmp 0)) none,
        .mk (some 4)
          (.call (.mk (.builtin .len) #[.tmp 3] #[23])) none,
        .mk (some 5)
          (.binOp .gtr 3 (.tmp 4) (.const (.int .i64 2100)) 3)
          none,
        .mk (some 2) (.assign (.tmp 5)) none])
    .ret)
theorem s18 : Try.f18.body.bind slim = some c18 := by kernel_rfl
theorem n18 : Try.f18.ntmps = 6 := rfl
theorem r18 : Try.f18.results.toList = [ResultVar.tmp 2] := rfl
def c19 : SC :=
  .seq
  (.reg
    [.mk (some 2) (.assign (.const (.slice none 0 0))) none])
  (.seq
    (.reg
      [.mk (some 3) (.buildSlice 23 0 #[]) none,
        .mk (some 4) (.move (.tmp 0)) none,
        .mk (some 5)
          (.call
            (.mk (.builtin .append) #[.tmp 3, .tmp 4] #[23, 23]))
          none,
        .mk (some 2) (.assign (.tmp 5)) none])
    .ret)
theorem s19 : Try.f19.body.bind slim = some c19 := by kernel_rfl
theorem n19 : Try.f19.ntmps = 6 := rfl
theorem r19 : Try.f19.results.toList = [ResultVar.tmp 2] := rfl
def c23 : SC :=
  .seq
  (.reg
    [.mk (some 2) (.assign (.const (.int .i64 0))) none])
  (.seq
    (.seq
      (.reg
        [.mk (some 3) (.move (.tmp 0)) none,
          .mk (some 4)
            (.call (.mk (.builtin .len) #[.tmp 3] #[23])) none,
          .mk (some 5)
            (.call (.mk (.value (.func 31)) #[.tmp 4] #[3])) none,
          .mk (some 6) (.unOp .not 4 (.tmp 5)) none])
      (.cond (.tmp 6)
        (.seq
          (.reg
            [.mk (some 2) (.assign (.const (.int .i64 8)))
                none])
          .ret)
        .skip))
    (.seq
      (.reg
        [.mk (some 2) (.assign (.const (.int .i64 0))) none])
      .ret))
theorem s23 : Try.f23.body.bind slim = some c23 := by kernel_rfl
theorem n23 : Try.f23.ntmps = 7 := rfl
theorem r23 : Try.f23.results.toList = [ResultVar.tmp 2] := rfl
def c27 : SC :=
  .seq
  (.reg
    [.mk (some 2) (.assign (.const (.bool false))) none])
  (.seq
    (.reg
      [.mk (some 3) (.move (.tmp 0)) none,
        .mk (some 4)
          (.binOp .geq 3 (.tmp 3) (.const (.int .i64 256)) 3)
          none,
        .mk (some 5) (.move (.tmp 4)) none,
        .mk (some 6) (.move (.tmp 0)) (some (5, true)),
        .mk (some 7)
          (.binOp .leq 3 (.tmp 6) (.const (.int .i64 2048)) 3)
          (some (5, true)),
        .mk (some 8)
          (.pick (.tmp 5) (.tmp 7) (.const (.bool false))) none,
        .mk (some 9) (.move (.tmp 8)) none,
        .mk (some 10) (.move (.tmp 0)) (some (9, true)),
        .mk (some 11)
          (.binOp .rem 3 (.tmp 10) (.const (.int .i64 8)) 3)
          (some (9, true)),
        .mk (some 12)
          (.binOp .eql 3 (.tmp 11) (.const (.int .i64 0)) 3)
          (some (9, true)),
        .mk (some 13)
          (.pick (.tmp 9) (.tmp 12) (.const (.bool false))) none,
        .mk (some 2) (.assign (.tmp 13)) none])
    .ret)
theorem s27 : Try.f27.body.bind slim = some c27 := by kernel_rfl
theorem n27 : Try.f27.ntmps = 14 := rfl
theorem r27 : Try.f27.results.toList = [ResultVar.tmp 2] := rfl
def c28 : SC :=
  .seq
  (.reg
    [.mk (some 6) (.assign (.const (.bool false))) none])
  (.seq
    (.reg
      [.mk (some 7) (.move (.tmp 1)) none,
        .mk (some 8)
          (.binOp .geq 3 (.tmp 7) (.const (.int .i64 0)) 3)
          none,
        .mk (some 9) (.move (.tmp 8)) none,
        .mk (some 10) (.move (.tmp 2)) (some (9, true)),
        .mk (some 11)
          (.binOp .geq 3 (.tmp 10) (.const (.int .i64 0)) 3)
          (some (9, true)),
        .mk (some 12)
          (.pick (.tmp 9) (.tmp 11) (.const (.bool false))) none,
        .mk (some 13) (.move (.tmp 12)) none,
        .mk (some 14) (.move (.tmp 2)) (some (13, true)),
        .mk (some 15) (.move (.tmp 0)) (some (13, true)),
        .mk (some 16) (.move (.tmp 1)) (some (13, true)),
        .mk (some 17) (.binOp .sub 3 (.tmp 15) (.tmp 16) 3)
          (some (13, true)),
        .mk (some 18) (.binOp .leq 3 (.tmp 14) (.tmp 17) 3)
          (some (13, true)),
        .mk (some 19)
          (.pick (.tmp 13) (.tmp 18) (.const (.bool false)))
          none,
        .mk (some 6) (.assign (.tmp 19)) none])
    .ret)
theorem s28 : Try.f28.body.bind slim = some c28 := by kernel_rfl
theorem n28 : Try.f28.ntmps = 20 := rfl
theorem r28 : Try.f28.results.toList = [ResultVar.tmp 6] := rfl
def c29 : SC :=
  .seq
  (.reg
    [.mk (some 2) (.assign (.const (.slice none 0 0))) none])
  (.seq
    (.reg
      [.mk (some 4) (.move (.tmp 0)) none,
        .mk (some 5)
          (.call (.mk (.builtin .len) #[.tmp 4] #[23])) none,
        .mk (some 6) (.makeSlice 23 (.tmp 5) (.tmp 5)) none,
        .mk (some 3) (.assign (.tmp 6)) none])
    (.seq
      (.reg
        [.mk (some 7) (.move (.tmp 3)) none,
          .mk (some 8) (.move (.tmp 0)) none,
          .mk (some 9)
            (.call
              (.mk (.builtin .copy) #[.tmp 7, .tmp 8] #[23, 23]))
            none])
      (.seq
        (.reg
          [.mk (some 10) (.move (.tmp 3)) none,
            .mk (some 2) (.assign (.tmp 10)) none])
        .ret)))
theorem s29 : Try.f29.body.bind slim = some c29 := by kernel_rfl
theorem n29 : Try.f29.ntmps = 11 := rfl
theorem r29 : Try.f29.results.toList = [ResultVar.tmp 2] := rfl
def c30 : SC :=
  .seq
  (.reg
    [.mk (some 6) (.assign (.const (.bool false))) none])
  (.seq
    (.reg
      [.mk (some 7) (.move (.tmp 1)) none,
        .mk (some 8)
          (.binOp .geq 3 (.tmp 7) (.const (.int .i64 0)) 3)
          none,
        .mk (some 9) (.move (.tmp 8)) none,
        .mk (some 10) (.move (.tmp 2)) (some (9, true)),
        .mk (some 11)
          (.binOp .geq 3 (.tmp 10) (.const (.int .i64 0)) 3)
          (some (9, true)),
        .mk (some 12)
          (.pick (.tmp 9) (.tmp 11) (.const (.bool false))) none,
        .mk (some 13) (.move (.tmp 12)) none,
        .mk (some 14) (.move (.tmp 1)) (some (13, true)),
        .mk (some 15) (.move (.tmp 0)) (some (13, true)),
        .mk (some 16)
          (.call (.mk (.builtin .len) #[.tmp 15] #[23]))
          (some (13, true)),
        .mk (some 17) (.binOp .leq 3 (.tmp 14) (.tmp 16) 3)
          (some (13, true)),
        .mk (some 18)
          (.pick (.tmp 13) (.tmp 17) (.const (.bool false)))
          none,
        .mk (some 19) (.move (.tmp 18)) none,
        .mk (some 20) (.move (.tmp 2)) (some (19, true)),
        .mk (some 21) (.move (.tmp 0)) (some (19, true)),
        .mk (some 22)
          (.call (.mk (.builtin .len) #[.tmp 21] #[23]))
          (some (19, true)),
        .mk (some 23) (.move (.tmp 1)) (some (19, true)),
        .mk (some 24) (.binOp .sub 3 (.tmp 22) (.tmp 23) 3)
          (some (19, true)),
        .mk (some 25) (.binOp .leq 3 (.tmp 20) (.tmp 24) 3)
          (some (19, true)),
        .mk (some 26)
          (.pick (.tmp 19) (.tmp 25) (.const (.bool false)))
          none,
        .mk (some 6) (.assign (.tmp 26)) none])
    .ret)
theorem s30 : Try.f30.body.bind slim = some c30 := by kernel_rfl
theorem n30 : Try.f30.ntmps = 27 := rfl
theorem r30 : Try.f30.results.toList = [ResultVar.tmp 6] := rfl
def c31 : SC :=
  .seq
  (.reg
    [.mk (some 2) (.assign (.const (.bool false))) none])
  (.seq
    (.reg
      [.mk (some 3) (.move (.tmp 0)) none,
        .mk (some 4)
          (.binOp .geq 3 (.tmp 3) (.const (.int .i64 256)) 3)
          none,
        .mk (some 5) (.move (.tmp 4)) none,
        .mk (some 6) (.move (.tmp 0)) (some (5, true)),
        .mk (some 7)
          (.binOp .leq 3 (.tmp 6) (.const (.int .i64 2048)) 3)
          (some (5, true)),
        .mk (some 8)
          (.pick (.tmp 5) (.tmp 7) (.const (.bool false))) none,
        .mk (some 9) (.move (.tmp 8)) none,
        .mk (some 10) (.move (.tmp 0)) (some (9, true)),
        .mk (some 11)
          (.binOp .rem 3 (.tmp 10) (.const (.int .i64 8)) 3)
          (some (9, true)),
        .mk (some 12)
          (.binOp .eql 3 (.tmp 11) (.const (.int .i64 0)) 3)
          (some (9, true)),
        .mk (some 13)
          (.pick (.tmp 9) (.tmp 12) (.const (.bool false))) none,
        .mk (some 2) (.assign (.tmp 13)) none])
    .ret)
theorem s31 : Try.f31.body.bind slim = some c31 := by kernel_rfl
theorem n31 : Try.f31.ntmps = 14 := rfl
theorem r31 : Try.f31.results.toList = [ResultVar.tmp 2] := rfl


theorem hmix : Try.prog.follows .mixedOrders = true := by kernel_rfl
theorem bt4 : boolT Try.prog 4 = true := by kernel_rfl
theorem ti3 : ti Try.prog 3 = some ⟨.int .i64, 1, 8, [.int .i64 0]⟩ := by kernel_rfl
theorem ti23 : ti Try.prog 23 = some ⟨.sl 34, 1, 24, [.slice none 0 0]⟩ := by kernel_rfl
theorem ti34 : ti Try.prog 34 = some ⟨.int .u64, 1, 8, [.int .u64 0]⟩ := by kernel_rfl
@[irreducible] def sz (n : Int) : Bool := decide (256 ≤ n) && decide (n ≤ 2048) && decide (n.tmod 8 = 0)
@[irreducible] def chk (n : Int) : Int := if sz n then 0 else 8
set_option maxHeartbeats 4000000 in
set_option maxRecDepth 10000 in
theorem con27 (n : Int) : Con Try.prog 27 [vN .i64 n] [rB (sz n)] := by
  refine con_of_awp hmix Try.func27 s27 rfl (by rw [n27]; simp) r27 n27 ?_
  simp only [Eng.start, startFr, inX, sN, vN, c27]
  (repeat' (first
    | (apply RegA.op (hd := rfl); (first | exact trivial | rfl | exact congrArg some ‹_› | (simp (disch := omega) only [boolV, lk, ↓reduceIte, Nat.reduceEqDiff, decide_true, decide_false]; done)); (simp (disch := omega) only [binX, List.replicate_succ, List.set_cons_zero, List.set_cons_succ, List.drop_replicate, Nat.sub_self, List.length_replicate, true_or, or_true, or_false, List.replicate_zero, List.nil_append, List.append_nil, maxLen, List.length_append, List.length_take, List.length_drop, Nat.min_self, List.take_length, Option.getD_some, Option.getD_none, Option.isSome_some, Option.isSome_none, forall_const, Bool.false_eq_true, false_implies, imp_self, implies_true, decide_true, decide_false, dropMap, takeMap, effect, callEff, evO, evP, evL, argL, argX, dataL, plain, plainC, plainL, lk, one, vv, one1, isNil, binV, unV, cvV, load1, store1, fieldOf, cellsOf, cellsAt, asVal, shift, partOf, dataC, elemsC, app1, cop1, len1, mslice1, bslice1, rowsA, build1, fillA, idx1, index1, slice1, optInt, addrAt, cutC, putAt, allD, dv, spl, boolV, Option.map_some, Option.bind_some, Option.map_none, Option.bind_none, ↓reduceIte, Bool.not_true, Bool.not_false, Bool.false_eq_true, and_true, true_and, Option.some.injEq, List.length_map, Nat.reduceEqDiff, Nat.reduceLeDiff, Nat.reduceAdd, Int.reduceLT, Int.reduceLE, Int.reduceToNat, Int.toNat_natCast, List.length_cons, List.length_nil, List.take_succ_cons, List.take_zero, List.drop_zero, List.map_cons, List.map_nil, Nat.zero_add, Nat.le_refl, List.getD_cons_zero, List.getD_cons_succ, bt4, ti3, ti23, ti34, getD_num, ite_and, ite_le, ite_lt, ite_eq, ite_lei, ite_lti, ite_nei, IntWalk.i64_in]; first | rfl | done); simp (disch := omega) only [List.length_replicate, List.length_map, Nat.reduceBEq, Bool.not_false, Bool.not_true, ↓reduceIte, Bool.false_eq_true, BEq.rfl, put1, skip1, frOf, know, vv, one, del, decide_true, decide_false, List.filter_cons, List.filter_nil, List.nil_append, List.cons_append, Nat.reduceAdd, Nat.add_zero])
    | (refine RegA.off rfl rfl ?_; simp (disch := omega) only [List.length_replicate, List.length_map, Nat.reduceBEq, Bool.not_false, Bool.not_true, ↓reduceIte, Bool.false_eq_true, BEq.rfl, put1, skip1, frOf, know, vv, one, del, decide_true, decide_false, List.filter_cons, List.filter_nil, List.nil_append, List.cons_append, Nat.reduceAdd, Nat.add_zero])
    | (refine RegA.split rfl ?_ ?_ <;> (intro hsp; (try simp only [Bool.not_eq_true', Bool.not_eq_false', decide_eq_true_eq, decide_eq_false_iff_not, Decidable.not_not, Int.not_lt, Int.not_le, Int.natCast_inj, Bool.and_eq_true, Bool.or_eq_true, Bool.not_not, ne_eq] at hsp); simp (disch := omega) only [List.length_replicate, List.length_map, Nat.reduceBEq, Bool.not_false, Bool.not_true, ↓reduceIte, Bool.false_eq_true, BEq.rfl, put1, skip1, frOf, know, vv, one, del, decide_true, decide_false, List.filter_cons, List.filter_nil, List.nil_append, List.cons_append, Nat.reduceAdd, Nat.add_zero]))
    | (apply DrawA.op' (hd := rfl); (simp only [List.length_cons, List.length_nil, Nat.reduceMul, Nat.reduceAdd]; rfl); (simp only [Bool.not_false, Bool.not_true, Eng.mk, Eng.put1, Eng.skip1, frOf, vv, one, del, List.filter_cons, List.filter_nil, List.nil_append, List.cons_append, Nat.reduceAdd, Nat.reduceMul, Nat.add_zero, List.length_nil, List.length_cons, List.getD_cons_zero, List.getD_cons_succ, List.contains_cons, List.contains_nil, Nat.reduceBEq, BEq.rfl, Bool.or_false, Bool.false_or, Bool.or_true, Bool.true_or, Bool.false_eq_true, ↓reduceIte, if_false, if_true, allIn, List.range, List.range.loop]; rfl); (first | exact trivial | rfl | exact congrArg some ‹_› | (simp (disch := omega) only [boolV, lk, ↓reduceIte, Nat.reduceEqDiff, decide_true, decide_false]; done)); (simp (disch := omega) only [binX, List.replicate_succ, List.set_cons_zero, List.set_cons_succ, List.drop_replicate, Nat.sub_self, List.length_replicate, true_or, or_true, or_false, List.replicate_zero, List.nil_append, List.append_nil, maxLen, List.length_append, List.length_take, List.length_drop, Nat.min_self, List.take_length, Option.getD_some, Option.getD_none, Option.isSome_some, Option.isSome_none, forall_const, Bool.false_eq_true, false_implies, imp_self, implies_true, decide_true, decide_false, dropMap, takeMap, effect, callEff, evO, evP, evL, argL, argX, dataL, plain, plainC, plainL, lk, one, vv, one1, isNil, binV, unV, cvV, load1, store1, fieldOf, cellsOf, cellsAt, asVal, shift, partOf, dataC, elemsC, app1, cop1, len1, mslice1, bslice1, rowsA, build1, fillA, idx1, index1, slice1, optInt, addrAt, cutC, putAt, allD, dv, spl, boolV, Option.map_some, Option.bind_some, Option.map_none, Option.bind_none, ↓reduceIte, Bool.not_true, Bool.not_false, Bool.false_eq_true, and_true, true_and, Option.some.injEq, List.length_map, Nat.reduceEqDiff, Nat.reduceLeDiff, Nat.reduceAdd, Int.reduceLT, Int.reduceLE, Int.reduceToNat, Int.toNat_natCast, List.length_cons, List.length_nil, List.take_succ_cons, List.take_zero, List.drop_zero, List.map_cons, List.map_nil, Nat.zero_add, Nat.le_refl, List.getD_cons_zero, List.getD_cons_succ, bt4, ti3, ti23, ti34, getD_num, ite_and, ite_le, ite_lt, ite_eq, ite_lei, ite_lti, ite_nei, IntWalk.i64_in]; first | rfl | done); rfl; rfl; simp only [List.nil_append, List.cons_append])
    | (apply DrawA.nil'; (simp only [List.length_cons, List.length_nil, Nat.reduceMul, Nat.reduceAdd]; rfl); (simp only [Bool.not_false, Bool.not_true, mkAll, Eng.put1, Eng.skip1, frOf, vv, one, del, List.filter_cons, List.filter_nil, List.nil_append, List.cons_append, Nat.reduceAdd, Nat.reduceMul, Nat.add_zero, List.length_nil, List.length_cons, List.getD_cons_zero, List.getD_cons_succ, List.contains_cons, List.contains_nil, Nat.reduceBEq, BEq.rfl, Bool.or_false, Bool.false_or, Bool.or_true, Bool.true_or, Bool.false_eq_true, ↓reduceIte, if_false, if_true, allIn, List.range, List.range.loop]; rfl); assumption)
    | (refine RegA.done ‹_› ?_)
    | (refine awp_seq fun K hK => ?_)
    | (refine Awp.reg ?_)
    | (refine Awp.skip ?_)
    | (refine Awp.block ?_)
    | (refine Awp.scope ?_)
    | (refine Awp.ct rfl ?_)
    | (refine Awp.cf rfl ?_)
    | (refine Awp.ct (congrArg some (congrArg Value.bool ?_)) ?_; focus (simp (disch := omega) only [decide_eq_true_eq, decide_eq_false_iff_not, Bool.not_eq_true', Bool.not_eq_false', decide_true, decide_false, Bool.not_true, Bool.not_false, bt4, ti3, ti23, ti34, getD_num, ite_and, ite_le, ite_lt, ite_eq, ite_lei, ite_lti, ite_nei, IntWalk.i64_in]; done))
    | (refine Awp.cf (congrArg some (congrArg Value.bool ?_)) ?_; focus (simp (disch := omega) only [decide_eq_true_eq, decide_eq_false_iff_not, Bool.not_eq_true', Bool.not_eq_false', decide_true, decide_false, Bool.not_true, Bool.not_false, bt4, ti3, ti23, ti34, getD_num, ite_and, ite_le, ite_lt, ite_eq, ite_lei, ite_lti, ite_nei, IntWalk.i64_in]; done))
    | (refine Awp.cond rfl ?_ ?_ <;> (intro hsp; (try simp only [Bool.not_eq_true', Bool.not_eq_false', decide_eq_true_eq, decide_eq_false_iff_not, Decidable.not_not, Int.not_lt, Int.not_le, Int.natCast_inj, Bool.and_eq_true, Bool.or_eq_true, Bool.not_not, ne_eq] at hsp)))
    | (refine Awp.exit ?_; simp only [blockQ, thenQ, scopeQ, ↓reduceIte, Nat.reduceEqDiff])
    | (refine viaK ‹_› ?_)
    | (simp only [thenQ_normal, blockQ_normal])))
  all_goals (refine Awp.ret ?_; apply ret_of (.inl rfl); rfl; (simp (disch := omega) only [outXs, outX, outC, outL, lk, ↓reduceIte, Nat.reduceEqDiff, List.length_map, List.length_nil, List.length_replicate, List.length_cons, List.length_take, List.length_drop, List.length_append, ite_eq, Option.map_some, Bool.false_eq_true]; rfl); (focus simp [ownsX, ownsC]); simp [laxR, laxX, laxC, rB, rN, rO, sz, *] <;> (intros; omega))
set_option maxHeartbeats 4000000 in
set_option maxRecDepth 10000 in
theorem con31 (n : Int) : Con Try.prog 31 [vN .i64 n] [rB (sz n)] := by
  refine con_of_awp hmix Try.func31 s31 rfl (by rw [n31]; simp) r31 n31 ?_
  simp only [Eng.start, startFr, inX, sN, vN, c31]
  (repeat' (first
    | (apply RegA.op (hd := rfl); (first | exact trivial | rfl | exact congrArg some ‹_› | (simp (disch := omega) only [boolV, lk, ↓reduceIte, Nat.reduceEqDiff, decide_true, decide_false]; done)); (simp (disch := omega) only [binX, List.replicate_succ, List.set_cons_zero, List.set_cons_succ, List.drop_replicate, Nat.sub_self, List.length_replicate, true_or, or_true, or_false, List.replicate_zero, List.nil_append, List.append_nil, maxLen, List.length_append, List.length_take, List.length_drop, Nat.min_self, List.take_length, Option.getD_some, Option.getD_none, Option.isSome_some, Option.isSome_none, forall_const, Bool.false_eq_true, false_implies, imp_self, implies_true, decide_true, decide_false, dropMap, takeMap, effect, callEff, evO, evP, evL, argL, argX, dataL, plain, plainC, plainL, lk, one, vv, one1, isNil, binV, unV, cvV, load1, store1, fieldOf, cellsOf, cellsAt, asVal, shift, partOf, dataC, elemsC, app1, cop1, len1, mslice1, bslice1, rowsA, build1, fillA, idx1, index1, slice1, optInt, addrAt, cutC, putAt, allD, dv, spl, boolV, Option.map_some, Option.bind_some, Option.map_none, Option.bind_none, ↓reduceIte, Bool.not_true, Bool.not_false, Bool.false_eq_true, and_true, true_and, Option.some.injEq, List.length_map, Nat.reduceEqDiff, Nat.reduceLeDiff, Nat.reduceAdd, Int.reduceLT, Int.reduceLE, Int.reduceToNat, Int.toNat_natCast, List.length_cons, List.length_nil, List.take_succ_cons, List.take_zero, List.drop_zero, List.map_cons, List.map_nil, Nat.zero_add, Nat.le_refl, List.getD_cons_zero, List.getD_cons_succ, bt4, ti3, ti23, ti34, getD_num, ite_and, ite_le, ite_lt, ite_eq, ite_lei, ite_lti, ite_nei, IntWalk.i64_in]; first | rfl | done); simp (disch := omega) only [List.length_replicate, List.length_map, Nat.reduceBEq, Bool.not_false, Bool.not_true, ↓reduceIte, Bool.false_eq_true, BEq.rfl, put1, skip1, frOf, know, vv, one, del, decide_true, decide_false, List.filter_cons, List.filter_nil, List.nil_append, List.cons_append, Nat.reduceAdd, Nat.add_zero])
    | (refine RegA.off rfl rfl ?_; simp (disch := omega) only [List.length_replicate, List.length_map, Nat.reduceBEq, Bool.not_false, Bool.not_true, ↓reduceIte, Bool.false_eq_true, BEq.rfl, put1, skip1, frOf, know, vv, one, del, decide_true, decide_false, List.filter_cons, List.filter_nil, List.nil_append, List.cons_append, Nat.reduceAdd, Nat.add_zero])
    | (refine RegA.split rfl ?_ ?_ <;> (intro hsp; (try simp only [Bool.not_eq_true', Bool.not_eq_false', decide_eq_true_eq, decide_eq_false_iff_not, Decidable.not_not, Int.not_lt, Int.not_le, Int.natCast_inj, Bool.and_eq_true, Bool.or_eq_true, Bool.not_not, ne_eq] at hsp); simp (disch := omega) only [List.length_replicate, List.length_map, Nat.reduceBEq, Bool.not_false, Bool.not_true, ↓reduceIte, Bool.false_eq_true, BEq.rfl, put1, skip1, frOf, know, vv, one, del, decide_true, decide_false, List.filter_cons, List.filter_nil, List.nil_append, List.cons_append, Nat.reduceAdd, Nat.add_zero]))
    | (apply DrawA.op' (hd := rfl); (simp only [List.length_cons, List.length_nil, Nat.reduceMul, Nat.reduceAdd]; rfl); (simp only [Bool.not_false, Bool.not_true, Eng.mk, Eng.put1, Eng.skip1, frOf, vv, one, del, List.filter_cons, List.filter_nil, List.nil_append, List.cons_append, Nat.reduceAdd, Nat.reduceMul, Nat.add_zero, List.length_nil, List.length_cons, List.getD_cons_zero, List.getD_cons_succ, List.contains_cons, List.contains_nil, Nat.reduceBEq, BEq.rfl, Bool.or_false, Bool.false_or, Bool.or_true, Bool.true_or, Bool.false_eq_true, ↓reduceIte, if_false, if_true, allIn, List.range, List.range.loop]; rfl); (first | exact trivial | rfl | exact congrArg some ‹_› | (simp (disch := omega) only [boolV, lk, ↓reduceIte, Nat.reduceEqDiff, decide_true, decide_false]; done)); (simp (disch := omega) only [binX, List.replicate_succ, List.set_cons_zero, List.set_cons_succ, List.drop_replicate, Nat.sub_self, List.length_replicate, true_or, or_true, or_false, List.replicate_zero, List.nil_append, List.append_nil, maxLen, List.length_append, List.length_take, List.length_drop, Nat.min_self, List.take_length, Option.getD_some, Option.getD_none, Option.isSome_some, Option.isSome_none, forall_const, Bool.false_eq_true, false_implies, imp_self, implies_true, decide_true, decide_false, dropMap, takeMap, effect, callEff, evO, evP, evL, argL, argX, dataL, plain, plainC, plainL, lk, one, vv, one1, isNil, binV, unV, cvV, load1, store1, fieldOf, cellsOf, cellsAt, asVal, shift, partOf, dataC, elemsC, app1, cop1, len1, mslice1, bslice1, rowsA, build1, fillA, idx1, index1, slice1, optInt, addrAt, cutC, putAt, allD, dv, spl, boolV, Option.map_some, Option.bind_some, Option.map_none, Option.bind_none, ↓reduceIte, Bool.not_true, Bool.not_false, Bool.false_eq_true, and_true, true_and, Option.some.injEq, List.length_map, Nat.reduceEqDiff, Nat.reduceLeDiff, Nat.reduceAdd, Int.reduceLT, Int.reduceLE, Int.reduceToNat, Int.toNat_natCast, List.length_cons, List.length_nil, List.take_succ_cons, List.take_zero, List.drop_zero, List.map_cons, List.map_nil, Nat.zero_add, Nat.le_refl, List.getD_cons_zero, List.getD_cons_succ, bt4, ti3, ti23, ti34, getD_num, ite_and, ite_le, ite_lt, ite_eq, ite_lei, ite_lti, ite_nei, IntWalk.i64_in]; first | rfl | done); rfl; rfl; simp only [List.nil_append, List.cons_append])
    | (apply DrawA.nil'; (simp only [List.length_cons, List.length_nil, Nat.reduceMul, Nat.reduceAdd]; rfl); (simp only [Bool.not_false, Bool.not_true, mkAll, Eng.put1, Eng.skip1, frOf, vv, one, del, List.filter_cons, List.filter_nil, List.nil_append, List.cons_append, Nat.reduceAdd, Nat.reduceMul, Nat.add_zero, List.length_nil, List.length_cons, List.getD_cons_zero, List.getD_cons_succ, List.contains_cons, List.contains_nil, Nat.reduceBEq, BEq.rfl, Bool.or_false, Bool.false_or, Bool.or_true, Bool.true_or, Bool.false_eq_true, ↓reduceIte, if_false, if_true, allIn, List.range, List.range.loop]; rfl); assumption)
    | (refine RegA.done ‹_› ?_)
    | (refine awp_seq fun K hK => ?_)
    | (refine Awp.reg ?_)
    | (refine Awp.skip ?_)
    | (refine Awp.block ?_)
    | (refine Awp.scope ?_)
    | (refine Awp.ct rfl ?_)
    | (refine Awp.cf rfl ?_)
    | (refine Awp.ct (congrArg some (congrArg Value.bool ?_)) ?_; focus (simp (disch := omega) only [decide_eq_true_eq, decide_eq_false_iff_not, Bool.not_eq_true', Bool.not_eq_false', decide_true, decide_false, Bool.not_true, Bool.not_false, bt4, ti3, ti23, ti34, getD_num, ite_and, ite_le, ite_lt, ite_eq, ite_lei, ite_lti, ite_nei, IntWalk.i64_in]; done))
    | (refine Awp.cf (congrArg some (congrArg Value.bool ?_)) ?_; focus (simp (disch := omega) only [decide_eq_true_eq, decide_eq_false_iff_not, Bool.not_eq_true', Bool.not_eq_false', decide_true, decide_false, Bool.not_true, Bool.not_false, bt4, ti3, ti23, ti34, getD_num, ite_and, ite_le, ite_lt, ite_eq, ite_lei, ite_lti, ite_nei, IntWalk.i64_in]; done))
    | (refine Awp.cond rfl ?_ ?_ <;> (intro hsp; (try simp only [Bool.not_eq_true', Bool.not_eq_false', decide_eq_true_eq, decide_eq_false_iff_not, Decidable.not_not, Int.not_lt, Int.not_le, Int.natCast_inj, Bool.and_eq_true, Bool.or_eq_true, Bool.not_not, ne_eq] at hsp)))
    | (refine Awp.exit ?_; simp only [blockQ, thenQ, scopeQ, ↓reduceIte, Nat.reduceEqDiff])
    | (refine viaK ‹_› ?_)
    | (simp only [thenQ_normal, blockQ_normal])))
  all_goals (refine Awp.ret ?_; apply ret_of (.inl rfl); rfl; (simp (disch := omega) only [outXs, outX, outC, outL, lk, ↓reduceIte, Nat.reduceEqDiff, List.length_map, List.length_nil, List.length_replicate, List.length_cons, List.length_take, List.length_drop, List.length_append, ite_eq, Option.map_some, Bool.false_eq_true]; rfl); (focus simp [ownsX, ownsC]); simp [laxR, laxX, laxC, rB, rN, rO, sz, *] <;> (intros; omega))
set_option maxHeartbeats 4000000 in
set_option maxRecDepth 10000 in
theorem con28 (w a n : Int) (hw : 0 ≤ w ∧ w ≤ 1000000) (ha : -9223372036854775808 ≤ a ∧ a ≤ 9223372036854775807) : Con Try.prog 28 [vN .i64 w, vN .i64 a, vN .i64 n] [rB (decide (0 ≤ a ∧ 0 ≤ n ∧ n ≤ w - a))] := by
  refine con_of_awp hmix Try.func28 s28 rfl (by rw [n28]; simp) r28 n28 ?_
  simp only [Eng.start, startFr, inX, sN, vN, c28]
  (repeat' (first
    | (apply RegA.op (hd := rfl); (first | exact trivial | rfl | exact congrArg some ‹_› | (simp (disch := omega) only [boolV, lk, ↓reduceIte, Nat.reduceEqDiff, decide_true, decide_false]; done)); (simp (disch := omega) only [binX, List.replicate_succ, List.set_cons_zero, List.set_cons_succ, List.drop_replicate, Nat.sub_self, List.length_replicate, true_or, or_true, or_false, List.replicate_zero, List.nil_append, List.append_nil, maxLen, List.length_append, List.length_take, List.length_drop, Nat.min_self, List.take_length, Option.getD_some, Option.getD_none, Option.isSome_some, Option.isSome_none, forall_const, Bool.false_eq_true, false_implies, imp_self, implies_true, decide_true, decide_false, dropMap, takeMap, effect, callEff, evO, evP, evL, argL, argX, dataL, plain, plainC, plainL, lk, one, vv, one1, isNil, binV, unV, cvV, load1, store1, fieldOf, cellsOf, cellsAt, asVal, shift, partOf, dataC, elemsC, app1, cop1, len1, mslice1, bslice1, rowsA, build1, fillA, idx1, index1, slice1, optInt, addrAt, cutC, putAt, allD, dv, spl, boolV, Option.map_some, Option.bind_some, Option.map_none, Option.bind_none, ↓reduceIte, Bool.not_true, Bool.not_false, Bool.false_eq_true, and_true, true_and, Option.some.injEq, List.length_map, Nat.reduceEqDiff, Nat.reduceLeDiff, Nat.reduceAdd, Int.reduceLT, Int.reduceLE, Int.reduceToNat, Int.toNat_natCast, List.length_cons, List.length_nil, List.take_succ_cons, List.take_zero, List.drop_zero, List.map_cons, List.map_nil, Nat.zero_add, Nat.le_refl, List.getD_cons_zero, List.getD_cons_succ, bt4, ti3, ti23, ti34, getD_num, ite_and, ite_le, ite_lt, ite_eq, ite_lei, ite_lti, ite_nei, IntWalk.i64_in]; first | rfl | done); simp (disch := omega) only [List.length_replicate, List.length_map, Nat.reduceBEq, Bool.not_false, Bool.not_true, ↓reduceIte, Bool.false_eq_true, BEq.rfl, put1, skip1, frOf, know, vv, one, del, decide_true, decide_false, List.filter_cons, List.filter_nil, List.nil_append, List.cons_append, Nat.reduceAdd, Nat.add_zero])
    | (refine RegA.off rfl rfl ?_; simp (disch := omega) only [List.length_replicate, List.length_map, Nat.reduceBEq, Bool.not_false, Bool.not_true, ↓reduceIte, Bool.false_eq_true, BEq.rfl, put1, skip1, frOf, know, vv, one, del, decide_true, decide_false, List.filter_cons, List.filter_nil, List.nil_append, List.cons_append, Nat.reduceAdd, Nat.add_zero])
    | (refine RegA.split rfl ?_ ?_ <;> (intro hsp; (try simp only [Bool.not_eq_true', Bool.not_eq_false', decide_eq_true_eq, decide_eq_false_iff_not, Decidable.not_not, Int.not_lt, Int.not_le, Int.natCast_inj, Bool.and_eq_true, Bool.or_eq_true, Bool.not_not, ne_eq] at hsp); simp (disch := omega) only [List.length_replicate, List.length_map, Nat.reduceBEq, Bool.not_false, Bool.not_true, ↓reduceIte, Bool.false_eq_true, BEq.rfl, put1, skip1, frOf, know, vv, one, del, decide_true, decide_false, List.filter_cons, List.filter_nil, List.nil_append, List.cons_append, Nat.reduceAdd, Nat.add_zero]))
    | (apply DrawA.op' (hd := rfl); (simp only [List.length_cons, List.length_nil, Nat.reduceMul, Nat.reduceAdd]; rfl); (simp only [Bool.not_false, Bool.not_true, Eng.mk, Eng.put1, Eng.skip1, frOf, vv, one, del, List.filter_cons, List.filter_nil, List.nil_append, List.cons_append, Nat.reduceAdd, Nat.reduceMul, Nat.add_zero, List.length_nil, List.length_cons, List.getD_cons_zero, List.getD_cons_succ, List.contains_cons, List.contains_nil, Nat.reduceBEq, BEq.rfl, Bool.or_false, Bool.false_or, Bool.or_true, Bool.true_or, Bool.false_eq_true, ↓reduceIte, if_false, if_true, allIn, List.range, List.range.loop]; rfl); (first | exact trivial | rfl | exact congrArg some ‹_› | (simp (disch := omega) only [boolV, lk, ↓reduceIte, Nat.reduceEqDiff, decide_true, decide_false]; done)); (simp (disch := omega) only [binX, List.replicate_succ, List.set_cons_zero, List.set_cons_succ, List.drop_replicate, Nat.sub_self, List.length_replicate, true_or, or_true, or_false, List.replicate_zero, List.nil_append, List.append_nil, maxLen, List.length_append, List.length_take, List.length_drop, Nat.min_self, List.take_length, Option.getD_some, Option.getD_none, Option.isSome_some, Option.isSome_none, forall_const, Bool.false_eq_true, false_implies, imp_self, implies_true, decide_true, decide_false, dropMap, takeMap, effect, callEff, evO, evP, evL, argL, argX, dataL, plain, plainC, plainL, lk, one, vv, one1, isNil, binV, unV, cvV, load1, store1, fieldOf, cellsOf, cellsAt, asVal, shift, partOf, dataC, elemsC, app1, cop1, len1, mslice1, bslice1, rowsA, build1, fillA, idx1, index1, slice1, optInt, addrAt, cutC, putAt, allD, dv, spl, boolV, Option.map_some, Option.bind_some, Option.map_none, Option.bind_none, ↓reduceIte, Bool.not_true, Bool.not_false, Bool.false_eq_true, and_true, true_and, Option.some.injEq, List.length_map, Nat.reduceEqDiff, Nat.reduceLeDiff, Nat.reduceAdd, Int.reduceLT, Int.reduceLE, Int.reduceToNat, Int.toNat_natCast, List.length_cons, List.length_nil, List.take_succ_cons, List.take_zero, List.drop_zero, List.map_cons, List.map_nil, Nat.zero_add, Nat.le_refl, List.getD_cons_zero, List.getD_cons_succ, bt4, ti3, ti23, ti34, getD_num, ite_and, ite_le, ite_lt, ite_eq, ite_lei, ite_lti, ite_nei, IntWalk.i64_in]; first | rfl | done); rfl; rfl; simp only [List.nil_append, List.cons_append])
    | (apply DrawA.nil'; (simp only [List.length_cons, List.length_nil, Nat.reduceMul, Nat.reduceAdd]; rfl); (simp only [Bool.not_false, Bool.not_true, mkAll, Eng.put1, Eng.skip1, frOf, vv, one, del, List.filter_cons, List.filter_nil, List.nil_append, List.cons_append, Nat.reduceAdd, Nat.reduceMul, Nat.add_zero, List.length_nil, List.length_cons, List.getD_cons_zero, List.getD_cons_succ, List.contains_cons, List.contains_nil, Nat.reduceBEq, BEq.rfl, Bool.or_false, Bool.false_or, Bool.or_true, Bool.true_or, Bool.false_eq_true, ↓reduceIte, if_false, if_true, allIn, List.range, List.range.loop]; rfl); assumption)
    | (refine RegA.done ‹_› ?_)
    | (refine awp_seq fun K hK => ?_)
    | (refine Awp.reg ?_)
    | (refine Awp.skip ?_)
    | (refine Awp.block ?_)
    | (refine Awp.scope ?_)
    | (refine Awp.ct rfl ?_)
    | (refine Awp.cf rfl ?_)
    | (refine Awp.ct (congrArg some (congrArg Value.bool ?_)) ?_; focus (simp (disch := omega) only [decide_eq_true_eq, decide_eq_false_iff_not, Bool.not_eq_true', Bool.not_eq_false', decide_true, decide_false, Bool.not_true, Bool.not_false, bt4, ti3, ti23, ti34, getD_num, ite_and, ite_le, ite_lt, ite_eq, ite_lei, ite_lti, ite_nei, IntWalk.i64_in]; done))
    | (refine Awp.cf (congrArg some (congrArg Value.bool ?_)) ?_; focus (simp (disch := omega) only [decide_eq_true_eq, decide_eq_false_iff_not, Bool.not_eq_true', Bool.not_eq_false', decide_true, decide_false, Bool.not_true, Bool.not_false, bt4, ti3, ti23, ti34, getD_num, ite_and, ite_le, ite_lt, ite_eq, ite_lei, ite_lti, ite_nei, IntWalk.i64_in]; done))
    | (refine Awp.cond rfl ?_ ?_ <;> (intro hsp; (try simp only [Bool.not_eq_true', Bool.not_eq_false', decide_eq_true_eq, decide_eq_false_iff_not, Decidable.not_not, Int.not_lt, Int.not_le, Int.natCast_inj, Bool.and_eq_true, Bool.or_eq_true, Bool.not_not, ne_eq] at hsp)))
    | (refine Awp.exit ?_; simp only [blockQ, thenQ, scopeQ, ↓reduceIte, Nat.reduceEqDiff])
    | (refine viaK ‹_› ?_)
    | (simp only [thenQ_normal, blockQ_normal])))
  all_goals (refine Awp.ret ?_; apply ret_of (.inl rfl); rfl; (simp (disch := omega) only [outXs, outX, outC, outL, lk, ↓reduceIte, Nat.reduceEqDiff, List.length_map, List.length_nil, List.length_replicate, List.length_cons, List.length_take, List.length_drop, List.length_append, ite_eq, Option.map_some, Bool.false_eq_true]; rfl); (focus simp [ownsX, ownsC]); simp [laxR, laxX, laxC, rB, rN, rO, *] <;> (intros; omega))
set_option maxHeartbeats 4000000 in
set_option maxRecDepth 10000 in
theorem con30 (l : List Int) (a n : Int) (hw : l.length ≤ 1000000) (ha : -9223372036854775808 ≤ a ∧ a ≤ 9223372036854775807) : Con Try.prog 30 [sN .u64 l, vN .i64 a, vN .i64 n] [rB (decide (0 ≤ a ∧ 0 ≤ n ∧ n ≤ (l.length : Int) - a))] := by
  refine con_of_awp hmix Try.func30 s30 rfl (by rw [n30]; simp) r30 n30 ?_
  simp only [Eng.start, startFr, inX, sN, vN, c30]
  (repeat' (first
    | (apply RegA.op (hd := rfl); (first | exact trivial | rfl | exact congrArg some ‹_› | (simp (disch := omega) only [boolV, lk, ↓reduceIte, Nat.reduceEqDiff, decide_true, decide_false]; done)); (simp (disch := omega) only [binX, List.replicate_succ, List.set_cons_zero, List.set_cons_succ, List.drop_replicate, Nat.sub_self, List.length_replicate, true_or, or_true, or_false, List.replicate_zero, List.nil_append, List.append_nil, maxLen, List.length_append, List.length_take, List.length_drop, Nat.min_self, List.take_length, Option.getD_some, Option.getD_none, Option.isSome_some, Option.isSome_none, forall_const, Bool.false_eq_true, false_implies, imp_self, implies_true, decide_true, decide_false, dropMap, takeMap, effect, callEff, evO, evP, evL, argL, argX, dataL, plain, plainC, plainL, lk, one, vv, one1, isNil, binV, unV, cvV, load1, store1, fieldOf, cellsOf, cellsAt, asVal, shift, partOf, dataC, elemsC, app1, cop1, len1, mslice1, bslice1, rowsA, build1, fillA, idx1, index1, slice1, optInt, addrAt, cutC, putAt, allD, dv, spl, boolV, Option.map_some, Option.bind_some, Option.map_none, Option.bind_none, ↓reduceIte, Bool.not_true, Bool.not_false, Bool.false_eq_true, and_true, true_and, Option.some.injEq, List.length_map, Nat.reduceEqDiff, Nat.reduceLeDiff, Nat.reduceAdd, Int.reduceLT, Int.reduceLE, Int.reduceToNat, Int.toNat_natCast, List.length_cons, List.length_nil, List.take_succ_cons, List.take_zero, List.drop_zero, List.map_cons, List.map_nil, Nat.zero_add, Nat.le_refl, List.getD_cons_zero, List.getD_cons_succ, bt4, ti3, ti23, ti34, getD_num, ite_and, ite_le, ite_lt, ite_eq, ite_lei, ite_lti, ite_nei, IntWalk.i64_in]; first | rfl | done); simp (disch := omega) only [List.length_replicate, List.length_map, Nat.reduceBEq, Bool.not_false, Bool.not_true, ↓reduceIte, Bool.false_eq_true, BEq.rfl, put1, skip1, frOf, know, vv, one, del, decide_true, decide_false, List.filter_cons, List.filter_nil, List.nil_append, List.cons_append, Nat.reduceAdd, Nat.add_zero])
    | (refine RegA.off rfl rfl ?_; simp (disch := omega) only [List.length_replicate, List.length_map, Nat.reduceBEq, Bool.not_false, Bool.not_true, ↓reduceIte, Bool.false_eq_true, BEq.rfl, put1, skip1, frOf, know, vv, one, del, decide_true, decide_false, List.filter_cons, List.filter_nil, List.nil_append, List.cons_append, Nat.reduceAdd, Nat.add_zero])
    | (refine RegA.split rfl ?_ ?_ <;> (intro hsp; (try simp only [Bool.not_eq_true', Bool.not_eq_false', decide_eq_true_eq, decide_eq_false_iff_not, Decidable.not_not, Int.not_lt, Int.not_le, Int.natCast_inj, Bool.and_eq_true, Bool.or_eq_true, Bool.not_not, ne_eq] at hsp); simp (disch := omega) only [List.length_replicate, List.length_map, Nat.reduceBEq, Bool.not_false, Bool.not_true, ↓reduceIte, Bool.false_eq_true, BEq.rfl, put1, skip1, frOf, know, vv, one, del, decide_true, decide_false, List.filter_cons, List.filter_nil, List.nil_append, List.cons_append, Nat.reduceAdd, Nat.add_zero]))
    | (apply DrawA.op' (hd := rfl); (simp only [List.length_cons, List.length_nil, Nat.reduceMul, Nat.reduceAdd]; rfl); (simp only [Bool.not_false, Bool.not_true, Eng.mk, Eng.put1, Eng.skip1, frOf, vv, one, del, List.filter_cons, List.filter_nil, List.nil_append, List.cons_append, Nat.reduceAdd, Nat.reduceMul, Nat.add_zero, List.length_nil, List.length_cons, List.getD_cons_zero, List.getD_cons_succ, List.contains_cons, List.contains_nil, Nat.reduceBEq, BEq.rfl, Bool.or_false, Bool.false_or, Bool.or_true, Bool.true_or, Bool.false_eq_true, ↓reduceIte, if_false, if_true, allIn, List.range, List.range.loop]; rfl); (first | exact trivial | rfl | exact congrArg some ‹_› | (simp (disch := omega) only [boolV, lk, ↓reduceIte, Nat.reduceEqDiff, decide_true, decide_false]; done)); (simp (disch := omega) only [binX, List.replicate_succ, List.set_cons_zero, List.set_cons_succ, List.drop_replicate, Nat.sub_self, List.length_replicate, true_or, or_true, or_false, List.replicate_zero, List.nil_append, List.append_nil, maxLen, List.length_append, List.length_take, List.length_drop, Nat.min_self, List.take_length, Option.getD_some, Option.getD_none, Option.isSome_some, Option.isSome_none, forall_const, Bool.false_eq_true, false_implies, imp_self, implies_true, decide_true, decide_false, dropMap, takeMap, effect, callEff, evO, evP, evL, argL, argX, dataL, plain, plainC, plainL, lk, one, vv, one1, isNil, binV, unV, cvV, load1, store1, fieldOf, cellsOf, cellsAt, asVal, shift, partOf, dataC, elemsC, app1, cop1, len1, mslice1, bslice1, rowsA, build1, fillA, idx1, index1, slice1, optInt, addrAt, cutC, putAt, allD, dv, spl, boolV, Option.map_some, Option.bind_some, Option.map_none, Option.bind_none, ↓reduceIte, Bool.not_true, Bool.not_false, Bool.false_eq_true, and_true, true_and, Option.some.injEq, List.length_map, Nat.reduceEqDiff, Nat.reduceLeDiff, Nat.reduceAdd, Int.reduceLT, Int.reduceLE, Int.reduceToNat, Int.toNat_natCast, List.length_cons, List.length_nil, List.take_succ_cons, List.take_zero, List.drop_zero, List.map_cons, List.map_nil, Nat.zero_add, Nat.le_refl, List.getD_cons_zero, List.getD_cons_succ, bt4, ti3, ti23, ti34, getD_num, ite_and, ite_le, ite_lt, ite_eq, ite_lei, ite_lti, ite_nei, IntWalk.i64_in]; first | rfl | done); rfl; rfl; simp only [List.nil_append, List.cons_append])
    | (apply DrawA.nil'; (simp only [List.length_cons, List.length_nil, Nat.reduceMul, Nat.reduceAdd]; rfl); (simp only [Bool.not_false, Bool.not_true, mkAll, Eng.put1, Eng.skip1, frOf, vv, one, del, List.filter_cons, List.filter_nil, List.nil_append, List.cons_append, Nat.reduceAdd, Nat.reduceMul, Nat.add_zero, List.length_nil, List.length_cons, List.getD_cons_zero, List.getD_cons_succ, List.contains_cons, List.contains_nil, Nat.reduceBEq, BEq.rfl, Bool.or_false, Bool.false_or, Bool.or_true, Bool.true_or, Bool.false_eq_true, ↓reduceIte, if_false, if_true, allIn, List.range, List.range.loop]; rfl); assumption)
    | (refine RegA.done ‹_› ?_)
    | (refine awp_seq fun K hK => ?_)
    | (refine Awp.reg ?_)
    | (refine Awp.skip ?_)
    | (refine Awp.block ?_)
    | (refine Awp.scope ?_)
    | (refine Awp.ct rfl ?_)
    | (refine Awp.cf rfl ?_)
    | (refine Awp.ct (congrArg some (congrArg Value.bool ?_)) ?_; focus (simp (disch := omega) only [decide_eq_true_eq, decide_eq_false_iff_not, Bool.not_eq_true', Bool.not_eq_false', decide_true, decide_false, Bool.not_true, Bool.not_false, bt4, ti3, ti23, ti34, getD_num, ite_and, ite_le, ite_lt, ite_eq, ite_lei, ite_lti, ite_nei, IntWalk.i64_in]; done))
    | (refine Awp.cf (congrArg some (congrArg Value.bool ?_)) ?_; focus (simp (disch := omega) only [decide_eq_true_eq, decide_eq_false_iff_not, Bool.not_eq_true', Bool.not_eq_false', decide_true, decide_false, Bool.not_true, Bool.not_false, bt4, ti3, ti23, ti34, getD_num, ite_and, ite_le, ite_lt, ite_eq, ite_lei, ite_lti, ite_nei, IntWalk.i64_in]; done))
    | (refine Awp.cond rfl ?_ ?_ <;> (intro hsp; (try simp only [Bool.not_eq_true', Bool.not_eq_false', decide_eq_true_eq, decide_eq_false_iff_not, Decidable.not_not, Int.not_lt, Int.not_le, Int.natCast_inj, Bool.and_eq_true, Bool.or_eq_true, Bool.not_not, ne_eq] at hsp)))
    | (refine Awp.exit ?_; simp only [blockQ, thenQ, scopeQ, ↓reduceIte, Nat.reduceEqDiff])
    | (refine viaK ‹_› ?_)
    | (simp only [thenQ_normal, blockQ_normal])))
  all_goals (refine Awp.ret ?_; apply ret_of (.inl rfl); rfl; (simp (disch := omega) only [outXs, outX, outC, outL, lk, ↓reduceIte, Nat.reduceEqDiff, List.length_map, List.length_nil, List.length_replicate, List.length_cons, List.length_take, List.length_drop, List.length_append, ite_eq, Option.map_some, Bool.false_eq_true]; rfl); (focus simp [ownsX, ownsC]); simp [laxR, laxX, laxC, rB, rN, rO, *] <;> (intros; omega))
set_option maxHeartbeats 4000000 in
set_option maxRecDepth 10000 in
theorem con29 (l : List Int) (hw : l.length ≤ 1000000) : Con Try.prog 29 [sN .u64 l] [rO .u64 l] := by
  refine con_of_awp hmix Try.func29 s29 rfl (by rw [n29]; simp) r29 n29 ?_
  simp only [Eng.start, startFr, inX, sN, vN, c29]
  (repeat' (first
    | (apply RegA.op (hd := rfl); (first | exact trivial | rfl | exact congrArg some ‹_› | (simp (disch := omega) only [boolV, lk, ↓reduceIte, Nat.reduceEqDiff, decide_true, decide_false]; done)); (simp (disch := omega) only [binX, List.replicate_succ, List.set_cons_zero, List.set_cons_succ, List.drop_replicate, Nat.sub_self, List.length_replicate, true_or, or_true, or_false, List.replicate_zero, List.nil_append, List.append_nil, maxLen, List.length_append, List.length_take, List.length_drop, Nat.min_self, List.take_length, Option.getD_some, Option.getD_none, Option.isSome_some, Option.isSome_none, forall_const, Bool.false_eq_true, false_implies, imp_self, implies_true, decide_true, decide_false, dropMap, takeMap, effect, callEff, evO, evP, evL, argL, argX, dataL, plain, plainC, plainL, lk, one, vv, one1, isNil, binV, unV, cvV, load1, store1, fieldOf, cellsOf, cellsAt, asVal, shift, partOf, dataC, elemsC, app1, cop1, len1, mslice1, bslice1, rowsA, build1, fillA, idx1, index1, slice1, optInt, addrAt, cutC, putAt, allD, dv, spl, boolV, Option.map_some, Option.bind_some, Option.map_none, Option.bind_none, ↓reduceIte, Bool.not_true, Bool.not_false, Bool.false_eq_true, and_true, true_and, Option.some.injEq, List.length_map, Nat.reduceEqDiff, Nat.reduceLeDiff, Nat.reduceAdd, Int.reduceLT, Int.reduceLE, Int.reduceToNat, Int.toNat_natCast, List.length_cons, List.length_nil, List.take_succ_cons, List.take_zero, List.drop_zero, List.map_cons, List.map_nil, Nat.zero_add, Nat.le_refl, List.getD_cons_zero, List.getD_cons_succ, bt4, ti3, ti23, ti34, getD_num, ite_and, ite_le, ite_lt, ite_eq, ite_lei, ite_lti, ite_nei, IntWalk.i64_in]; first | rfl | done); simp (disch := omega) only [List.length_replicate, List.length_map, Nat.reduceBEq, Bool.not_false, Bool.not_true, ↓reduceIte, Bool.false_eq_true, BEq.rfl, put1, skip1, frOf, know, vv, one, del, decide_true, decide_false, List.filter_cons, List.filter_nil, List.nil_append, List.cons_append, Nat.reduceAdd, Nat.add_zero])
    | (refine RegA.off rfl rfl ?_; simp (disch := omega) only [List.length_replicate, List.length_map, Nat.reduceBEq, Bool.not_false, Bool.not_true, ↓reduceIte, Bool.false_eq_true, BEq.rfl, put1, skip1, frOf, know, vv, one, del, decide_true, decide_false, List.filter_cons, List.filter_nil, List.nil_append, List.cons_append, Nat.reduceAdd, Nat.add_zero])
    | (refine RegA.split rfl ?_ ?_ <;> (intro hsp; (try simp only [Bool.not_eq_true', Bool.not_eq_false', decide_eq_true_eq, decide_eq_false_iff_not, Decidable.not_not, Int.not_lt, Int.not_le, Int.natCast_inj, Bool.and_eq_true, Bool.or_eq_true, Bool.not_not, ne_eq] at hsp); simp (disch := omega) only [List.length_replicate, List.length_map, Nat.reduceBEq, Bool.not_false, Bool.not_true, ↓reduceIte, Bool.false_eq_true, BEq.rfl, put1, skip1, frOf, know, vv, one, del, decide_true, decide_false, List.filter_cons, List.filter_nil, List.nil_append, List.cons_append, Nat.reduceAdd, Nat.add_zero]))
    | (apply DrawA.op' (hd := rfl); (simp only [List.length_cons, List.length_nil, Nat.reduceMul, Nat.reduceAdd]; rfl); (simp only [Bool.not_false, Bool.not_true, Eng.mk, Eng.put1, Eng.skip1, frOf, vv, one, del, List.filter_cons, List.filter_nil, List.nil_append, List.cons_append, Nat.reduceAdd, Nat.reduceMul, Nat.add_zero, List.length_nil, List.length_cons, List.getD_cons_zero, List.getD_cons_succ, List.contains_cons, List.contains_nil, Nat.reduceBEq, BEq.rfl, Bool.or_false, Bool.false_or, Bool.or_true, Bool.true_or, Bool.false_eq_true, ↓reduceIte, if_false, if_true, allIn, List.range, List.range.loop]; rfl); (first | exact trivial | rfl | exact congrArg some ‹_› | (simp (disch := omega) only [boolV, lk, ↓reduceIte, Nat.reduceEqDiff, decide_true, decide_false]; done)); (simp (disch := omega) only [binX, List.replicate_succ, List.set_cons_zero, List.set_cons_succ, List.drop_replicate, Nat.sub_self, List.length_replicate, true_or, or_true, or_false, List.replicate_zero, List.nil_append, List.append_nil, maxLen, List.length_append, List.length_take, List.length_drop, Nat.min_self, List.take_length, Option.getD_some, Option.getD_none, Option.isSome_some, Option.isSome_none, forall_const, Bool.false_eq_true, false_implies, imp_self, implies_true, decide_true, decide_false, dropMap, takeMap, effect, callEff, evO, evP, evL, argL, argX, dataL, plain, plainC, plainL, lk, one, vv, one1, isNil, binV, unV, cvV, load1, store1, fieldOf, cellsOf, cellsAt, asVal, shift, partOf, dataC, elemsC, app1, cop1, len1, mslice1, bslice1, rowsA, build1, fillA, idx1, index1, slice1, optInt, addrAt, cutC, putAt, allD, dv, spl, boolV, Option.map_some, Option.bind_some, Option.map_none, Option.bind_none, ↓reduceIte, Bool.not_true, Bool.not_false, Bool.false_eq_true, and_true, true_and, Option.some.injEq, List.length_map, Nat.reduceEqDiff, Nat.reduceLeDiff, Nat.reduceAdd, Int.reduceLT, Int.reduceLE, Int.reduceToNat, Int.toNat_natCast, List.length_cons, List.length_nil, List.take_succ_cons, List.take_zero, List.drop_zero, List.map_cons, List.map_nil, Nat.zero_add, Nat.le_refl, List.getD_cons_zero, List.getD_cons_succ, bt4, ti3, ti23, ti34, getD_num, ite_and, ite_le, ite_lt, ite_eq, ite_lei, ite_lti, ite_nei, IntWalk.i64_in]; first | rfl | done); rfl; rfl; simp only [List.nil_append, List.cons_append])
    | (apply DrawA.nil'; (simp only [List.length_cons, List.length_nil, Nat.reduceMul, Nat.reduceAdd]; rfl); (simp only [Bool.not_false, Bool.not_true, mkAll, Eng.put1, Eng.skip1, frOf, vv, one, del, List.filter_cons, List.filter_nil, List.nil_append, List.cons_append, Nat.reduceAdd, Nat.reduceMul, Nat.add_zero, List.length_nil, List.length_cons, List.getD_cons_zero, List.getD_cons_succ, List.contains_cons, List.contains_nil, Nat.reduceBEq, BEq.rfl, Bool.or_false, Bool.false_or, Bool.or_true, Bool.true_or, Bool.false_eq_true, ↓reduceIte, if_false, if_true, allIn, List.range, List.range.loop]; rfl); assumption)
    | (refine RegA.done ‹_› ?_)
    | (refine awp_seq fun K hK => ?_)
    | (refine Awp.reg ?_)
    | (refine Awp.skip ?_)
    | (refine Awp.block ?_)
    | (refine Awp.scope ?_)
    | (refine Awp.ct rfl ?_)
    | (refine Awp.cf rfl ?_)
    | (refine Awp.ct (congrArg some (congrArg Value.bool ?_)) ?_; focus (simp (disch := omega) only [decide_eq_true_eq, decide_eq_false_iff_not, Bool.not_eq_true', Bool.not_eq_false', decide_true, decide_false, Bool.not_true, Bool.not_false, bt4, ti3, ti23, ti34, getD_num, ite_and, ite_le, ite_lt, ite_eq, ite_lei, ite_lti, ite_nei, IntWalk.i64_in]; done))
    | (refine Awp.cf (congrArg some (congrArg Value.bool ?_)) ?_; focus (simp (disch := omega) only [decide_eq_true_eq, decide_eq_false_iff_not, Bool.not_eq_true', Bool.not_eq_false', decide_true, decide_false, Bool.not_true, Bool.not_false, bt4, ti3, ti23, ti34, getD_num, ite_and, ite_le, ite_lt, ite_eq, ite_lei, ite_lti, ite_nei, IntWalk.i64_in]; done))
    | (refine Awp.cond rfl ?_ ?_ <;> (intro hsp; (try simp only [Bool.not_eq_true', Bool.not_eq_false', decide_eq_true_eq, decide_eq_false_iff_not, Decidable.not_not, Int.not_lt, Int.not_le, Int.natCast_inj, Bool.and_eq_true, Bool.or_eq_true, Bool.not_not, ne_eq] at hsp)))
    | (refine Awp.exit ?_; simp only [blockQ, thenQ, scopeQ, ↓reduceIte, Nat.reduceEqDiff])
    | (refine viaK ‹_› ?_)
    | (simp only [thenQ_normal, blockQ_normal])))
  all_goals (refine Awp.ret ?_; apply ret_of (.inl rfl); rfl; (simp (disch := omega) only [outXs, outX, outC, outL, lk, ↓reduceIte, Nat.reduceEqDiff, List.length_map, List.length_nil, List.length_replicate, List.length_cons, List.length_take, List.length_drop, List.length_append, ite_eq, Option.map_some, Bool.false_eq_true]; rfl); (focus simp [ownsX, ownsC]); simp [laxR, laxX, laxC, rB, rN, rO, *] <;> (intros; omega))
set_option maxHeartbeats 4000000 in
set_option maxRecDepth 10000 in
theorem con19 (l : List Int) (hw : l.length ≤ 1000000) : Con Try.prog 19 [sN .u64 l] [rO .u64 l] := by
  refine con_of_awp hmix Try.func19 s19 rfl (by rw [n19]; simp) r19 n19 ?_
  simp only [Eng.start, startFr, inX, sN, vN, c19]
  (repeat' (first
    | (apply RegA.op (hd := rfl); (first | exact trivial | rfl | exact congrArg some ‹_› | (simp (disch := omega) only [boolV, lk, ↓reduceIte, Nat.reduceEqDiff, decide_true, decide_false]; done)); (simp (disch := omega) only [binX, List.replicate_succ, List.set_cons_zero, List.set_cons_succ, List.drop_replicate, Nat.sub_self, List.length_replicate, true_or, or_true, or_false, List.replicate_zero, List.nil_append, List.append_nil, maxLen, List.length_append, List.length_take, List.length_drop, Nat.min_self, List.take_length, Option.getD_some, Option.getD_none, Option.isSome_some, Option.isSome_none, forall_const, Bool.false_eq_true, false_implies, imp_self, implies_true, decide_true, decide_false, dropMap, takeMap, effect, callEff, evO, evP, evL, argL, argX, dataL, plain, plainC, plainL, lk, one, vv, one1, isNil, binV, unV, cvV, load1, store1, fieldOf, cellsOf, cellsAt, asVal, shift, partOf, dataC, elemsC, app1, cop1, len1, mslice1, bslice1, rowsA, build1, fillA, idx1, index1, slice1, optInt, addrAt, cutC, putAt, allD, dv, spl, boolV, Option.map_some, Option.bind_some, Option.map_none, Option.bind_none, ↓reduceIte, Bool.not_true, Bool.not_false, Bool.false_eq_true, and_true, true_and, Option.some.injEq, List.length_map, Nat.reduceEqDiff, Nat.reduceLeDiff, Nat.reduceAdd, Int.reduceLT, Int.reduceLE, Int.reduceToNat, Int.toNat_natCast, List.length_cons, List.length_nil, List.take_succ_cons, List.take_zero, List.drop_zero, List.map_cons, List.map_nil, Nat.zero_add, Nat.le_refl, List.getD_cons_zero, List.getD_cons_succ, bt4, ti3, ti23, ti34, getD_num, ite_and, ite_le, ite_lt, ite_eq, ite_lei, ite_lti, ite_nei, IntWalk.i64_in]; first | rfl | done); simp (disch := omega) only [List.length_replicate, List.length_map, Nat.reduceBEq, Bool.not_false, Bool.not_true, ↓reduceIte, Bool.false_eq_true, BEq.rfl, put1, skip1, frOf, know, vv, one, del, decide_true, decide_false, List.filter_cons, List.filter_nil, List.nil_append, List.cons_append, Nat.reduceAdd, Nat.add_zero])
    | (refine RegA.off rfl rfl ?_; simp (disch := omega) only [List.length_replicate, List.length_map, Nat.reduceBEq, Bool.not_false, Bool.not_true, ↓reduceIte, Bool.false_eq_true, BEq.rfl, put1, skip1, frOf, know, vv, one, del, decide_true, decide_false, List.filter_cons, List.filter_nil, List.nil_append, List.cons_append, Nat.reduceAdd, Nat.add_zero])
    | (refine RegA.split rfl ?_ ?_ <;> (intro hsp; (try simp only [Bool.not_eq_true', Bool.not_eq_false', decide_eq_true_eq, decide_eq_false_iff_not, Decidable.not_not, Int.not_lt, Int.not_le, Int.natCast_inj, Bool.and_eq_true, Bool.or_eq_true, Bool.not_not, ne_eq] at hsp); simp (disch := omega) only [List.length_replicate, List.length_map, Nat.reduceBEq, Bool.not_false, Bool.not_true, ↓reduceIte, Bool.false_eq_true, BEq.rfl, put1, skip1, frOf, know, vv, one, del, decide_true, decide_false, List.filter_cons, List.filter_nil, List.nil_append, List.cons_append, Nat.reduceAdd, Nat.add_zero]))
    | (apply DrawA.op' (hd := rfl); (simp only [List.length_cons, List.length_nil, Nat.reduceMul, Nat.reduceAdd]; rfl); (simp only [Bool.not_false, Bool.not_true, Eng.mk, Eng.put1, Eng.skip1, frOf, vv, one, del, List.filter_cons, List.filter_nil, List.nil_append, List.cons_append, Nat.reduceAdd, Nat.reduceMul, Nat.add_zero, List.length_nil, List.length_cons, List.getD_cons_zero, List.getD_cons_succ, List.contains_cons, List.contains_nil, Nat.reduceBEq, BEq.rfl, Bool.or_false, Bool.false_or, Bool.or_true, Bool.true_or, Bool.false_eq_true, ↓reduceIte, if_false, if_true, allIn, List.range, List.range.loop]; rfl); (first | exact trivial | rfl | exact congrArg some ‹_› | (simp (disch := omega) only [boolV, lk, ↓reduceIte, Nat.reduceEqDiff, decide_true, decide_false]; done)); (simp (disch := omega) only [binX, List.replicate_succ, List.set_cons_zero, List.set_cons_succ, List.drop_replicate, Nat.sub_self, List.length_replicate, true_or, or_true, or_false, List.replicate_zero, List.nil_append, List.append_nil, maxLen, List.length_append, List.length_take, List.length_drop, Nat.min_self, List.take_length, Option.getD_some, Option.getD_none, Option.isSome_some, Option.isSome_none, forall_const, Bool.false_eq_true, false_implies, imp_self, implies_true, decide_true, decide_false, dropMap, takeMap, effect, callEff, evO, evP, evL, argL, argX, dataL, plain, plainC, plainL, lk, one, vv, one1, isNil, binV, unV, cvV, load1, store1, fieldOf, cellsOf, cellsAt, asVal, shift, partOf, dataC, elemsC, app1, cop1, len1, mslice1, bslice1, rowsA, build1, fillA, idx1, index1, slice1, optInt, addrAt, cutC, putAt, allD, dv, spl, boolV, Option.map_some, Option.bind_some, Option.map_none, Option.bind_none, ↓reduceIte, Bool.not_true, Bool.not_false, Bool.false_eq_true, and_true, true_and, Option.some.injEq, List.length_map, Nat.reduceEqDiff, Nat.reduceLeDiff, Nat.reduceAdd, Int.reduceLT, Int.reduceLE, Int.reduceToNat, Int.toNat_natCast, List.length_cons, List.length_nil, List.take_succ_cons, List.take_zero, List.drop_zero, List.map_cons, List.map_nil, Nat.zero_add, Nat.le_refl, List.getD_cons_zero, List.getD_cons_succ, bt4, ti3, ti23, ti34, getD_num, ite_and, ite_le, ite_lt, ite_eq, ite_lei, ite_lti, ite_nei, IntWalk.i64_in]; first | rfl | done); rfl; rfl; simp only [List.nil_append, List.cons_append])
    | (apply DrawA.nil'; (simp only [List.length_cons, List.length_nil, Nat.reduceMul, Nat.reduceAdd]; rfl); (simp only [Bool.not_false, Bool.not_true, mkAll, Eng.put1, Eng.skip1, frOf, vv, one, del, List.filter_cons, List.filter_nil, List.nil_append, List.cons_append, Nat.reduceAdd, Nat.reduceMul, Nat.add_zero, List.length_nil, List.length_cons, List.getD_cons_zero, List.getD_cons_succ, List.contains_cons, List.contains_nil, Nat.reduceBEq, BEq.rfl, Bool.or_false, Bool.false_or, Bool.or_true, Bool.true_or, Bool.false_eq_true, ↓reduceIte, if_false, if_true, allIn, List.range, List.range.loop]; rfl); assumption)
    | (refine RegA.done ‹_› ?_)
    | (refine awp_seq fun K hK => ?_)
    | (refine Awp.reg ?_)
    | (refine Awp.skip ?_)
    | (refine Awp.block ?_)
    | (refine Awp.scope ?_)
    | (refine Awp.ct rfl ?_)
    | (refine Awp.cf rfl ?_)
    | (refine Awp.ct (congrArg some (congrArg Value.bool ?_)) ?_; focus (simp (disch := omega) only [decide_eq_true_eq, decide_eq_false_iff_not, Bool.not_eq_true', Bool.not_eq_false', decide_true, decide_false, Bool.not_true, Bool.not_false, bt4, ti3, ti23, ti34, getD_num, ite_and, ite_le, ite_lt, ite_eq, ite_lei, ite_lti, ite_nei, IntWalk.i64_in]; done))
    | (refine Awp.cf (congrArg some (congrArg Value.bool ?_)) ?_; focus (simp (disch := omega) only [decide_eq_true_eq, decide_eq_false_iff_not, Bool.not_eq_true', Bool.not_eq_false', decide_true, decide_false, Bool.not_true, Bool.not_false, bt4, ti3, ti23, ti34, getD_num, ite_and, ite_le, ite_lt, ite_eq, ite_lei, ite_lti, ite_nei, IntWalk.i64_in]; done))
    | (refine Awp.cond rfl ?_ ?_ <;> (intro hsp; (try simp only [Bool.not_eq_true', Bool.not_eq_false', decide_eq_true_eq, decide_eq_false_iff_not, Decidable.not_not, Int.not_lt, Int.not_le, Int.natCast_inj, Bool.and_eq_true, Bool.or_eq_true, Bool.not_not, ne_eq] at hsp)))
    | (refine Awp.exit ?_; simp only [blockQ, thenQ, scopeQ, ↓reduceIte, Nat.reduceEqDiff])
    | (refine viaK ‹_› ?_)
    | (simp only [thenQ_normal, blockQ_normal])))
  all_goals (refine Awp.ret ?_; apply ret_of (.inl rfl); rfl; (simp (disch := omega) only [outXs, outX, outC, outL, lk, ↓reduceIte, Nat.reduceEqDiff, List.length_map, List.length_nil, List.length_replicate, List.length_cons, List.length_take, List.length_drop, List.length_append, ite_eq, Option.map_some, Bool.false_eq_true]; rfl); (focus simp [ownsX, ownsC]); simp [laxR, laxX, laxC, rB, rN, rO, *] <;> (intros; omega))
set_option maxHeartbeats 4000000 in
set_option maxRecDepth 10000 in
theorem con18 (l : List Int) : Con Try.prog 18 [sN .u64 l] [rB (decide (2100 < (l.length : Int)))] := by
  refine con_of_awp hmix Try.func18 s18 rfl (by rw [n18]; simp) r18 n18 ?_
  simp only [Eng.start, startFr, inX, sN, vN, c18]
  (repeat' (first
    | (apply RegA.op (hd := rfl); (first | exact trivial | rfl | exact congrArg some ‹_› | (simp (disch := omega) only [boolV, lk, ↓reduceIte, Nat.reduceEqDiff, decide_true, decide_false]; done)); (simp (disch := omega) only [binX, List.replicate_succ, List.set_cons_zero, List.set_cons_succ, List.drop_replicate, Nat.sub_self, List.length_replicate, true_or, or_true, or_false, List.replicate_zero, List.nil_append, List.append_nil, maxLen, List.length_append, List.length_take, List.length_drop, Nat.min_self, List.take_length, Option.getD_some, Option.getD_none, Option.isSome_some, Option.isSome_none, forall_const, Bool.false_eq_true, false_implies, imp_self, implies_true, decide_true, decide_false, dropMap, takeMap, effect, callEff, evO, evP, evL, argL, argX, dataL, plain, plainC, plainL, lk, one, vv, one1, isNil, binV, unV, cvV, load1, store1, fieldOf, cellsOf, cellsAt, asVal, shift, partOf, dataC, elemsC, app1, cop1, len1, mslice1, bslice1, rowsA, build1, fillA, idx1, index1, slice1, optInt, addrAt, cutC, putAt, allD, dv, spl, boolV, Option.map_some, Option.bind_some, Option.map_none, Option.bind_none, ↓reduceIte, Bool.not_true, Bool.not_false, Bool.false_eq_true, and_true, true_and, Option.some.injEq, List.length_map, Nat.reduceEqDiff, Nat.reduceLeDiff, Nat.reduceAdd, Int.reduceLT, Int.reduceLE, Int.reduceToNat, Int.toNat_natCast, List.length_cons, List.length_nil, List.take_succ_cons, List.take_zero, List.drop_zero, List.map_cons, List.map_nil, Nat.zero_add, Nat.le_refl, List.getD_cons_zero, List.getD_cons_succ, bt4, ti3, ti23, ti34, getD_num, ite_and, ite_le, ite_lt, ite_eq, ite_lei, ite_lti, ite_nei, IntWalk.i64_in]; first | rfl | done); simp (disch := omega) only [List.length_replicate, List.length_map, Nat.reduceBEq, Bool.not_false, Bool.not_true, ↓reduceIte, Bool.false_eq_true, BEq.rfl, put1, skip1, frOf, know, vv, one, del, decide_true, decide_false, List.filter_cons, List.filter_nil, List.nil_append, List.cons_append, Nat.reduceAdd, Nat.add_zero])
    | (refine RegA.off rfl rfl ?_; simp (disch := omega) only [List.length_replicate, List.length_map, Nat.reduceBEq, Bool.not_false, Bool.not_true, ↓reduceIte, Bool.false_eq_true, BEq.rfl, put1, skip1, frOf, know, vv, one, del, decide_true, decide_false, List.filter_cons, List.filter_nil, List.nil_append, List.cons_append, Nat.reduceAdd, Nat.add_zero])
    | (refine RegA.split rfl ?_ ?_ <;> (intro hsp; (try simp only [Bool.not_eq_true', Bool.not_eq_false', decide_eq_true_eq, decide_eq_false_iff_not, Decidable.not_not, Int.not_lt, Int.not_le, Int.natCast_inj, Bool.and_eq_true, Bool.or_eq_true, Bool.not_not, ne_eq] at hsp); simp (disch := omega) only [List.length_replicate, List.length_map, Nat.reduceBEq, Bool.not_false, Bool.not_true, ↓reduceIte, Bool.false_eq_true, BEq.rfl, put1, skip1, frOf, know, vv, one, del, decide_true, decide_false, List.filter_cons, List.filter_nil, List.nil_append, List.cons_append, Nat.reduceAdd, Nat.add_zero]))
    | (apply DrawA.op' (hd := rfl); (simp only [List.length_cons, List.length_nil, Nat.reduceMul, Nat.reduceAdd]; rfl); (simp only [Bool.not_false, Bool.not_true, Eng.mk, Eng.put1, Eng.skip1, frOf, vv, one, del, List.filter_cons, List.filter_nil, List.nil_append, List.cons_append, Nat.reduceAdd, Nat.reduceMul, Nat.add_zero, List.length_nil, List.length_cons, List.getD_cons_zero, List.getD_cons_succ, List.contains_cons, List.contains_nil, Nat.reduceBEq, BEq.rfl, Bool.or_false, Bool.false_or, Bool.or_true, Bool.true_or, Bool.false_eq_true, ↓reduceIte, if_false, if_true, allIn, List.range, List.range.loop]; rfl); (first | exact trivial | rfl | exact congrArg some ‹_› | (simp (disch := omega) only [boolV, lk, ↓reduceIte, Nat.reduceEqDiff, decide_true, decide_false]; done)); (simp (disch := omega) only [binX, List.replicate_succ, List.set_cons_zero, List.set_cons_succ, List.drop_replicate, Nat.sub_self, List.length_replicate, true_or, or_true, or_false, List.replicate_zero, List.nil_append, List.append_nil, maxLen, List.length_append, List.length_take, List.length_drop, Nat.min_self, List.take_length, Option.getD_some, Option.getD_none, Option.isSome_some, Option.isSome_none, forall_const, Bool.false_eq_true, false_implies, imp_self, implies_true, decide_true, decide_false, dropMap, takeMap, effect, callEff, evO, evP, evL, argL, argX, dataL, plain, plainC, plainL, lk, one, vv, one1, isNil, binV, unV, cvV, load1, store1, fieldOf, cellsOf, cellsAt, asVal, shift, partOf, dataC, elemsC, app1, cop1, len1, mslice1, bslice1, rowsA, build1, fillA, idx1, index1, slice1, optInt, addrAt, cutC, putAt, allD, dv, spl, boolV, Option.map_some, Option.bind_some, Option.map_none, Option.bind_none, ↓reduceIte, Bool.not_true, Bool.not_false, Bool.false_eq_true, and_true, true_and, Option.some.injEq, List.length_map, Nat.reduceEqDiff, Nat.reduceLeDiff, Nat.reduceAdd, Int.reduceLT, Int.reduceLE, Int.reduceToNat, Int.toNat_natCast, List.length_cons, List.length_nil, List.take_succ_cons, List.take_zero, List.drop_zero, List.map_cons, List.map_nil, Nat.zero_add, Nat.le_refl, List.getD_cons_zero, List.getD_cons_succ, bt4, ti3, ti23, ti34, getD_num, ite_and, ite_le, ite_lt, ite_eq, ite_lei, ite_lti, ite_nei, IntWalk.i64_in]; first | rfl | done); rfl; rfl; simp only [List.nil_append, List.cons_append])
    | (apply DrawA.nil'; (simp only [List.length_cons, List.length_nil, Nat.reduceMul, Nat.reduceAdd]; rfl); (simp only [Bool.not_false, Bool.not_true, mkAll, Eng.put1, Eng.skip1, frOf, vv, one, del, List.filter_cons, List.filter_nil, List.nil_append, List.cons_append, Nat.reduceAdd, Nat.reduceMul, Nat.add_zero, List.length_nil, List.length_cons, List.getD_cons_zero, List.getD_cons_succ, List.contains_cons, List.contains_nil, Nat.reduceBEq, BEq.rfl, Bool.or_false, Bool.false_or, Bool.or_true, Bool.true_or, Bool.false_eq_true, ↓reduceIte, if_false, if_true, allIn, List.range, List.range.loop]; rfl); assumption)
    | (refine RegA.done ‹_› ?_)
    | (refine awp_seq fun K hK => ?_)
    | (refine Awp.reg ?_)
    | (refine Awp.skip ?_)
    | (refine Awp.block ?_)
    | (refine Awp.scope ?_)
    | (refine Awp.ct rfl ?_)
    | (refine Awp.cf rfl ?_)
    | (refine Awp.ct (congrArg some (congrArg Value.bool ?_)) ?_; focus (simp (disch := omega) only [decide_eq_true_eq, decide_eq_false_iff_not, Bool.not_eq_true', Bool.not_eq_false', decide_true, decide_false, Bool.not_true, Bool.not_false, bt4, ti3, ti23, ti34, getD_num, ite_and, ite_le, ite_lt, ite_eq, ite_lei, ite_lti, ite_nei, IntWalk.i64_in]; done))
    | (refine Awp.cf (congrArg some (congrArg Value.bool ?_)) ?_; focus (simp (disch := omega) only [decide_eq_true_eq, decide_eq_false_iff_not, Bool.not_eq_true', Bool.not_eq_false', decide_true, decide_false, Bool.not_true, Bool.not_false, bt4, ti3, ti23, ti34, getD_num, ite_and, ite_le, ite_lt, ite_eq, ite_lei, ite_lti, ite_nei, IntWalk.i64_in]; done))
    | (refine Awp.cond rfl ?_ ?_ <;> (intro hsp; (try simp only [Bool.not_eq_true', Bool.not_eq_false', decide_eq_true_eq, decide_eq_false_iff_not, Decidable.not_not, Int.not_lt, Int.not_le, Int.natCast_inj, Bool.and_eq_true, Bool.or_eq_true, Bool.not_not, ne_eq] at hsp)))
    | (refine Awp.exit ?_; simp only [blockQ, thenQ, scopeQ, ↓reduceIte, Nat.reduceEqDiff])
    | (refine viaK ‹_› ?_)
    | (simp only [thenQ_normal, blockQ_normal])))
  all_goals (refine Awp.ret ?_; apply ret_of (.inl rfl); rfl; (simp (disch := omega) only [outXs, outX, outC, outL, lk, ↓reduceIte, Nat.reduceEqDiff, List.length_map, List.length_nil, List.length_replicate, List.length_cons, List.length_take, List.length_drop, List.length_append, ite_eq, Option.map_some, Bool.false_eq_true]; rfl); (focus simp [ownsX, ownsC]); simp [laxR, laxX, laxC, rB, rN, rO, *] <;> (intros; omega))
set_option maxHeartbeats 4000000 in
set_option maxRecDepth 10000 in
theorem con15 (l : List Int) : Con Try.prog 15 [sN .u64 l] [rN .i64 (chk l.length)] := by
  refine con_of_awp hmix Try.func15 s15 rfl (by rw [n15]; simp) r15 n15 ?_
  simp only [Eng.start, startFr, inX, sN, vN, c15]
  (repeat' (first
    | (apply RegA.op (hd := rfl); (first | exact trivial | rfl | exact congrArg some ‹_› | (simp (disch := omega) only [boolV, lk, ↓reduceIte, Nat.reduceEqDiff, decide_true, decide_false]; done)); (simp (disch := omega) only [binX, List.replicate_succ, List.set_cons_zero, List.set_cons_succ, List.drop_replicate, Nat.sub_self, List.length_replicate, true_or, or_true, or_false, List.replicate_zero, List.nil_append, List.append_nil, maxLen, List.length_append, List.length_take, List.length_drop, Nat.min_self, List.take_length, Option.getD_some, Option.getD_none, Option.isSome_some, Option.isSome_none, forall_const, Bool.false_eq_true, false_implies, imp_self, implies_true, decide_true, decide_false, dropMap, takeMap, effect, callEff, evO, evP, evL, argL, argX, dataL, plain, plainC, plainL, lk, one, vv, one1, isNil, binV, unV, cvV, load1, store1, fieldOf, cellsOf, cellsAt, asVal, shift, partOf, dataC, elemsC, app1, cop1, len1, mslice1, bslice1, rowsA, build1, fillA, idx1, index1, slice1, optInt, addrAt, cutC, putAt, allD, dv, spl, boolV, Option.map_some, Option.bind_some, Option.map_none, Option.bind_none, ↓reduceIte, Bool.not_true, Bool.not_false, Bool.false_eq_true, and_true, true_and, Option.some.injEq, List.length_map, Nat.reduceEqDiff, Nat.reduceLeDiff, Nat.reduceAdd, Int.reduceLT, Int.reduceLE, Int.reduceToNat, Int.toNat_natCast, List.length_cons, List.length_nil, List.take_succ_cons, List.take_zero, List.drop_zero, List.map_cons, List.map_nil, Nat.zero_add, Nat.le_refl, List.getD_cons_zero, List.getD_cons_succ, bt4, ti3, ti23, ti34, getD_num, ite_and, ite_le, ite_lt, ite_eq, ite_lei, ite_lti, ite_nei, IntWalk.i64_in]; first | rfl | done); simp (disch := omega) only [List.length_replicate, List.length_map, Nat.reduceBEq, Bool.not_false, Bool.not_true, ↓reduceIte, Bool.false_eq_true, BEq.rfl, put1, skip1, frOf, know, vv, one, del, decide_true, decide_false, List.filter_cons, List.filter_nil, List.nil_append, List.cons_append, Nat.reduceAdd, Nat.add_zero])
    | (apply RegA.call (hd := rfl) (fz := true) (hfz := .inl rfl); (first | exact trivial | rfl | exact congrArg some ‹_› | (simp (disch := omega) only [boolV, lk, ↓reduceIte, Nat.reduceEqDiff, decide_true, decide_false]; done)); (simp (disch := omega) only [binX, List.replicate_succ, List.set_cons_zero, List.set_cons_succ, List.drop_replicate, Nat.sub_self, List.length_replicate, true_or, or_true, or_false, List.replicate_zero, List.nil_append, List.append_nil, maxLen, List.length_append, List.length_take, List.length_drop, Nat.min_self, List.take_length, Option.getD_some, Option.getD_none, Option.isSome_some, Option.isSome_none, forall_const, Bool.false_eq_true, false_implies, imp_self, implies_true, decide_true, decide_false, dropMap, takeMap, effect, callEff, evO, evP, evL, argL, argX, dataL, plain, plainC, plainL, lk, one, vv, one1, isNil, binV, unV, cvV, load1, store1, fieldOf, cellsOf, cellsAt, asVal, shift, partOf, dataC, elemsC, app1, cop1, len1, mslice1, bslice1, rowsA, build1, fillA, idx1, index1, slice1, optInt, addrAt, cutC, putAt, allD, dv, spl, boolV, Option.map_some, Option.bind_some, Option.map_none, Option.bind_none, ↓reduceIte, Bool.not_true, Bool.not_false, Bool.false_eq_true, and_true, true_and, Option.some.injEq, List.length_map, Nat.reduceEqDiff, Nat.reduceLeDiff, Nat.reduceAdd, Int.reduceLT, Int.reduceLE, Int.reduceToNat, Int.toNat_natCast, List.length_cons, List.length_nil, List.take_succ_cons, List.take_zero, List.drop_zero, List.map_cons, List.map_nil, Nat.zero_add, Nat.le_refl, List.getD_cons_zero, List.getD_cons_succ, bt4, ti3, ti23, ti34, getD_num, ite_and, ite_le, ite_lt, ite_eq, ite_lei, ite_lti, ite_nei, IntWalk.i64_in]; first | rfl | done); (simp (disch := omega) only [binX, List.replicate_succ, List.set_cons_zero, List.set_cons_succ, List.drop_replicate, Nat.sub_self, List.length_replicate, true_or, or_true, or_false, List.replicate_zero, List.nil_append, List.append_nil, maxLen, List.length_append, List.length_take, List.length_drop, Nat.min_self, List.take_length, Option.getD_some, Option.getD_none, Option.isSome_some, Option.isSome_none, forall_const, Bool.false_eq_true, false_implies, imp_self, implies_true, decide_true, decide_false, dropMap, takeMap, effect, callEff, evO, evP, evL, argL, argX, dataL, plain, plainC, plainL, lk, one, vv, one1, isNil, binV, unV, cvV, load1, store1, fieldOf, cellsOf, cellsAt, asVal, shift, partOf, dataC, elemsC, app1, cop1, len1, mslice1, bslice1, rowsA, build1, fillA, idx1, index1, slice1, optInt, addrAt, cutC, putAt, allD, dv, spl, boolV, Option.map_some, Option.bind_some, Option.map_none, Option.bind_none, ↓reduceIte, Bool.not_true, Bool.not_false, Bool.false_eq_true, and_true, true_and, Option.some.injEq, List.length_map, Nat.reduceEqDiff, Nat.reduceLeDiff, Nat.reduceAdd, Int.reduceLT, Int.reduceLE, Int.reduceToNat, Int.toNat_natCast, List.length_cons, List.length_nil, List.take_succ_cons, List.take_zero, List.drop_zero, List.map_cons, List.map_nil, Nat.zero_add, Nat.le_refl, List.getD_cons_zero, List.getD_cons_succ, bt4, ti3, ti23, ti34, getD_num, ite_and, ite_le, ite_lt, ite_eq, ite_lei, ite_lti, ite_nei, IntWalk.i64_in]; first | rfl | done); (exact con27 _); simp (disch := omega) only [List.length_replicate, List.length_map, Nat.reduceBEq, Bool.not_false, Bool.not_true, ↓reduceIte, Bool.false_eq_true, BEq.rfl, put1, skip1, frOf, know, vv, one, del, decide_true, decide_false, List.filter_cons, List.filter_nil, List.nil_append, List.cons_append, Nat.reduceAdd, Nat.add_zero]; simp only [callHp, frz, rB, rN, rO, unV', unX, unXs, unC, List.flatMap_cons, List.flatMap_nil, idsX, idsC, List.append_nil, ↓reduceIte, List.nil_append, List.cons_append, lk, Nat.reduceEqDiff, Nat.reduceAdd, List.length_map, List.length_cons, List.length_nil])
    | (refine RegA.off rfl rfl ?_; simp (disch := omega) only [List.length_replicate, List.length_map, Nat.reduceBEq, Bool.not_false, Bool.not_true, ↓reduceIte, Bool.false_eq_true, BEq.rfl, put1, skip1, frOf, know, vv, one, del, decide_true, decide_false, List.filter_cons, List.filter_nil, List.nil_append, List.cons_append, Nat.reduceAdd, Nat.add_zero])
    | (refine RegA.split rfl ?_ ?_ <;> (intro hsp; (try simp only [Bool.not_eq_true', Bool.not_eq_false', decide_eq_true_eq, decide_eq_false_iff_not, Decidable.not_not, Int.not_lt, Int.not_le, Int.natCast_inj, Bool.and_eq_true, Bool.or_eq_true, Bool.not_not, ne_eq] at hsp); simp (disch := omega) only [List.length_replicate, List.length_map, Nat.reduceBEq, Bool.not_false, Bool.not_true, ↓reduceIte, Bool.false_eq_true, BEq.rfl, put1, skip1, frOf, know, vv, one, del, decide_true, decide_false, List.filter_cons, List.filter_nil, List.nil_append, List.cons_append, Nat.reduceAdd, Nat.add_zero]))
    | (apply DrawA.op' (hd := rfl); (simp only [List.length_cons, List.length_nil, Nat.reduceMul, Nat.reduceAdd]; rfl); (simp only [Bool.not_false, Bool.not_true, Eng.mk, Eng.put1, Eng.skip1, frOf, vv, one, del, List.filter_cons, List.filter_nil, List.nil_append, List.cons_append, Nat.reduceAdd, Nat.reduceMul, Nat.add_zero, List.length_nil, List.length_cons, List.getD_cons_zero, List.getD_cons_succ, List.contains_cons, List.contains_nil, Nat.reduceBEq, BEq.rfl, Bool.or_false, Bool.false_or, Bool.or_true, Bool.true_or, Bool.false_eq_true, ↓reduceIte, if_false, if_true, allIn, List.range, List.range.loop]; rfl); (first | exact trivial | rfl | exact congrArg some ‹_› | (simp (disch := omega) only [boolV, lk, ↓reduceIte, Nat.reduceEqDiff, decide_true, decide_false]; done)); (simp (disch := omega) only [binX, List.replicate_succ, List.set_cons_zero, List.set_cons_succ, List.drop_replicate, Nat.sub_self, List.length_replicate, true_or, or_true, or_false, List.replicate_zero, List.nil_append, List.append_nil, maxLen, List.length_append, List.length_take, List.length_drop, Nat.min_self, List.take_length, Option.getD_some, Option.getD_none, Option.isSome_some, Option.isSome_none, forall_const, Bool.false_eq_true, false_implies, imp_self, implies_true, decide_true, decide_false, dropMap, takeMap, effect, callEff, evO, evP, evL, argL, argX, dataL, plain, plainC, plainL, lk, one, vv, one1, isNil, binV, unV, cvV, load1, store1, fieldOf, cellsOf, cellsAt, asVal, shift, partOf, dataC, elemsC, app1, cop1, len1, mslice1, bslice1, rowsA, build1, fillA, idx1, index1, slice1, optInt, addrAt, cutC, putAt, allD, dv, spl, boolV, Option.map_some, Option.bind_some, Option.map_none, Option.bind_none, ↓reduceIte, Bool.not_true, Bool.not_false, Bool.false_eq_true, and_true, true_and, Option.some.injEq, List.length_map, Nat.reduceEqDiff, Nat.reduceLeDiff, Nat.reduceAdd, Int.reduceLT, Int.reduceLE, Int.reduceToNat, Int.toNat_natCast, List.length_cons, List.length_nil, List.take_succ_cons, List.take_zero, List.drop_zero, List.map_cons, List.map_nil, Nat.zero_add, Nat.le_refl, List.getD_cons_zero, List.getD_cons_succ, bt4, ti3, ti23, ti34, getD_num, ite_and, ite_le, ite_lt, ite_eq, ite_lei, ite_lti, ite_nei, IntWalk.i64_in]; first | rfl | done); rfl; rfl; simp only [List.nil_append, List.cons_append])
    | (apply DrawA.nil'; (simp only [List.length_cons, List.length_nil, Nat.reduceMul, Nat.reduceAdd]; rfl); (simp only [Bool.not_false, Bool.not_true, mkAll, Eng.put1, Eng.skip1, frOf, vv, one, del, List.filter_cons, List.filter_nil, List.nil_append, List.cons_append, Nat.reduceAdd, Nat.reduceMul, Nat.add_zero, List.length_nil, List.length_cons, List.getD_cons_zero, List.getD_cons_succ, List.contains_cons, List.contains_nil, Nat.reduceBEq, BEq.rfl, Bool.or_false, Bool.false_or, Bool.or_true, Bool.true_or, Bool.false_eq_true, ↓reduceIte, if_false, if_true, allIn, List.range, List.range.loop]; rfl); assumption)
    | (refine RegA.done ‹_› ?_)
    | (refine awp_seq fun K hK => ?_)
    | (refine Awp.reg ?_)
    | (refine Awp.skip ?_)
    | (refine Awp.block ?_)
    | (refine Awp.scope ?_)
    | (refine Awp.ct rfl ?_)
    | (refine Awp.cf rfl ?_)
    | (refine Awp.ct (congrArg some (congrArg Value.bool ?_)) ?_; focus (simp (disch := omega) only [decide_eq_true_eq, decide_eq_false_iff_not, Bool.not_eq_true', Bool.not_eq_false', decide_true, decide_false, Bool.not_true, Bool.not_false, bt4, ti3, ti23, ti34, getD_num, ite_and, ite_le, ite_lt, ite_eq, ite_lei, ite_lti, ite_nei, IntWalk.i64_in]; done))
    | (refine Awp.cf (congrArg some (congrArg Value.bool ?_)) ?_; focus (simp (disch := omega) only [decide_eq_true_eq, decide_eq_false_iff_not, Bool.not_eq_true', Bool.not_eq_false', decide_true, decide_false, Bool.not_true, Bool.not_false, bt4, ti3, ti23, ti34, getD_num, ite_and, ite_le, ite_lt, ite_eq, ite_lei, ite_lti, ite_nei, IntWalk.i64_in]; done))
    | (refine Awp.cond rfl ?_ ?_ <;> (intro hsp; (try simp only [Bool.not_eq_true', Bool.not_eq_false', decide_eq_true_eq, decide_eq_false_iff_not, Decidable.not_not, Int.not_lt, Int.not_le, Int.natCast_inj, Bool.and_eq_true, Bool.or_eq_true, Bool.not_not, ne_eq] at hsp)))
    | (refine Awp.exit ?_; simp only [blockQ, thenQ, scopeQ, ↓reduceIte, Nat.reduceEqDiff])
    | (refine viaK ‹_› ?_)
    | (simp only [thenQ_normal, blockQ_normal])))
  all_goals (refine Awp.ret ?_; apply ret_of (.inl rfl); rfl; (simp (disch := omega) only [outXs, outX, outC, outL, lk, ↓reduceIte, Nat.reduceEqDiff, List.length_map, List.length_nil, List.length_replicate, List.length_cons, List.length_take, List.length_drop, List.length_append, ite_eq, Option.map_some, Bool.false_eq_true]; rfl); (focus simp [ownsX, ownsC]); simp [laxR, laxX, laxC, rB, rN, rO, chk, *] <;> (intros; omega))
set_option maxHeartbeats 4000000 in
set_option maxRecDepth 10000 in
theorem con23 (l : List Int) : Con Try.prog 23 [sN .u64 l] [rN .i64 (chk l.length)] := by
  refine con_of_awp hmix Try.func23 s23 rfl (by rw [n23]; simp) r23 n23 ?_
  simp only [Eng.start, startFr, inX, sN, vN, c23]
  (repeat' (first
    | (apply RegA.op (hd := rfl); (first | exact trivial | rfl | exact congrArg some ‹_› | (simp (disch := omega) only [boolV, lk, ↓reduceIte, Nat.reduceEqDiff, decide_true, decide_false]; done)); (simp (disch := omega) only [binX, List.replicate_succ, List.set_cons_zero, List.set_cons_succ, List.drop_replicate, Nat.sub_self, List.length_replicate, true_or, or_true, or_false, List.replicate_zero, List.nil_append, List.append_nil, maxLen, List.length_append, List.length_take, List.length_drop, Nat.min_self, List.take_length, Option.getD_some, Option.getD_none, Option.isSome_some, Option.isSome_none, forall_const, Bool.false_eq_true, false_implies, imp_self, implies_true, decide_true, decide_false, dropMap, takeMap, effect, callEff, evO, evP, evL, argL, argX, dataL, plain, plainC, plainL, lk, one, vv, one1, isNil, binV, unV, cvV, load1, store1, fieldOf, cellsOf, cellsAt, asVal, shift, partOf, dataC, elemsC, app1, cop1, len1, mslice1, bslice1, rowsA, build1, fillA, idx1, index1, slice1, optInt, addrAt, cutC, putAt, allD, dv, spl, boolV, Option.map_some, Option.bind_some, Option.map_none, Option.bind_none, ↓reduceIte, Bool.not_true, Bool.not_false, Bool.false_eq_true, and_true, true_and, Option.some.injEq, List.length_map, Nat.reduceEqDiff, Nat.reduceLeDiff, Nat.reduceAdd, Int.reduceLT, Int.reduceLE, Int.reduceToNat, Int.toNat_natCast, List.length_cons, List.length_nil, List.take_succ_cons, List.take_zero, List.drop_zero, List.map_cons, List.map_nil, Nat.zero_add, Nat.le_refl, List.getD_cons_zero, List.getD_cons_succ, bt4, ti3, ti23, ti34, getD_num, ite_and, ite_le, ite_lt, ite_eq, ite_lei, ite_lti, ite_nei, IntWalk.i64_in]; first | rfl | done); simp (disch := omega) only [List.length_replicate, List.length_map, Nat.reduceBEq, Bool.not_false, Bool.not_true, ↓reduceIte, Bool.false_eq_true, BEq.rfl, put1, skip1, frOf, know, vv, one, del, decide_true, decide_false, List.filter_cons, List.filter_nil, List.nil_append, List.cons_append, Nat.reduceAdd, Nat.add_zero])
    | (apply RegA.call (hd := rfl) (fz := true) (hfz := .inl rfl); (first | exact trivial | rfl | exact congrArg some ‹_› | (simp (disch := omega) only [boolV, lk, ↓reduceIte, Nat.reduceEqDiff, decide_true, decide_false]; done)); (simp (disch := omega) only [binX, List.replicate_succ, List.set_cons_zero, List.set_cons_succ, List.drop_replicate, Nat.sub_self, List.length_replicate, true_or, or_true, or_false, List.replicate_zero, List.nil_append, List.append_nil, maxLen, List.length_append, List.length_take, List.length_drop, Nat.min_self, List.take_length, Option.getD_some, Option.getD_none, Option.isSome_some, Option.isSome_none, forall_const, Bool.false_eq_true, false_implies, imp_self, implies_true, decide_true, decide_false, dropMap, takeMap, effect, callEff, evO, evP, evL, argL, argX, dataL, plain, plainC, plainL, lk, one, vv, one1, isNil, binV, unV, cvV, load1, store1, fieldOf, cellsOf, cellsAt, asVal, shift, partOf, dataC, elemsC, app1, cop1, len1, mslice1, bslice1, rowsA, build1, fillA, idx1, index1, slice1, optInt, addrAt, cutC, putAt, allD, dv, spl, boolV, Option.map_some, Option.bind_some, Option.map_none, Option.bind_none, ↓reduceIte, Bool.not_true, Bool.not_false, Bool.false_eq_true, and_true, true_and, Option.some.injEq, List.length_map, Nat.reduceEqDiff, Nat.reduceLeDiff, Nat.reduceAdd, Int.reduceLT, Int.reduceLE, Int.reduceToNat, Int.toNat_natCast, List.length_cons, List.length_nil, List.take_succ_cons, List.take_zero, List.drop_zero, List.map_cons, List.map_nil, Nat.zero_add, Nat.le_refl, List.getD_cons_zero, List.getD_cons_succ, bt4, ti3, ti23, ti34, getD_num, ite_and, ite_le, ite_lt, ite_eq, ite_lei, ite_lti, ite_nei, IntWalk.i64_in]; first | rfl | done); (simp (disch := omega) only [binX, List.replicate_succ, List.set_cons_zero, List.set_cons_succ, List.drop_replicate, Nat.sub_self, List.length_replicate, true_or, or_true, or_false, List.replicate_zero, List.nil_append, List.append_nil, maxLen, List.length_append, List.length_take, List.length_drop, Nat.min_self, List.take_length, Option.getD_some, Option.getD_none, Option.isSome_some, Option.isSome_none, forall_const, Bool.false_eq_true, false_implies, imp_self, implies_true, decide_true, decide_false, dropMap, takeMap, effect, callEff, evO, evP, evL, argL, argX, dataL, plain, plainC, plainL, lk, one, vv, one1, isNil, binV, unV, cvV, load1, store1, fieldOf, cellsOf, cellsAt, asVal, shift, partOf, dataC, elemsC, app1, cop1, len1, mslice1, bslice1, rowsA, build1, fillA, idx1, index1, slice1, optInt, addrAt, cutC, putAt, allD, dv, spl, boolV, Option.map_some, Option.bind_some, Option.map_none, Option.bind_none, ↓reduceIte, Bool.not_true, Bool.not_false, Bool.false_eq_true, and_true, true_and, Option.some.injEq, List.length_map, Nat.reduceEqDiff, Nat.reduceLeDiff, Nat.reduceAdd, Int.reduceLT, Int.reduceLE, Int.reduceToNat, Int.toNat_natCast, List.length_cons, List.length_nil, List.take_succ_cons, List.take_zero, List.drop_zero, List.map_cons, List.map_nil, Nat.zero_add, Nat.le_refl, List.getD_cons_zero, List.getD_cons_succ, bt4, ti3, ti23, ti34, getD_num, ite_and, ite_le, ite_lt, ite_eq, ite_lei, ite_lti, ite_nei, IntWalk.i64_in]; first | rfl | done); (exact con31 _); simp (disch := omega) only [List.length_replicate, List.length_map, Nat.reduceBEq, Bool.not_false, Bool.not_true, ↓reduceIte, Bool.false_eq_true, BEq.rfl, put1, skip1, frOf, know, vv, one, del, decide_true, decide_false, List.filter_cons, List.filter_nil, List.nil_append, List.cons_append, Nat.reduceAdd, Nat.add_zero]; simp only [callHp, frz, rB, rN, rO, unV', unX, unXs, unC, List.flatMap_cons, List.flatMap_nil, idsX, idsC, List.append_nil, ↓reduceIte, List.nil_append, List.cons_append, lk, Nat.reduceEqDiff, Nat.reduceAdd, List.length_map, List.length_cons, List.length_nil])
    | (refine RegA.off rfl rfl ?_; simp (disch := omega) only [List.length_replicate, List.length_map, Nat.reduceBEq, Bool.not_false, Bool.not_true, ↓reduceIte, Bool.false_eq_true, BEq.rfl, put1, skip1, frOf, know, vv, one, del, decide_true, decide_false, List.filter_cons, List.filter_nil, List.nil_append, List.cons_append, Nat.reduceAdd, Nat.add_zero])
    | (refine RegA.split rfl ?_ ?_ <;> (intro hsp; (try simp only [Bool.not_eq_true', Bool.not_eq_false', decide_eq_true_eq, decide_eq_false_iff_not, Decidable.not_not, Int.not_lt, Int.not_le, Int.natCast_inj, Bool.and_eq_true, Bool.or_eq_true, Bool.not_not, ne_eq] at hsp); simp (disch := omega) only [List.length_replicate, List.length_map, Nat.reduceBEq, Bool.not_false, Bool.not_true, ↓reduceIte, Bool.false_eq_true, BEq.rfl, put1, skip1, frOf, know, vv, one, del, decide_true, decide_false, List.filter_cons, List.filter_nil, List.nil_append, List.cons_append, Nat.reduceAdd, Nat.add_zero]))
    | (apply DrawA.op' (hd := rfl); (simp only [List.length_cons, List.length_nil, Nat.reduceMul, Nat.reduceAdd]; rfl); (simp only [Bool.not_false, Bool.not_true, Eng.mk, Eng.put1, Eng.skip1, frOf, vv, one, del, List.filter_cons, List.filter_nil, List.nil_append, List.cons_append, Nat.reduceAdd, Nat.reduceMul, Nat.add_zero, List.length_nil, List.length_cons, List.getD_cons_zero, List.getD_cons_succ, List.contains_cons, List.contains_nil, Nat.reduceBEq, BEq.rfl, Bool.or_false, Bool.false_or, Bool.or_true, Bool.true_or, Bool.false_eq_true, ↓reduceIte, if_false, if_true, allIn, List.range, List.range.loop]; rfl); (first | exact trivial | rfl | exact congrArg some ‹_› | (simp (disch := omega) only [boolV, lk, ↓reduceIte, Nat.reduceEqDiff, decide_true, decide_false]; done)); (simp (disch := omega) only [binX, List.replicate_succ, List.set_cons_zero, List.set_cons_succ, List.drop_replicate, Nat.sub_self, List.length_replicate, true_or, or_true, or_false, List.replicate_zero, List.nil_append, List.append_nil, maxLen, List.length_append, List.length_take, List.length_drop, Nat.min_self, List.take_length, Option.getD_some, Option.getD_none, Option.isSome_some, Option.isSome_none, forall_const, Bool.false_eq_true, false_implies, imp_self, implies_true, decide_true, decide_false, dropMap, takeMap, effect, callEff, evO, evP, evL, argL, argX, dataL, plain, plainC, plainL, lk, one, vv, one1, isNil, binV, unV, cvV, load1, store1, fieldOf, cellsOf, cellsAt, asVal, shift, partOf, dataC, elemsC, app1, cop1, len1, mslice1, bslice1, rowsA, build1, fillA, idx1, index1, slice1, optInt, addrAt, cutC, putAt, allD, dv, spl, boolV, Option.map_some, Option.bind_some, Option.map_none, Option.bind_none, ↓reduceIte, Bool.not_true, Bool.not_false, Bool.false_eq_true, and_true, true_and, Option.some.injEq, List.length_map, Nat.reduceEqDiff, Nat.reduceLeDiff, Nat.reduceAdd, Int.reduceLT, Int.reduceLE, Int.reduceToNat, Int.toNat_natCast, List.length_cons, List.length_nil, List.take_succ_cons, List.take_zero, List.drop_zero, List.map_cons, List.map_nil, Nat.zero_add, Nat.le_refl, List.getD_cons_zero, List.getD_cons_succ, bt4, ti3, ti23, ti34, getD_num, ite_and, ite_le, ite_lt, ite_eq, ite_lei, ite_lti, ite_nei, IntWalk.i64_in]; first | rfl | done); rfl; rfl; simp only [List.nil_append, List.cons_append])
    | (apply DrawA.nil'; (simp only [List.length_cons, List.length_nil, Nat.reduceMul, Nat.reduceAdd]; rfl); (simp only [Bool.not_false, Bool.not_true, mkAll, Eng.put1, Eng.skip1, frOf, vv, one, del, List.filter_cons, List.filter_nil, List.nil_append, List.cons_append, Nat.reduceAdd, Nat.reduceMul, Nat.add_zero, List.length_nil, List.length_cons, List.getD_cons_zero, List.getD_cons_succ, List.contains_cons, List.contains_nil, Nat.reduceBEq, BEq.rfl, Bool.or_false, Bool.false_or, Bool.or_true, Bool.true_or, Bool.false_eq_true, ↓reduceIte, if_false, if_true, allIn, List.range, List.range.loop]; rfl); assumption)
    | (refine RegA.done ‹_› ?_)
    | (refine awp_seq fun K hK => ?_)
    | (refine Awp.reg ?_)
    | (refine Awp.skip ?_)
    | (refine Awp.block ?_)
    | (refine Awp.scope ?_)
    | (refine Awp.ct rfl ?_)
    | (refine Awp.cf rfl ?_)
    | (refine Awp.ct (congrArg some (congrArg Value.bool ?_)) ?_; focus (simp (disch := omega) only [decide_eq_true_eq, decide_eq_false_iff_not, Bool.not_eq_true', Bool.not_eq_false', decide_true, decide_false, Bool.not_true, Bool.not_false, bt4, ti3, ti23, ti34, getD_num, ite_and, ite_le, ite_lt, ite_eq, ite_lei, ite_lti, ite_nei, IntWalk.i64_in]; done))
    | (refine Awp.cf (congrArg some (congrArg Value.bool ?_)) ?_; focus (simp (disch := omega) only [decide_eq_true_eq, decide_eq_false_iff_not, Bool.not_eq_true', Bool.not_eq_false', decide_true, decide_false, Bool.not_true, Bool.not_false, bt4, ti3, ti23, ti34, getD_num, ite_and, ite_le, ite_lt, ite_eq, ite_lei, ite_lti, ite_nei, IntWalk.i64_in]; done))
    | (refine Awp.cond rfl ?_ ?_ <;> (intro hsp; (try simp only [Bool.not_eq_true', Bool.not_eq_false', decide_eq_true_eq, decide_eq_false_iff_not, Decidable.not_not, Int.not_lt, Int.not_le, Int.natCast_inj, Bool.and_eq_true, Bool.or_eq_true, Bool.not_not, ne_eq] at hsp)))
    | (refine Awp.exit ?_; simp only [blockQ, thenQ, scopeQ, ↓reduceIte, Nat.reduceEqDiff])
    | (refine viaK ‹_› ?_)
    | (simp only [thenQ_normal, blockQ_normal])))
  all_goals (refine Awp.ret ?_; apply ret_of (.inl rfl); rfl; (simp (disch := omega) only [outXs, outX, outC, outL, lk, ↓reduceIte, Nat.reduceEqDiff, List.length_map, List.length_nil, List.length_replicate, List.length_cons, List.length_take, List.length_drop, List.length_append, ite_eq, Option.map_some, Bool.false_eq_true]; rfl); (focus simp [ownsX, ownsC]); simp [laxR, laxX, laxC, rB, rN, rO, chk, *] <;> (intros; omega))
end Go.Proofs.Ythknepamlbicmaa
