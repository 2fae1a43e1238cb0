/-
  The contracts of the program's functions, data in, data out. Conditions: those in the statements.
-/
import Derived.Test.YthknepamlbicmaaR4
namespace Go.Proofs.Ythknepamlbicmaa
set_option linter.all false
open Go Go.Proofs.Ythknepamlbicmaa.Eng Go.RowKit
def c26 : SC :=
  .seq
  (.reg
    [.mk (some 4) (.assign (.const (.bool false))) none])
  (.seq
    (.seq
      (.reg
        [.mk (some 6) (.move (.tmp 0)) none,
          .mk (some 7)
            (.call (.mk (.builtin .len) #[.tmp 6] #[22])) none,
          .mk (some 8) (.move (.tmp 1)) none,
          .mk (some 9)
            (.call (.mk (.builtin .len) #[.tmp 8] #[22])) none,
          .mk (some 10) (.binOp .neq 3 (.tmp 7) (.tmp 9) 3)
            none])
      (.cond (.tmp 10)
        (.seq
          (.reg
            [.mk (some 4) (.assign (.const (.bool false))) none])
          .ret)
        .skip))
    (.seq
      (.seq
        (.reg
          [.mk (some 5) (.assign (.const (.int .i64 0))) none])
        (.block 0
          (.loop
            (.seq
              (.seq
                (.reg
                  [.mk (some 11) (.move (.tmp 5)) none,
                    .mk (some 12) (.move (.tmp 0)) none,
                    .mk (some 13)
                      (.call (.mk (.builtin .len) #[.tmp 12] #[22]))
                      none,
                    .mk (some 14) (.binOp .lss 3 (.tmp 11) (.tmp 13) 3)
                      none])
                (.cond (.tmp 14) .skip (.exit 0)))
              (.seq
                (.block 1
                  (.seq
                    (.draw
                      [.mk (some 17) (.move (.tmp 0)) none,
                        .mk (some 18) (.move (.tmp 5)) none,
                        .mk (some 19) (.indexAddr 22 (.tmp 17) (.tmp 18))
                          none,
                        .mk (some 20) (.load 3 (.tmp 19)) none,
                        .mk (some 21) (.move (.tmp 1)) none,
                        .mk (some 22) (.move (.tmp 5)) none,
                        .mk (some 23) (.indexAddr 22 (.tmp 21) (.tmp 22))
                          none,
                        .mk (some 24) (.load 3 (.tmp 23)) none,
                        .mk (some 25)
                          (.binOp .neq 3 (.tmp 20) (.tmp 24) 3) none]
                      [[], [],
                        [0,
                          1],
                        [2], [], [],
                        [4,
                          5],
                        [6],
                        [3,
                          7]])
                    (.cond (.tmp 25)
                      (.seq
                        (.reg
                          [.mk (some 4) (.assign (.const (.bool false)))
                              none])
                        .ret)
                      .skip)))
                (.reg
                  [.mk (some 15) (.move (.tmp 5)) none,
                    .mk (some 16)
                      (.binOp .add 3 (.tmp 15) (.const (.int .i64 1))
                        3)
                      none,
                    .mk (some 5) (.assign (.tmp 16)) none]))))))
      (.seq
        (.reg
          [.mk (some 4) (.assign (.const (.bool true))) none])
        .ret)))
theorem s26 : Try.f26.body.bind slim = some c26 := by kernel_rfl
theorem n26 : Try.f26.ntmps = 26 := rfl
theorem r26 : Try.f26.results.toList = [ResultVar.tmp 4] := rfl

def c17 : SC :=
  .seq
  (.reg
    [.mk (some 0) (.assign (.const (.bool false))) none])
  (.seq
    (.reg
      [.mk (some 11)
          (.call
            (.mk (.value (.func 10)) #[.const (.int .i64 256)]
              #[3]))
          none,
        .mk (some 10) (.move (.tmp 11)) none,
        .mk (some 12) (.extract (.tmp 10) 0) none,
        .mk (some 13) (.extract (.tmp 10) 1) none,
        .mk (some 1) (.assign (.tmp 12)) none,
        .mk (some 2) (.assign (.tmp 13)) none])
    (.seq
      (.reg
        [.mk (some 15) (.move (.tmp 1)) none,
          .mk (some 16)
            (.call
              (.mk (.value (.func 13))
                #[.tmp 15, .const (.int .i64 17)] #[23, 3]))
            none,
          .mk (some 14) (.move (.tmp 16)) none,
          .mk (some 17) (.extract (.tmp 14) 0) none,
          .mk (some 18) (.extract (.tmp 14) 1) none,
          .mk (some 19) (.extract (.tmp 14) 2) none,
          .mk (some 3) (.assign (.tmp 17)) none,
          .mk (some 4) (.assign (.tmp 18)) none,
          .mk (some 5) (.assign (.tmp 19)) none])
      (.seq
        (.reg
          [.mk (some 21) (.move (.tmp 1)) none,
            .mk (some 22)
              (.buildSlice 23 2
                #[(0, .const (.int .u64 5)),
                  (1, .const (.int .u64 6))])
              none,
            .mk (some 23)
              (.call
                (.mk (.value (.func 12))
                  #[.tmp 21, .const (.int .i64 9), .tmp 22]
                  #[23, 3, 23]))
              none,
            .mk (some 20) (.move (.tmp 23)) none,
            .mk (some 24) (.extract (.tmp 20) 0) none,
            .mk (some 25) (.extract (.tmp 20) 1) none,
            .mk (some 6) (.assign (.tmp 24)) none,
            .mk (some 7) (.assign (.tmp 25)) none])
        (.seq
          (.reg
            [.mk (some 27) (.move (.tmp 1)) none,
              .mk (some 28) (.move (.tmp 6)) none,
              .mk (some 29)
                (.call
                  (.mk (.value (.func 14)) #[.tmp 27, .tmp 28] #[23, 23]))
                none,
              .mk (some 26) (.move (.tmp 29)) none,
              .mk (some 30) (.extract (.tmp 26) 0) none,
              .mk (some 31) (.extract (.tmp 26) 1) none,
              .mk (some 8) (.assign (.tmp 30)) none,
              .mk (some 9) (.assign (.tmp 31)) none])
          (.seq
            (.reg
              [.mk (some 32) (.move (.tmp 2)) none,
                .mk (some 33)
                  (.binOp .eql 24 (.tmp 32) (.const (.int .i64 0))
                    24)
                  none,
                .mk (some 34) (.move (.tmp 33)) none,
                .mk (some 35) (.move (.tmp 5)) (some (34, true)),
                .mk (some 36)
                  (.binOp .eql 24 (.tmp 35) (.const (.int .i64 0))
                    24)
                  (some (34, true)),
                .mk (some 37)
                  (.pick (.tmp 34) (.tmp 36) (.const (.bool false)))
                  none,
                .mk (some 38) (.move (.tmp 37)) none,
                .mk (some 39) (.move (.tmp 3)) (some (38, true)),
                .mk (some 40)
                  (.binOp .eql 3 (.tmp 39) (.const (.int .i64 2)) 3)
                  (some (38, true)),
                .mk (some 41)
                  (.pick (.tmp 38) (.tmp 40) (.const (.bool false)))
                  none,
                .mk (some 42) (.move (.tmp 41)) none,
                .mk (some 43) (.move (.tmp 4)) (some (42, true)),
                .mk (some 44)
                  (.binOp .eql 3 (.tmp 43) (.const (.int .i64 16)) 3)
                  (some (42, true)),
                .mk (some 45)
                  (.pick (.tmp 42) (.tmp 44) (.const (.bool false)))
                  none,
                .mk (some 46) (.move (.tmp 45)) none,
                .mk (some 47) (.move (.tmp 7)) (some (46, true)),
                .mk (some 48)
                  (.binOp .eql 24 (.tmp 47) (.const (.int .i64 0))
                    24)
                  (some (46, true)),
                .mk (some 49)
                  (.pick (.tmp 46) (.tmp 48) (.const (.bool false)))
                  none,
                .mk (some 50) (.move (.tmp 49)) none,
                .mk (some 51) (.move (.tmp 9)) (some (50, true)),
                .mk (some 52)
                  (.binOp .eql 24 (.tmp 51) (.const (.int .i64 0))
                    24)
                  (some (50, true)),
                .mk (some 53)
                  (.pick (.tmp 50) (.tmp 52) (.const (.bool false)))
                  none,
                .mk (some 54) (.move (.tmp 53)) none,
                .mk (some 55) (.move (.tmp 8)) (some (54, true)),
                .mk (some 56)
                  (.buildSlice 22 2
                    #[(0, .const (.int .i64 9)),
                      (1, .const (.int .i64 10))])
                  (some (54, true)),
                .mk (some 57)
                  (.call
                    (.mk (.value (.func 26)) #[.tmp 55, .tmp 56]
                      #[22, 22]))
                  (some (54, true)),
                .mk (some 58)
                  (.pick (.tmp 54) (.tmp 57) (.const (.bool false)))
                  none,
                .mk (some 0) (.assign (.tmp 58)) none])
            .ret)))))
theorem s17 : Try.f17.body.bind slim = some c17 := by kernel_rfl
theorem n17 : Try.f17.ntmps = 59 := rfl
theorem r17 : Try.f17.results.toList = [ResultVar.tmp 0] := rfl
def c5 : SC :=
  .seq
  (.reg
    [.mk (some 6) (.assign (.const (.bool false))) none])
  (.seq
    (.seq
      (.reg
        [.mk (some 15) (.move (.tmp 1)) none,
          .mk (some 16)
            (.call (.mk (.value (.func 18)) #[.tmp 15] #[23])) none,
          .mk (some 17) (.move (.tmp 16)) none,
          .mk (some 18) (.move (.tmp 2)) (some (17, false)),
          .mk (some 19)
            (.call (.mk (.value (.func 18)) #[.tmp 18] #[23]))
            (some (17, false)),
          .mk (some 20)
            (.pick (.tmp 17) (.const (.bool true)) (.tmp 19))
            none])
      (.cond (.tmp 20)
        (.seq
          (.reg
            [.mk (some 6) (.assign (.const (.bool true))) none])
          .ret)
        .skip))
    (.seq
      (.reg
        [.mk (some 22) (.move (.tmp 0)) none,
          .mk (some 23)
            (.call (.mk (.value (.func 10)) #[.tmp 22] #[3])) none,
          .mk (some 21) (.move (.tmp 23)) none,
          .mk (some 24) (.extract (.tmp 21) 0) none,
          .mk (some 25) (.extract (.tmp 21) 1) none,
          .mk (some 7) (.assign (.tmp 24)) none,
          .mk (some 8) (.assign (.tmp 25)) none])
      (.seq
        (.reg
          [.mk (some 27) (.move (.tmp 0)) none,
            .mk (some 28)
              (.call (.mk (.value (.func 24)) #[.tmp 27] #[3])) none,
            .mk (some 26) (.move (.tmp 28)) none,
            .mk (some 29) (.extract (.tmp 26) 0) none,
            .mk (some 30) (.extract (.tmp 26) 1) none,
            .mk (some 9) (.assign (.tmp 29)) none,
            .mk (some 10) (.assign (.tmp 30)) none])
        (.seq
          (.reg
            [.mk (some 32) (.move (.tmp 1)) none,
              .mk (some 33) (.move (.tmp 2)) none,
              .mk (some 34)
                (.call
                  (.mk (.value (.func 14)) #[.tmp 32, .tmp 33] #[23, 23]))
                none,
              .mk (some 31) (.move (.tmp 34)) none,
              .mk (some 35) (.extract (.tmp 31) 0) none,
              .mk (some 36) (.extract (.tmp 31) 1) none,
              .mk (some 11) (.assign (.tmp 35)) none,
              .mk (some 12) (.assign (.tmp 36)) none])
          (.seq
            (.reg
              [.mk (some 38) (.move (.tmp 1)) none,
                .mk (some 39) (.move (.tmp 2)) none,
                .mk (some 40)
                  (.call
                    (.mk (.value (.func 25)) #[.tmp 38, .tmp 39]
                      #[23, 23]))
                  none,
                .mk (some 37) (.move (.tmp 40)) none,
                .mk (some 41) (.extract (.tmp 37) 0) none,
                .mk (some 42) (.extract (.tmp 37) 1) none,
                .mk (some 13) (.assign (.tmp 41)) none,
                .mk (some 14) (.assign (.tmp 42)) none])
            (.seq
              (.reg
                [.mk (some 43) (.move (.tmp 7)) none,
                  .mk (some 44) (.move (.tmp 9)) none,
                  .mk (some 45)
                    (.call
                      (.mk (.value (.func 16)) #[.tmp 43, .tmp 44]
                        #[23, 23]))
                    none,
                  .mk (some 46) (.move (.tmp 45)) none,
                  .mk (some 47) (.move (.tmp 8)) (some (46, true)),
                  .mk (some 48) (.move (.tmp 10)) (some (46, true)),
                  .mk (some 49) (.binOp .eql 3 (.tmp 47) (.tmp 48) 3)
                    (some (46, true)),
                  .mk (some 50)
                    (.pick (.tmp 46) (.tmp 49) (.const (.bool false)))
                    none,
                  .mk (some 51) (.move (.tmp 50)) none,
                  .mk (some 52) (.move (.tmp 11)) (some (51, true)),
                  .mk (some 53) (.move (.tmp 13)) (some (51, true)),
                  .mk (some 54)
                    (.call
                      (.mk (.value (.func 26)) #[.tmp 52, .tmp 53]
                        #[22, 22]))
                    (some (51, true)),
                  .mk (some 55)
                    (.pick (.tmp 51) (.tmp 54) (.const (.bool false)))
                    none,
                  .mk (some 56) (.move (.tmp 55)) none,
                  .mk (some 57) (.move (.tmp 12)) (some (56, true)),
                  .mk (some 58) (.move (.tmp 14)) (some (56, true)),
                  .mk (some 59) (.binOp .eql 3 (.tmp 57) (.tmp 58) 3)
                    (some (56, true)),
                  .mk (some 60)
                    (.pick (.tmp 56) (.tmp 59) (.const (.bool false)))
                    none,
                  .mk (some 6) (.assign (.tmp 60)) none])
              .ret))))))
theorem s5 : Try.f5.body.bind slim = some c5 := by kernel_rfl
theorem n5 : Try.f5.ntmps = 61 := rfl
theorem r5 : Try.f5.results.toList = [ResultVar.tmp 6] := rfl

theorem newL_len (n : Int) : (newL n).length ≤ 2048 := by
  unfold newL
  split
  · rename_i h; have := sz_le h; simp; omega
  · simp
theorem diffL_len (a b : List Int) : (diffL a b).length ≤ a.length := by
  unfold diffL
  split
  · exact diffUpto_len _ _ _
  · simp
set_option maxHeartbeats 4000000 in
set_option maxRecDepth 10000 in
theorem con26 (a b : List Int) (ha : a.length ≤ 1000000) : Con Try.prog 26 [sN .i64 a, sN .i64 b] [rB (decide (a = b))] := by
  refine con_of_awp hmix Try.func26 s26 rfl (by rw [n26]; simp) r26 n26 ?_
  simp only [Eng.start, startFr, inX, sN, vN, c26]
  (repeat' (first
    | (apply RegA.op (hd := rfl); (first | exact trivial | rfl | exact congrArg some ‹_› | (simp (disch := omega) only [boolV, lk, ↓reduceIte, Nat.reduceEqDiff, decide_true, decide_false]; done)); (simp (disch := omega) only [binX, List.replicate_succ, List.set_cons_zero, List.set_cons_succ, List.drop_replicate, Nat.sub_self, List.length_replicate, true_or, or_true, or_false, List.replicate_zero, List.nil_append, List.append_nil, maxLen, List.length_append, List.length_take, List.length_drop, Nat.min_self, List.take_length, Option.getD_some, Option.getD_none, Option.isSome_some, Option.isSome_none, forall_const, Bool.false_eq_true, false_implies, imp_self, implies_true, decide_true, decide_false, dropMap, takeMap, effect, callEff, evO, evP, evL, argL, argX, dataL, plain, plainC, plainL, lk, one, vv, one1, isNil, binV, unV, cvV, load1, store1, fieldOf, cellsOf, cellsAt, asVal, shift, partOf, dataC, elemsC, app1, cop1, len1, mslice1, bslice1, rowsA, build1, fillA, idx1, index1, slice1, optInt, addrAt, cutC, putAt, allD, dv, spl, boolV, Option.map_some, Option.bind_some, Option.map_none, Option.bind_none, ↓reduceIte, Bool.not_true, Bool.not_false, Bool.false_eq_true, and_true, true_and, Option.some.injEq, List.length_map, Nat.reduceEqDiff, Nat.reduceLeDiff, Nat.reduceAdd, Int.reduceLT, Int.reduceLE, Int.reduceToNat, Int.toNat_natCast, List.length_cons, List.length_nil, List.take_succ_cons, List.take_zero, List.drop_zero, List.map_cons, List.map_nil, Nat.zero_add, Nat.le_refl, List.getD_cons_zero, List.getD_cons_succ, bt4, ti3, ti23, ti34, getD_num, ite_and, ite_le, ite_lt, ite_eq, ite_lei, ite_lti, ite_nei, IntWalk.i64_in, ti22]; first | rfl | done); simp (disch := omega) only [List.length_replicate, List.length_map, Nat.reduceBEq, Bool.not_false, Bool.not_true, ↓reduceIte, Bool.false_eq_true, BEq.rfl, put1, skip1, frOf, know, vv, one, del, decide_true, decide_false, List.filter_cons, List.filter_nil, List.nil_append, List.cons_append, Nat.reduceAdd, Nat.add_zero])
    | (refine RegA.off rfl rfl ?_; simp (disch := omega) only [List.length_replicate, List.length_map, Nat.reduceBEq, Bool.not_false, Bool.not_true, ↓reduceIte, Bool.false_eq_true, BEq.rfl, put1, skip1, frOf, know, vv, one, del, decide_true, decide_false, List.filter_cons, List.filter_nil, List.nil_append, List.cons_append, Nat.reduceAdd, Nat.add_zero])
    | (refine RegA.split rfl ?_ ?_ <;> (intro hsp; (try simp only [Bool.not_eq_true', Bool.not_eq_false', decide_eq_true_eq, decide_eq_false_iff_not, Decidable.not_not, Int.not_lt, Int.not_le, Int.natCast_inj, Bool.and_eq_true, Bool.or_eq_true, Bool.not_not, ne_eq] at hsp); simp (disch := omega) only [List.length_replicate, List.length_map, Nat.reduceBEq, Bool.not_false, Bool.not_true, ↓reduceIte, Bool.false_eq_true, BEq.rfl, put1, skip1, frOf, know, vv, one, del, decide_true, decide_false, List.filter_cons, List.filter_nil, List.nil_append, List.cons_append, Nat.reduceAdd, Nat.add_zero]))
    | (apply DrawA.op' (hd := rfl); (simp only [List.length_cons, List.length_nil, Nat.reduceMul, Nat.reduceAdd]; rfl); (simp only [Bool.not_false, Bool.not_true, Eng.mk, Eng.put1, Eng.skip1, frOf, vv, one, del, List.filter_cons, List.filter_nil, List.nil_append, List.cons_append, Nat.reduceAdd, Nat.reduceMul, Nat.add_zero, List.length_nil, List.length_cons, List.getD_cons_zero, List.getD_cons_succ, List.contains_cons, List.contains_nil, Nat.reduceBEq, BEq.rfl, Bool.or_false, Bool.false_or, Bool.or_true, Bool.true_or, Bool.false_eq_true, ↓reduceIte, if_false, if_true, allIn, List.range, List.range.loop]; rfl); (first | exact trivial | rfl | exact congrArg some ‹_› | (simp (disch := omega) only [boolV, lk, ↓reduceIte, Nat.reduceEqDiff, decide_true, decide_false]; done)); (simp (disch := omega) only [binX, List.replicate_succ, List.set_cons_zero, List.set_cons_succ, List.drop_replicate, Nat.sub_self, List.length_replicate, true_or, or_true, or_false, List.replicate_zero, List.nil_append, List.append_nil, maxLen, List.length_append, List.length_take, List.length_drop, Nat.min_self, List.take_length, Option.getD_some, Option.getD_none, Option.isSome_some, Option.isSome_none, forall_const, Bool.false_eq_true, false_implies, imp_self, implies_true, decide_true, decide_false, dropMap, takeMap, effect, callEff, evO, evP, evL, argL, argX, dataL, plain, plainC, plainL, lk, one, vv, one1, isNil, binV, unV, cvV, load1, store1, fieldOf, cellsOf, cellsAt, asVal, shift, partOf, dataC, elemsC, app1, cop1, len1, mslice1, bslice1, rowsA, build1, fillA, idx1, index1, slice1, optInt, addrAt, cutC, putAt, allD, dv, spl, boolV, Option.map_some, Option.bind_some, Option.map_none, Option.bind_none, ↓reduceIte, Bool.not_true, Bool.not_false, Bool.false_eq_true, and_true, true_and, Option.some.injEq, List.length_map, Nat.reduceEqDiff, Nat.reduceLeDiff, Nat.reduceAdd, Int.reduceLT, Int.reduceLE, Int.reduceToNat, Int.toNat_natCast, List.length_cons, List.length_nil, List.take_succ_cons, List.take_zero, List.drop_zero, List.map_cons, List.map_nil, Nat.zero_add, Nat.le_refl, List.getD_cons_zero, List.getD_cons_succ, bt4, ti3, ti23, ti34, getD_num, ite_and, ite_le, ite_lt, ite_eq, ite_lei, ite_lti, ite_nei, IntWalk.i64_in, ti22]; first | rfl | done); rfl; rfl; simp only [List.nil_append, List.cons_append])
    | (apply DrawA.nil'; (simp only [List.length_cons, List.length_nil, Nat.reduceMul, Nat.reduceAdd]; rfl); (simp only [Bool.not_false, Bool.not_true, mkAll, Eng.put1, Eng.skip1, frOf, vv, one, del, List.filter_cons, List.filter_nil, List.nil_append, List.cons_append, Nat.reduceAdd, Nat.reduceMul, Nat.add_zero, List.length_nil, List.length_cons, List.getD_cons_zero, List.getD_cons_succ, List.contains_cons, List.contains_nil, Nat.reduceBEq, BEq.rfl, Bool.or_false, Bool.false_or, Bool.or_true, Bool.true_or, Bool.false_eq_true, ↓reduceIte, if_false, if_true, allIn, List.range, List.range.loop]; rfl); assumption)
    | (refine RegA.done ‹_› ?_)
    | (refine awp_seq fun K hK => ?_)
    | (refine Awp.reg ?_)
    | (refine Awp.draw' (A := [[], [], [0, 1], [2, 0, 1], [], [], [4, 5], [6, 4, 5], [3, 7, 2, 0, 1, 6, 4, 5]]) rfl rfl rfl ?_)
    | (refine Awp.skip ?_)
    | (refine Awp.block ?_)
    | (refine Awp.scope ?_)
    | (refine Awp.ct rfl ?_)
    | (refine Awp.cf rfl ?_)
    | (refine Awp.ct (congrArg some (congrArg Value.bool ?_)) ?_; focus (simp (disch := omega) only [decide_eq_true_eq, decide_eq_false_iff_not, Bool.not_eq_true', Bool.not_eq_false', decide_true, decide_false, Bool.not_true, Bool.not_false, bt4, ti3, ti23, ti34, getD_num, ite_and, ite_le, ite_lt, ite_eq, ite_lei, ite_lti, ite_nei, IntWalk.i64_in, ti22]; done))
    | (refine Awp.cf (congrArg some (congrArg Value.bool ?_)) ?_; focus (simp (disch := omega) only [decide_eq_true_eq, decide_eq_false_iff_not, Bool.not_eq_true', Bool.not_eq_false', decide_true, decide_false, Bool.not_true, Bool.not_false, bt4, ti3, ti23, ti34, getD_num, ite_and, ite_le, ite_lt, ite_eq, ite_lei, ite_lti, ite_nei, IntWalk.i64_in, ti22]; done))
    | (refine Awp.cond rfl ?_ ?_ <;> (intro hsp; (try simp only [Bool.not_eq_true', Bool.not_eq_false', decide_eq_true_eq, decide_eq_false_iff_not, Decidable.not_not, Int.not_lt, Int.not_le, Int.natCast_inj, Bool.and_eq_true, Bool.or_eq_true, Bool.not_not, ne_eq] at hsp)))
    | (refine Awp.exit ?_; simp only [blockQ, thenQ, scopeQ, ↓reduceIte, Nat.reduceEqDiff])
    | (refine viaK ‹_› ?_)
    | (simp only [thenQ_normal, blockQ_normal])))
  · refine Awp.ret (ret_of (.inl rfl) rfl rfl (by simp [ownsX, ownsC]) ?_)
    have : decide (a = b) = false := decide_eq_false fun h => hsp (by rw [h])
    simp [laxR, laxX, laxC, rB, this]
  · refine Awp.loop (α := {i : Nat // i ≤ a.length ∧ ∀ j < i, a.getD j 0 = b.getD j 0}) (fun i => { fr := [(5, vv (.int .i64 (i.1 : Int))), (0, .x (.one (.d (.sl 1 (a.map (numD .i64)))))), (1, .x (.one (.d (.sl 1 (b.map (numD .i64))))))], hp := [], nx := 0, nt := 26 }) (fun i => a.length - i.1) ⟨0, by omega, by simp⟩ [] ?_ ?_
    · simp only [Wk, frIn, hpIn, lk, renV, renX, renC, belV, belX, belC, belL, ↓reduceIte, Nat.reduceEqDiff, and_self, and_true, true_and]; simp [vv, one, renV, renX, renC, belV, belX, belC]
    · rintro ⟨i, hi, hj⟩
      simp only [vv, one]
      (repeat' (first
    | (apply RegA.op (hd := rfl); (first | exact trivial | rfl | exact congrArg some ‹_› | (simp (disch := omega) only [boolV, lk, ↓reduceIte, Nat.reduceEqDiff, decide_true, decide_false]; done)); (simp (disch := omega) only [binX, List.replicate_succ, List.set_cons_zero, List.set_cons_succ, List.drop_replicate, Nat.sub_self, List.length_replicate, true_or, or_true, or_false, List.replicate_zero, List.nil_append, List.append_nil, maxLen, List.length_append, List.length_take, List.length_drop, Nat.min_self, List.take_length, Option.getD_some, Option.getD_none, Option.isSome_some, Option.isSome_none, forall_const, Bool.false_eq_true, false_implies, imp_self, implies_true, decide_true, decide_false, dropMap, takeMap, effect, callEff, evO, evP, evL, argL, argX, dataL, plain, plainC, plainL, lk, one, vv, one1, isNil, binV, unV, cvV, load1, store1, fieldOf, cellsOf, cellsAt, asVal, shift, partOf, dataC, elemsC, app1, cop1, len1, mslice1, bslice1, rowsA, build1, fillA, idx1, index1, slice1, optInt, addrAt, cutC, putAt, allD, dv, spl, boolV, Option.map_some, Option.bind_some, Option.map_none, Option.bind_none, ↓reduceIte, Bool.not_true, Bool.not_false, Bool.false_eq_true, and_true, true_and, Option.some.injEq, List.length_map, Nat.reduceEqDiff, Nat.reduceLeDiff, Nat.reduceAdd, Int.reduceLT, Int.reduceLE, Int.reduceToNat, Int.toNat_natCast, List.length_cons, List.length_nil, List.take_succ_cons, List.take_zero, List.drop_zero, List.map_cons, List.map_nil, Nat.zero_add, Nat.le_refl, List.getD_cons_zero, List.getD_cons_succ, bt4, ti3, ti23, ti34, getD_num, ite_and, ite_le, ite_lt, ite_eq, ite_lei, ite_lti, ite_nei, IntWalk.i64_in, ti22]; first | rfl | done); simp (disch := omega) only [List.length_replicate, List.length_map, Nat.reduceBEq, Bool.not_false, Bool.not_true, ↓reduceIte, Bool.false_eq_true, BEq.rfl, put1, skip1, frOf, know, vv, one, del, decide_true, decide_false, List.filter_cons, List.filter_nil, List.nil_append, List.cons_append, Nat.reduceAdd, Nat.add_zero])
    | (refine RegA.off rfl rfl ?_; simp (disch := omega) only [List.length_replicate, List.length_map, Nat.reduceBEq, Bool.not_false, Bool.not_true, ↓reduceIte, Bool.false_eq_true, BEq.rfl, put1, skip1, frOf, know, vv, one, del, decide_true, decide_false, List.filter_cons, List.filter_nil, List.nil_append, List.cons_append, Nat.reduceAdd, Nat.add_zero])
    | (refine RegA.split rfl ?_ ?_ <;> (intro hsp; (try simp only [Bool.not_eq_true', Bool.not_eq_false', decide_eq_true_eq, decide_eq_false_iff_not, Decidable.not_not, Int.not_lt, Int.not_le, Int.natCast_inj, Bool.and_eq_true, Bool.or_eq_true, Bool.not_not, ne_eq] at hsp); simp (disch := omega) only [List.length_replicate, List.length_map, Nat.reduceBEq, Bool.not_false, Bool.not_true, ↓reduceIte, Bool.false_eq_true, BEq.rfl, put1, skip1, frOf, know, vv, one, del, decide_true, decide_false, List.filter_cons, List.filter_nil, List.nil_append, List.cons_append, Nat.reduceAdd, Nat.add_zero]))
    | (apply DrawA.op' (hd := rfl); (simp only [List.length_cons, List.length_nil, Nat.reduceMul, Nat.reduceAdd]; rfl); (simp only [Bool.not_false, Bool.not_true, Eng.mk, Eng.put1, Eng.skip1, frOf, vv, one, del, List.filter_cons, List.filter_nil, List.nil_append, List.cons_append, Nat.reduceAdd, Nat.reduceMul, Nat.add_zero, List.length_nil, List.length_cons, List.getD_cons_zero, List.getD_cons_succ, List.contains_cons, List.contains_nil, Nat.reduceBEq, BEq.rfl, Bool.or_false, Bool.false_or, Bool.or_true, Bool.true_or, Bool.false_eq_true, ↓reduceIte, if_false, if_true, allIn, List.range, List.range.loop]; rfl); (first | exact trivial | rfl | exact congrArg some ‹_› | (simp (disch := omega) only [boolV, lk, ↓reduceIte, Nat.reduceEqDiff, decide_true, decide_false]; done)); (simp (disch := omega) only [binX, List.replicate_succ, List.set_cons_zero, List.set_cons_succ, List.drop_replicate, Nat.sub_self, List.length_replicate, true_or, or_true, or_false, List.replicate_zero, List.nil_append, List.append_nil, maxLen, List.length_append, List.length_take, List.length_drop, Nat.min_self, List.take_length, Option.getD_some, Option.getD_none, Option.isSome_some, Option.isSome_none, forall_const, Bool.false_eq_true, false_implies, imp_self, implies_true, decide_true, decide_false, dropMap, takeMap, effect, callEff, evO, evP, evL, argL, argX, dataL, plain, plainC, plainL, lk, one, vv, one1, isNil, binV, unV, cvV, load1, store1, fieldOf, cellsOf, cellsAt, asVal, shift, partOf, dataC, elemsC, app1, cop1, len1, mslice1, bslice1, rowsA, build1, fillA, idx1, index1, slice1, optInt, addrAt, cutC, putAt, allD, dv, spl, boolV, Option.map_some, Option.bind_some, Option.map_none, Option.bind_none, ↓reduceIte, Bool.not_true, Bool.not_false, Bool.false_eq_true, and_true, true_and, Option.some.injEq, List.length_map, Nat.reduceEqDiff, Nat.reduceLeDiff, Nat.reduceAdd, Int.reduceLT, Int.reduceLE, Int.reduceToNat, Int.toNat_natCast, List.length_cons, List.length_nil, List.take_succ_cons, List.take_zero, List.drop_zero, List.map_cons, List.map_nil, Nat.zero_add, Nat.le_refl, List.getD_cons_zero, List.getD_cons_succ, bt4, ti3, ti23, ti34, getD_num, ite_and, ite_le, ite_lt, ite_eq, ite_lei, ite_lti, ite_nei, IntWalk.i64_in, ti22]; first | rfl | done); rfl; rfl; simp only [List.nil_append, List.cons_append])
    | (apply DrawA.nil'; (simp only [List.length_cons, List.length_nil, Nat.reduceMul, Nat.reduceAdd]; rfl); (simp only [Bool.not_false, Bool.not_true, mkAll, Eng.put1, Eng.skip1, frOf, vv, one, del, List.filter_cons, List.filter_nil, List.nil_append, List.cons_append, Nat.reduceAdd, Nat.reduceMul, Nat.add_zero, List.length_nil, List.length_cons, List.getD_cons_zero, List.getD_cons_succ, List.contains_cons, List.contains_nil, Nat.reduceBEq, BEq.rfl, Bool.or_false, Bool.false_or, Bool.or_true, Bool.true_or, Bool.false_eq_true, ↓reduceIte, if_false, if_true, allIn, List.range, List.range.loop]; rfl); assumption)
    | (refine RegA.done ‹_› ?_)
    | (refine awp_seq fun K hK => ?_)
    | (refine Awp.reg ?_)
    | (refine Awp.draw' (A := [[], [], [0, 1], [2, 0, 1], [], [], [4, 5], [6, 4, 5], [3, 7, 2, 0, 1, 6, 4, 5]]) rfl rfl rfl ?_)
    | (refine Awp.skip ?_)
    | (refine Awp.block ?_)
    | (refine Awp.scope ?_)
    | (refine Awp.ct rfl ?_)
    | (refine Awp.cf rfl ?_)
    | (refine Awp.ct (congrArg some (congrArg Value.bool ?_)) ?_; focus (simp (disch := omega) only [decide_eq_true_eq, decide_eq_false_iff_not, Bool.not_eq_true', Bool.not_eq_false', decide_true, decide_false, Bool.not_true, Bool.not_false, bt4, ti3, ti23, ti34, getD_num, ite_and, ite_le, ite_lt, ite_eq, ite_lei, ite_lti, ite_nei, IntWalk.i64_in, ti22]; done))
    | (refine Awp.cf (congrArg some (congrArg Value.bool ?_)) ?_; focus (simp (disch := omega) only [decide_eq_true_eq, decide_eq_false_iff_not, Bool.not_eq_true', Bool.not_eq_false', decide_true, decide_false, Bool.not_true, Bool.not_false, bt4, ti3, ti23, ti34, getD_num, ite_and, ite_le, ite_lt, ite_eq, ite_lei, ite_lti, ite_nei, IntWalk.i64_in, ti22]; done))
    | (refine Awp.cond rfl ?_ ?_ <;> (intro hsp; (try simp only [Bool.not_eq_true', Bool.not_eq_false', decide_eq_true_eq, decide_eq_false_iff_not, Decidable.not_not, Int.not_lt, Int.not_le, Int.natCast_inj, Bool.and_eq_true, Bool.or_eq_true, Bool.not_not, ne_eq] at hsp)))
    | (refine Awp.exit ?_; simp only [blockQ, thenQ, scopeQ, ↓reduceIte, Nat.reduceEqDiff])
    | (refine viaK ‹_› ?_)
    | (simp only [thenQ_normal, blockQ_normal])))
      · refine Awp.ret (ret_of (.inl rfl) rfl rfl (by simp [ownsX, ownsC]) ?_)
        have : decide (a = b) = false := decide_eq_false fun h => hsp (by rw [h])
        simp [laxR, laxX, laxC, rB, this]
      · refine RegA.nil ⟨⟨i + 1, by omega, fun j hj' => ?_⟩, [], ?_, ?_⟩
        · rcases Nat.lt_succ_iff_lt_or_eq.1 hj' with h | rfl
          · exact hj j h
          · exact hsp
        · simp only [Wk, frIn, hpIn, lk, renV, renX, renC, belV, belX, belC, belL, ↓reduceIte, Nat.reduceEqDiff, and_self, and_true, true_and]; simp [vv, one, renV, renX, renC, belV, belX, belC]
        · simp only []; omega
      · refine Awp.ret (ret_of (.inl rfl) rfl rfl (by simp [ownsX, ownsC]) ?_)
        have : decide (a = b) = true := decide_eq_true (list_ext0 (by omega) fun j hj' => hj j (by omega))
        simp [laxR, laxX, laxC, rB, this]
set_option maxHeartbeats 4000000 in
set_option maxRecDepth 10000 in
theorem con5 (n : Int) (a b : List Int) : Con Try.prog 5 [vN .i64 n, sN .u64 a, sN .u64 b] [rB true] := by
  refine con_of_awp hmix Try.func5 s5 rfl (by rw [n5]; simp) r5 n5 ?_
  simp only [Eng.start, startFr, inX, sN, vN, c5]
  (repeat' (first
    | (apply RegA.op (hd := rfl); (first | exact trivial | rfl | exact congrArg some ‹_› | (simp (disch := omega) only [boolV, lk, ↓reduceIte, Nat.reduceEqDiff, decide_true, decide_false]; done)); (simp (disch := omega) only [binX, List.replicate_succ, List.set_cons_zero, List.set_cons_succ, List.drop_replicate, Nat.sub_self, List.length_replicate, true_or, or_true, or_false, List.replicate_zero, List.nil_append, List.append_nil, maxLen, List.length_append, List.length_take, List.length_drop, Nat.min_self, List.take_length, Option.getD_some, Option.getD_none, Option.isSome_some, Option.isSome_none, forall_const, Bool.false_eq_true, false_implies, imp_self, implies_true, decide_true, decide_false, dropMap, takeMap, effect, callEff, evO, evP, evL, argL, argX, dataL, plain, plainC, plainL, lk, one, vv, one1, isNil, binV, unV, cvV, load1, store1, fieldOf, cellsOf, cellsAt, asVal, shift, partOf, dataC, elemsC, app1, cop1, len1, mslice1, bslice1, rowsA, build1, fillA, idx1, index1, slice1, optInt, addrAt, cutC, putAt, allD, dv, spl, boolV, Option.map_some, Option.bind_some, Option.map_none, Option.bind_none, ↓reduceIte, Bool.not_true, Bool.not_false, Bool.false_eq_true, and_true, true_and, Option.some.injEq, List.length_map, Nat.reduceEqDiff, Nat.reduceLeDiff, Nat.reduceAdd, Int.reduceLT, Int.reduceLE, Int.reduceToNat, Int.toNat_natCast, List.length_cons, List.length_nil, List.take_succ_cons, List.take_zero, List.drop_zero, List.map_cons, List.map_nil, Nat.zero_add, Nat.le_refl, List.getD_cons_zero, List.getD_cons_succ, bt4, ti3, ti23, ti34, getD_num, ite_and, ite_le, ite_lt, ite_eq, ite_lei, ite_lti, ite_nei, IntWalk.i64_in, ti22, tdiv8, tmod8, takeAll, takeDropAll, toNatAdd, toNatSub]; first | rfl | done); simp (disch := omega) only [List.length_replicate, List.length_map, Nat.reduceBEq, Bool.not_false, Bool.not_true, ↓reduceIte, Bool.false_eq_true, BEq.rfl, put1, skip1, frOf, know, vv, one, del, decide_true, decide_false, List.filter_cons, List.filter_nil, List.nil_append, List.cons_append, Nat.reduceAdd, Nat.add_zero])
    | (apply RegA.call (hd := rfl) (fz := true) (hfz := .inl rfl); (first | exact trivial | rfl | exact congrArg some ‹_› | (simp (disch := omega) only [boolV, lk, ↓reduceIte, Nat.reduceEqDiff, decide_true, decide_false]; done)); (simp (disch := omega) only [binX, List.replicate_succ, List.set_cons_zero, List.set_cons_succ, List.drop_replicate, Nat.sub_self, List.length_replicate, true_or, or_true, or_false, List.replicate_zero, List.nil_append, List.append_nil, maxLen, List.length_append, List.length_take, List.length_drop, Nat.min_self, List.take_length, Option.getD_some, Option.getD_none, Option.isSome_some, Option.isSome_none, forall_const, Bool.false_eq_true, false_implies, imp_self, implies_true, decide_true, decide_false, dropMap, takeMap, effect, callEff, evO, evP, evL, argL, argX, dataL, plain, plainC, plainL, lk, one, vv, one1, isNil, binV, unV, cvV, load1, store1, fieldOf, cellsOf, cellsAt, asVal, shift, partOf, dataC, elemsC, app1, cop1, len1, mslice1, bslice1, rowsA, build1, fillA, idx1, index1, slice1, optInt, addrAt, cutC, putAt, allD, dv, spl, boolV, Option.map_some, Option.bind_some, Option.map_none, Option.bind_none, ↓reduceIte, Bool.not_true, Bool.not_false, Bool.false_eq_true, and_true, true_and, Option.some.injEq, List.length_map, Nat.reduceEqDiff, Nat.reduceLeDiff, Nat.reduceAdd, Int.reduceLT, Int.reduceLE, Int.reduceToNat, Int.toNat_natCast, List.length_cons, List.length_nil, List.take_succ_cons, List.take_zero, List.drop_zero, List.map_cons, List.map_nil, Nat.zero_add, Nat.le_refl, List.getD_cons_zero, List.getD_cons_succ, bt4, ti3, ti23, ti34, getD_num, ite_and, ite_le, ite_lt, ite_eq, ite_lei, ite_lti, ite_nei, IntWalk.i64_in, ti22, tdiv8, tmod8, takeAll, takeDropAll, toNatAdd, toNatSub]; first | rfl | done); (simp (disch := omega) only [binX, List.replicate_succ, List.set_cons_zero, List.set_cons_succ, List.drop_replicate, Nat.sub_self, List.length_replicate, true_or, or_true, or_false, List.replicate_zero, List.nil_append, List.append_nil, maxLen, List.length_append, List.length_take, List.length_drop, Nat.min_self, List.take_length, Option.getD_some, Option.getD_none, Option.isSome_some, Option.isSome_none, forall_const, Bool.false_eq_true, false_implies, imp_self, implies_true, decide_true, decide_false, dropMap, takeMap, effect, callEff, evO, evP, evL, argL, argX, dataL, plain, plainC, plainL, lk, one, vv, one1, isNil, binV, unV, cvV, load1, store1, fieldOf, cellsOf, cellsAt, asVal, shift, partOf, dataC, elemsC, app1, cop1, len1, mslice1, bslice1, rowsA, build1, fillA, idx1, index1, slice1, optInt, addrAt, cutC, putAt, allD, dv, spl, boolV, Option.map_some, Option.bind_some, Option.map_none, Option.bind_none, ↓reduceIte, Bool.not_true, Bool.not_false, Bool.false_eq_true, and_true, true_and, Option.some.injEq, List.length_map, Nat.reduceEqDiff, Nat.reduceLeDiff, Nat.reduceAdd, Int.reduceLT, Int.reduceLE, Int.reduceToNat, Int.toNat_natCast, List.length_cons, List.length_nil, List.take_succ_cons, List.take_zero, List.drop_zero, List.map_cons, List.map_nil, Nat.zero_add, Nat.le_refl, List.getD_cons_zero, List.getD_cons_succ, bt4, ti3, ti23, ti34, getD_num, ite_and, ite_le, ite_lt, ite_eq, ite_lei, ite_lti, ite_nei, IntWalk.i64_in, ti22, tdiv8, tmod8, takeAll, takeDropAll, toNatAdd, toNatSub]; first | rfl | done); (exact con18 _); simp (disch := omega) only [List.length_replicate, List.length_map, Nat.reduceBEq, Bool.not_false, Bool.not_true, ↓reduceIte, Bool.false_eq_true, BEq.rfl, put1, skip1, frOf, know, vv, one, del, decide_true, decide_false, List.filter_cons, List.filter_nil, List.nil_append, List.cons_append, Nat.reduceAdd, Nat.add_zero]; simp only [callHp, frz, rB, rN, rO, unV', unX, unXs, unC, List.flatMap_cons, List.flatMap_nil, idsX, idsC, List.append_nil, ↓reduceIte, List.nil_append, List.cons_append, lk, Nat.reduceEqDiff, Nat.reduceAdd, List.length_map, List.length_cons, List.length_nil])
    | (apply RegA.call (hd := rfl) (fz := true) (hfz := .inl rfl); (first | exact trivial | rfl | exact congrArg some ‹_› | (simp (disch := omega) only [boolV, lk, ↓reduceIte, Nat.reduceEqDiff, decide_true, decide_false]; done)); (simp (disch := omega) only [binX, List.replicate_succ, List.set_cons_zero, List.set_cons_succ, List.drop_replicate, Nat.sub_self, List.length_replicate, true_or, or_true, or_false, List.replicate_zero, List.nil_append, List.append_nil, maxLen, List.length_append, List.length_take, List.length_drop, Nat.min_self, List.take_length, Option.getD_some, Option.getD_none, Option.isSome_some, Option.isSome_none, forall_const, Bool.false_eq_true, false_implies, imp_self, implies_true, decide_true, decide_false, dropMap, takeMap, effect, callEff, evO, evP, evL, argL, argX, dataL, plain, plainC, plainL, lk, one, vv, one1, isNil, binV, unV, cvV, load1, store1, fieldOf, cellsOf, cellsAt, asVal, shift, partOf, dataC, elemsC, app1, cop1, len1, mslice1, bslice1, rowsA, build1, fillA, idx1, index1, slice1, optInt, addrAt, cutC, putAt, allD, dv, spl, boolV, Option.map_some, Option.bind_some, Option.map_none, Option.bind_none, ↓reduceIte, Bool.not_true, Bool.not_false, Bool.false_eq_true, and_true, true_and, Option.some.injEq, List.length_map, Nat.reduceEqDiff, Nat.reduceLeDiff, Nat.reduceAdd, Int.reduceLT, Int.reduceLE, Int.reduceToNat, Int.toNat_natCast, List.length_cons, List.length_nil, List.take_succ_cons, List.take_zero, List.drop_zero, List.map_cons, List.map_nil, Nat.zero_add, Nat.le_refl, List.getD_cons_zero, List.getD_cons_succ, bt4, ti3, ti23, ti34, getD_num, ite_and, ite_le, ite_lt, ite_eq, ite_lei, ite_lti, ite_nei, IntWalk.i64_in, ti22, tdiv8, tmod8, takeAll, takeDropAll, toNatAdd, toNatSub]; first | rfl | done); (simp (disch := omega) only [binX, List.replicate_succ, List.set_cons_zero, List.set_cons_succ, List.drop_replicate, Nat.sub_self, List.length_replicate, true_or, or_true, or_false, List.replicate_zero, List.nil_append, List.append_nil, maxLen, List.length_append, List.length_take, List.length_drop, Nat.min_self, List.take_length, Option.getD_some, Option.getD_none, Option.isSome_some, Option.isSome_none, forall_const, Bool.false_eq_true, false_implies, imp_self, implies_true, decide_true, decide_false, dropMap, takeMap, effect, callEff, evO, evP, evL, argL, argX, dataL, plain, plainC, plainL, lk, one, vv, one1, isNil, binV, unV, cvV, load1, store1, fieldOf, cellsOf, cellsAt, asVal, shift, partOf, dataC, elemsC, app1, cop1, len1, mslice1, bslice1, rowsA, build1, fillA, idx1, index1, slice1, optInt, addrAt, cutC, putAt, allD, dv, spl, boolV, Option.map_some, Option.bind_some, Option.map_none, Option.bind_none, ↓reduceIte, Bool.not_true, Bool.not_false, Bool.false_eq_true, and_true, true_and, Option.some.injEq, List.length_map, Nat.reduceEqDiff, Nat.reduceLeDiff, Nat.reduceAdd, Int.reduceLT, Int.reduceLE, Int.reduceToNat, Int.toNat_natCast, List.length_cons, List.length_nil, List.take_succ_cons, List.take_zero, List.drop_zero, List.map_cons, List.map_nil, Nat.zero_add, Nat.le_refl, List.getD_cons_zero, List.getD_cons_succ, bt4, ti3, ti23, ti34, getD_num, ite_and, ite_le, ite_lt, ite_eq, ite_lei, ite_lti, ite_nei, IntWalk.i64_in, ti22, tdiv8, tmod8, takeAll, takeDropAll, toNatAdd, toNatSub]; first | rfl | done); (exact con10 _); simp (disch := omega) only [List.length_replicate, List.length_map, Nat.reduceBEq, Bool.not_false, Bool.not_true, ↓reduceIte, Bool.false_eq_true, BEq.rfl, put1, skip1, frOf, know, vv, one, del, decide_true, decide_false, List.filter_cons, List.filter_nil, List.nil_append, List.cons_append, Nat.reduceAdd, Nat.add_zero]; simp only [callHp, frz, rB, rN, rO, unV', unX, unXs, unC, List.flatMap_cons, List.flatMap_nil, idsX, idsC, List.append_nil, ↓reduceIte, List.nil_append, List.cons_append, lk, Nat.reduceEqDiff, Nat.reduceAdd, List.length_map, List.length_cons, List.length_nil])
    | (apply RegA.call (hd := rfl) (fz := true) (hfz := .inl rfl); (first | exact trivial | rfl | exact congrArg some ‹_› | (simp (disch := omega) only [boolV, lk, ↓reduceIte, Nat.reduceEqDiff, decide_true, decide_false]; done)); (simp (disch := omega) only [binX, List.replicate_succ, List.set_cons_zero, List.set_cons_succ, List.drop_replicate, Nat.sub_self, List.length_replicate, true_or, or_true, or_false, List.replicate_zero, List.nil_append, List.append_nil, maxLen, List.length_append, List.length_take, List.length_drop, Nat.min_self, List.take_length, Option.getD_some, Option.getD_none, Option.isSome_some, Option.isSome_none, forall_const, Bool.false_eq_true, false_implies, imp_self, implies_true, decide_true, decide_false, dropMap, takeMap, effect, callEff, evO, evP, evL, argL, argX, dataL, plain, plainC, plainL, lk, one, vv, one1, isNil, binV, unV, cvV, load1, store1, fieldOf, cellsOf, cellsAt, asVal, shift, partOf, dataC, elemsC, app1, cop1, len1, mslice1, bslice1, rowsA, build1, fillA, idx1, index1, slice1, optInt, addrAt, cutC, putAt, allD, dv, spl, boolV, Option.map_some, Option.bind_some, Option.map_none, Option.bind_none, ↓reduceIte, Bool.not_true, Bool.not_false, Bool.false_eq_true, and_true, true_and, Option.some.injEq, List.length_map, Nat.reduceEqDiff, Nat.reduceLeDiff, Nat.reduceAdd, Int.reduceLT, Int.reduceLE, Int.reduceToNat, Int.toNat_natCast, List.length_cons, List.length_nil, List.take_succ_cons, List.take_zero, List.drop_zero, List.map_cons, List.map_nil, Nat.zero_add, Nat.le_refl, List.getD_cons_zero, List.getD_cons_succ, bt4, ti3, ti23, ti34, getD_num, ite_and, ite_le, ite_lt, ite_eq, ite_lei, ite_lti, ite_nei, IntWalk.i64_in, ti22, tdiv8, tmod8, takeAll, takeDropAll, toNatAdd, toNatSub]; first | rfl | done); (simp (disch := omega) only [binX, List.replicate_succ, List.set_cons_zero, List.set_cons_succ, List.drop_replicate, Nat.sub_self, List.length_replicate, true_or, or_true, or_false, List.replicate_zero, List.nil_append, List.append_nil, maxLen, List.length_append, List.length_take, List.length_drop, Nat.min_self, List.take_length, Option.getD_some, Option.getD_none, Option.isSome_some, Option.isSome_none, forall_const, Bool.false_eq_true, false_implies, imp_self, implies_true, decide_true, decide_false, dropMap, takeMap, effect, callEff, evO, evP, evL, argL, argX, dataL, plain, plainC, plainL, lk, one, vv, one1, isNil, binV, unV, cvV, load1, store1, fieldOf, cellsOf, cellsAt, asVal, shift, partOf, dataC, elemsC, app1, cop1, len1, mslice1, bslice1, rowsA, build1, fillA, idx1, index1, slice1, optInt, addrAt, cutC, putAt, allD, dv, spl, boolV, Option.map_some, Option.bind_some, Option.map_none, Option.bind_none, ↓reduceIte, Bool.not_true, Bool.not_false, Bool.false_eq_true, and_true, true_and, Option.some.injEq, List.length_map, Nat.reduceEqDiff, Nat.reduceLeDiff, Nat.reduceAdd, Int.reduceLT, Int.reduceLE, Int.reduceToNat, Int.toNat_natCast, List.length_cons, List.length_nil, List.take_succ_cons, List.take_zero, List.drop_zero, List.map_cons, List.map_nil, Nat.zero_add, Nat.le_refl, List.getD_cons_zero, List.getD_cons_succ, bt4, ti3, ti23, ti34, getD_num, ite_and, ite_le, ite_lt, ite_eq, ite_lei, ite_lti, ite_nei, IntWalk.i64_in, ti22, tdiv8, tmod8, takeAll, takeDropAll, toNatAdd, toNatSub]; first | rfl | done); (exact con24 _); simp (disch := omega) only [List.length_replicate, List.length_map, Nat.reduceBEq, Bool.not_false, Bool.not_true, ↓reduceIte, Bool.false_eq_true, BEq.rfl, put1, skip1, frOf, know, vv, one, del, decide_true, decide_false, List.filter_cons, List.filter_nil, List.nil_append, List.cons_append, Nat.reduceAdd, Nat.add_zero]; simp only [callHp, frz, rB, rN, rO, unV', unX, unXs, unC, List.flatMap_cons, List.flatMap_nil, idsX, idsC, List.append_nil, ↓reduceIte, List.nil_append, List.cons_append, lk, Nat.reduceEqDiff, Nat.reduceAdd, List.length_map, List.length_cons, List.length_nil])
    | (apply RegA.call (hd := rfl) (fz := true) (hfz := .inl rfl); (first | exact trivial | rfl | exact congrArg some ‹_› | (simp (disch := omega) only [boolV, lk, ↓reduceIte, Nat.reduceEqDiff, decide_true, decide_false]; done)); (simp (disch := omega) only [binX, List.replicate_succ, List.set_cons_zero, List.set_cons_succ, List.drop_replicate, Nat.sub_self, List.length_replicate, true_or, or_true, or_false, List.replicate_zero, List.nil_append, List.append_nil, maxLen, List.length_append, List.length_take, List.length_drop, Nat.min_self, List.take_length, Option.getD_some, Option.getD_none, Option.isSome_some, Option.isSome_none, forall_const, Bool.false_eq_true, false_implies, imp_self, implies_true, decide_true, decide_false, dropMap, takeMap, effect, callEff, evO, evP, evL, argL, argX, dataL, plain, plainC, plainL, lk, one, vv, one1, isNil, binV, unV, cvV, load1, store1, fieldOf, cellsOf, cellsAt, asVal, shift, partOf, dataC, elemsC, app1, cop1, len1, mslice1, bslice1, rowsA, build1, fillA, idx1, index1, slice1, optInt, addrAt, cutC, putAt, allD, dv, spl, boolV, Option.map_some, Option.bind_some, Option.map_none, Option.bind_none, ↓reduceIte, Bool.not_true, Bool.not_false, Bool.false_eq_true, and_true, true_and, Option.some.injEq, List.length_map, Nat.reduceEqDiff, Nat.reduceLeDiff, Nat.reduceAdd, Int.reduceLT, Int.reduceLE, Int.reduceToNat, Int.toNat_natCast, List.length_cons, List.length_nil, List.take_succ_cons, List.take_zero, List.drop_zero, List.map_cons, List.map_nil, Nat.zero_add, Nat.le_refl, List.getD_cons_zero, List.getD_cons_succ, bt4, ti3, ti23, ti34, getD_num, ite_and, ite_le, ite_lt, ite_eq, ite_lei, ite_lti, ite_nei, IntWalk.i64_in, ti22, tdiv8, tmod8, takeAll, takeDropAll, toNatAdd, toNatSub]; first | rfl | done); (simp (disch := omega) only [binX, List.replicate_succ, List.set_cons_zero, List.set_cons_succ, List.drop_replicate, Nat.sub_self, List.length_replicate, true_or, or_true, or_false, List.replicate_zero, List.nil_append, List.append_nil, maxLen, List.length_append, List.length_take, List.length_drop, Nat.min_self, List.take_length, Option.getD_some, Option.getD_none, Option.isSome_some, Option.isSome_none, forall_const, Bool.false_eq_true, false_implies, imp_self, implies_true, decide_true, decide_false, dropMap, takeMap, effect, callEff, evO, evP, evL, argL, argX, dataL, plain, plainC, plainL, lk, one, vv, one1, isNil, binV, unV, cvV, load1, store1, fieldOf, cellsOf, cellsAt, asVal, shift, partOf, dataC, elemsC, app1, cop1, len1, mslice1, bslice1, rowsA, build1, fillA, idx1, index1, slice1, optInt, addrAt, cutC, putAt, allD, dv, spl, boolV, Option.map_some, Option.bind_some, Option.map_none, Option.bind_none, ↓reduceIte, Bool.not_true, Bool.not_false, Bool.false_eq_true, and_true, true_and, Option.some.injEq, List.length_map, Nat.reduceEqDiff, Nat.reduceLeDiff, Nat.reduceAdd, Int.reduceLT, Int.reduceLE, Int.reduceToNat, Int.toNat_natCast, List.length_cons, List.length_nil, List.take_succ_cons, List.take_zero, List.drop_zero, List.map_cons, List.map_nil, Nat.zero_add, Nat.le_refl, List.getD_cons_zero, List.getD_cons_succ, bt4, ti3, ti23, ti34, getD_num, ite_and, ite_le, ite_lt, ite_eq, ite_lei, ite_lti, ite_nei, IntWalk.i64_in, ti22, tdiv8, tmod8, takeAll, takeDropAll, toNatAdd, toNatSub]; first | rfl | done); (exact con14 _ _ (by omega) (by omega)); simp (disch := omega) only [List.length_replicate, List.length_map, Nat.reduceBEq, Bool.not_false, Bool.not_true, ↓reduceIte, Bool.false_eq_true, BEq.rfl, put1, skip1, frOf, know, vv, one, del, decide_true, decide_false, List.filter_cons, List.filter_nil, List.nil_append, List.cons_append, Nat.reduceAdd, Nat.add_zero]; simp only [callHp, frz, rB, rN, rO, unV', unX, unXs, unC, List.flatMap_cons, List.flatMap_nil, idsX, idsC, List.append_nil, ↓reduceIte, List.nil_append, List.cons_append, lk, Nat.reduceEqDiff, Nat.reduceAdd, List.length_map, List.length_cons, List.length_nil])
    | (apply RegA.call (hd := rfl) (fz := true) (hfz := .inl rfl); (first | exact trivial | rfl | exact congrArg some ‹_› | (simp (disch := omega) only [boolV, lk, ↓reduceIte, Nat.reduceEqDiff, decide_true, decide_false]; done)); (simp (disch := omega) only [binX, List.replicate_succ, List.set_cons_zero, List.set_cons_succ, List.drop_replicate, Nat.sub_self, List.length_replicate, true_or, or_true, or_false, List.replicate_zero, List.nil_append, List.append_nil, maxLen, List.length_append, List.length_take, List.length_drop, Nat.min_self, List.take_length, Option.getD_some, Option.getD_none, Option.isSome_some, Option.isSome_none, forall_const, Bool.false_eq_true, false_implies, imp_self, implies_true, decide_true, decide_false, dropMap, takeMap, effect, callEff, evO, evP, evL, argL, argX, dataL, plain, plainC, plainL, lk, one, vv, one1, isNil, binV, unV, cvV, load1, store1, fieldOf, cellsOf, cellsAt, asVal, shift, partOf, dataC, elemsC, app1, cop1, len1, mslice1, bslice1, rowsA, build1, fillA, idx1, index1, slice1, optInt, addrAt, cutC, putAt, allD, dv, spl, boolV, Option.map_some, Option.bind_some, Option.map_none, Option.bind_none, ↓reduceIte, Bool.not_true, Bool.not_false, Bool.false_eq_true, and_true, true_and, Option.some.injEq, List.length_map, Nat.reduceEqDiff, Nat.reduceLeDiff, Nat.reduceAdd, Int.reduceLT, Int.reduceLE, Int.reduceToNat, Int.toNat_natCast, List.length_cons, List.length_nil, List.take_succ_cons, List.take_zero, List.drop_zero, List.map_cons, List.map_nil, Nat.zero_add, Nat.le_refl, List.getD_cons_zero, List.getD_cons_succ, bt4, ti3, ti23, ti34, getD_num, ite_and, ite_le, ite_lt, ite_eq, ite_lei, ite_lti, ite_nei, IntWalk.i64_in, ti22, tdiv8, tmod8, takeAll, takeDropAll, toNatAdd, toNatSub]; first | rfl | done); (simp (disch := omega) only [binX, List.replicate_succ, List.set_cons_zero, List.set_cons_succ, List.drop_replicate, Nat.sub_self, List.length_replicate, true_or, or_true, or_false, List.replicate_zero, List.nil_append, List.append_nil, maxLen, List.length_append, List.length_take, List.length_drop, Nat.min_self, List.take_length, Option.getD_some, Option.getD_none, Option.isSome_some, Option.isSome_none, forall_const, Bool.false_eq_true, false_implies, imp_self, implies_true, decide_true, decide_false, dropMap, takeMap, effect, callEff, evO, evP, evL, argL, argX, dataL, plain, plainC, plainL, lk, one, vv, one1, isNil, binV, unV, cvV, load1, store1, fieldOf, cellsOf, cellsAt, asVal, shift, partOf, dataC, elemsC, app1, cop1, len1, mslice1, bslice1, rowsA, build1, fillA, idx1, index1, slice1, optInt, addrAt, cutC, putAt, allD, dv, spl, boolV, Option.map_some, Option.bind_some, Option.map_none, Option.bind_none, ↓reduceIte, Bool.not_true, Bool.not_false, Bool.false_eq_true, and_true, true_and, Option.some.injEq, List.length_map, Nat.reduceEqDiff, Nat.reduceLeDiff, Nat.reduceAdd, Int.reduceLT, Int.reduceLE, Int.reduceToNat, Int.toNat_natCast, List.length_cons, List.length_nil, List.take_succ_cons, List.take_zero, List.drop_zero, List.map_cons, List.map_nil, Nat.zero_add, Nat.le_refl, List.getD_cons_zero, List.getD_cons_succ, bt4, ti3, ti23, ti34, getD_num, ite_and, ite_le, ite_lt, ite_eq, ite_lei, ite_lti, ite_nei, IntWalk.i64_in, ti22, tdiv8, tmod8, takeAll, takeDropAll, toNatAdd, toNatSub]; first | rfl | done); (exact con25 _ _ (by omega) (by omega)); simp (disch := omega) only [List.length_replicate, List.length_map, Nat.reduceBEq, Bool.not_false, Bool.not_true, ↓reduceIte, Bool.false_eq_true, BEq.rfl, put1, skip1, frOf, know, vv, one, del, decide_true, decide_false, List.filter_cons, List.filter_nil, List.nil_append, List.cons_append, Nat.reduceAdd, Nat.add_zero]; simp only [callHp, frz, rB, rN, rO, unV', unX, unXs, unC, List.flatMap_cons, List.flatMap_nil, idsX, idsC, List.append_nil, ↓reduceIte, List.nil_append, List.cons_append, lk, Nat.reduceEqDiff, Nat.reduceAdd, List.length_map, List.length_cons, List.length_nil])
    | (apply RegA.call (hd := rfl) (fz := true) (hfz := .inl rfl); (first | exact trivial | rfl | exact congrArg some ‹_› | (simp (disch := omega) only [boolV, lk, ↓reduceIte, Nat.reduceEqDiff, decide_true, decide_false]; done)); (simp (disch := omega) only [binX, List.replicate_succ, List.set_cons_zero, List.set_cons_succ, List.drop_replicate, Nat.sub_self, List.length_replicate, true_or, or_true, or_false, List.replicate_zero, List.nil_append, List.append_nil, maxLen, List.length_append, List.length_take, List.length_drop, Nat.min_self, List.take_length, Option.getD_some, Option.getD_none, Option.isSome_some, Option.isSome_none, forall_const, Bool.false_eq_true, false_implies, imp_self, implies_true, decide_true, decide_false, dropMap, takeMap, effect, callEff, evO, evP, evL, argL, argX, dataL, plain, plainC, plainL, lk, one, vv, one1, isNil, binV, unV, cvV, load1, store1, fieldOf, cellsOf, cellsAt, asVal, shift, partOf, dataC, elemsC, app1, cop1, len1, mslice1, bslice1, rowsA, build1, fillA, idx1, index1, slice1, optInt, addrAt, cutC, putAt, allD, dv, spl, boolV, Option.map_some, Option.bind_some, Option.map_none, Option.bind_none, ↓reduceIte, Bool.not_true, Bool.not_false, Bool.false_eq_true, and_true, true_and, Option.some.injEq, List.length_map, Nat.reduceEqDiff, Nat.reduceLeDiff, Nat.reduceAdd, Int.reduceLT, Int.reduceLE, Int.reduceToNat, Int.toNat_natCast, List.length_cons, List.length_nil, List.take_succ_cons, List.take_zero, List.drop_zero, List.map_cons, List.map_nil, Nat.zero_add, Nat.le_refl, List.getD_cons_zero, List.getD_cons_succ, bt4, ti3, ti23, ti34, getD_num, ite_and, ite_le, ite_lt, ite_eq, ite_lei, ite_lti, ite_nei, IntWalk.i64_in, ti22, tdiv8, tmod8, takeAll, takeDropAll, toNatAdd, toNatSub]; first | rfl | done); (simp (disch := omega) only [binX, List.replicate_succ, List.set_cons_zero, List.set_cons_succ, List.drop_replicate, Nat.sub_self, List.length_replicate, true_or, or_true, or_false, List.replicate_zero, List.nil_append, List.append_nil, maxLen, List.length_append, List.length_take, List.length_drop, Nat.min_self, List.take_length, Option.getD_some, Option.getD_none, Option.isSome_some, Option.isSome_none, forall_const, Bool.false_eq_true, false_implies, imp_self, implies_true, decide_true, decide_false, dropMap, takeMap, effect, callEff, evO, evP, evL, argL, argX, dataL, plain, plainC, plainL, lk, one, vv, one1, isNil, binV, unV, cvV, load1, store1, fieldOf, cellsOf, cellsAt, asVal, shift, partOf, dataC, elemsC, app1, cop1, len1, mslice1, bslice1, rowsA, build1, fillA, idx1, index1, slice1, optInt, addrAt, cutC, putAt, allD, dv, spl, boolV, Option.map_some, Option.bind_some, Option.map_none, Option.bind_none, ↓reduceIte, Bool.not_true, Bool.not_false, Bool.false_eq_true, and_true, true_and, Option.some.injEq, List.length_map, Nat.reduceEqDiff, Nat.reduceLeDiff, Nat.reduceAdd, Int.reduceLT, Int.reduceLE, Int.reduceToNat, Int.toNat_natCast, List.length_cons, List.length_nil, List.take_succ_cons, List.take_zero, List.drop_zero, List.map_cons, List.map_nil, Nat.zero_add, Nat.le_refl, List.getD_cons_zero, List.getD_cons_succ, bt4, ti3, ti23, ti34, getD_num, ite_and, ite_le, ite_lt, ite_eq, ite_lei, ite_lti, ite_nei, IntWalk.i64_in, ti22, tdiv8, tmod8, takeAll, takeDropAll, toNatAdd, toNatSub]; first | rfl | done); (exact con16 _ _ (by first | omega | exact Nat.le_trans (getL_len _ _ _) (by omega) | exact Nat.le_trans (putL_len _ _ _) (by omega) | exact Nat.le_trans (newL_len _) (by omega) | exact Nat.le_trans (diffL_len _ _) (by omega))); simp (disch := omega) only [List.length_replicate, List.length_map, Nat.reduceBEq, Bool.not_false, Bool.not_true, ↓reduceIte, Bool.false_eq_true, BEq.rfl, put1, skip1, frOf, know, vv, one, del, decide_true, decide_false, List.filter_cons, List.filter_nil, List.nil_append, List.cons_append, Nat.reduceAdd, Nat.add_zero]; simp only [callHp, frz, rB, rN, rO, unV', unX, unXs, unC, List.flatMap_cons, List.flatMap_nil, idsX, idsC, List.append_nil, ↓reduceIte, List.nil_append, List.cons_append, lk, Nat.reduceEqDiff, Nat.reduceAdd, List.length_map, List.length_cons, List.length_nil])
    | (apply RegA.call (hd := rfl) (fz := true) (hfz := .inl rfl); (first | exact trivial | rfl | exact congrArg some ‹_› | (simp (disch := omega) only [boolV, lk, ↓reduceIte, Nat.reduceEqDiff, decide_true, decide_false]; done)); (simp (disch := omega) only [binX, List.replicate_succ, List.set_cons_zero, List.set_cons_succ, List.drop_replicate, Nat.sub_self, List.length_replicate, true_or, or_true, or_false, List.replicate_zero, List.nil_append, List.append_nil, maxLen, List.length_append, List.length_take, List.length_drop, Nat.min_self, List.take_length, Option.getD_some, Option.getD_none, Option.isSome_some, Option.isSome_none, forall_const, Bool.false_eq_true, false_implies, imp_self, implies_true, decide_true, decide_false, dropMap, takeMap, effect, callEff, evO, evP, evL, argL, argX, dataL, plain, plainC, plainL, lk, one, vv, one1, isNil, binV, unV, cvV, load1, store1, fieldOf, cellsOf, cellsAt, asVal, shift, partOf, dataC, elemsC, app1, cop1, len1, mslice1, bslice1, rowsA, build1, fillA, idx1, index1, slice1, optInt, addrAt, cutC, putAt, allD, dv, spl, boolV, Option.map_some, Option.bind_some, Option.map_none, Option.bind_none, ↓reduceIte, Bool.not_true, Bool.not_false, Bool.false_eq_true, and_true, true_and, Option.some.injEq, List.length_map, Nat.reduceEqDiff, Nat.reduceLeDiff, Nat.reduceAdd, Int.reduceLT, Int.reduceLE, Int.reduceToNat, Int.toNat_natCast, List.length_cons, List.length_nil, List.take_succ_cons, List.take_zero, List.drop_zero, List.map_cons, List.map_nil, Nat.zero_add, Nat.le_refl, List.getD_cons_zero, List.getD_cons_succ, bt4, ti3, ti23, ti34, getD_num, ite_and, ite_le, ite_lt, ite_eq, ite_lei, ite_lti, ite_nei, IntWalk.i64_in, ti22, tdiv8, tmod8, takeAll, takeDropAll, toNatAdd, toNatSub]; first | rfl | done); (simp (disch := omega) only [binX, List.replicate_succ, List.set_cons_zero, List.set_cons_succ, List.drop_replicate, Nat.sub_self, List.length_replicate, true_or, or_true, or_false, List.replicate_zero, List.nil_append, List.append_nil, maxLen, List.length_append, List.length_take, List.length_drop, Nat.min_self, List.take_length, Option.getD_some, Option.getD_none, Option.isSome_some, Option.isSome_none, forall_const, Bool.false_eq_true, false_implies, imp_self, implies_true, decide_true, decide_false, dropMap, takeMap, effect, callEff, evO, evP, evL, argL, argX, dataL, plain, plainC, plainL, lk, one, vv, one1, isNil, binV, unV, cvV, load1, store1, fieldOf, cellsOf, cellsAt, asVal, shift, partOf, dataC, elemsC, app1, cop1, len1, mslice1, bslice1, rowsA, build1, fillA, idx1, index1, slice1, optInt, addrAt, cutC, putAt, allD, dv, spl, boolV, Option.map_some, Option.bind_some, Option.map_none, Option.bind_none, ↓reduceIte, Bool.not_true, Bool.not_false, Bool.false_eq_true, and_true, true_and, Option.some.injEq, List.length_map, Nat.reduceEqDiff, Nat.reduceLeDiff, Nat.reduceAdd, Int.reduceLT, Int.reduceLE, Int.reduceToNat, Int.toNat_natCast, List.length_cons, List.length_nil, List.take_succ_cons, List.take_zero, List.drop_zero, List.map_cons, List.map_nil, Nat.zero_add, Nat.le_refl, List.getD_cons_zero, List.getD_cons_succ, bt4, ti3, ti23, ti34, getD_num, ite_and, ite_le, ite_lt, ite_eq, ite_lei, ite_lti, ite_nei, IntWalk.i64_in, ti22, tdiv8, tmod8, takeAll, takeDropAll, toNatAdd, toNatSub]; first | rfl | done); (exact con26 _ _ (by first | omega | exact Nat.le_trans (getL_len _ _ _) (by omega) | exact Nat.le_trans (putL_len _ _ _) (by omega) | exact Nat.le_trans (newL_len _) (by omega) | exact Nat.le_trans (diffL_len _ _) (by omega))); simp (disch := omega) only [List.length_replicate, List.length_map, Nat.reduceBEq, Bool.not_false, Bool.not_true, ↓reduceIte, Bool.false_eq_true, BEq.rfl, put1, skip1, frOf, know, vv, one, del, decide_true, decide_false, List.filter_cons, List.filter_nil, List.nil_append, List.cons_append, Nat.reduceAdd, Nat.add_zero]; simp only [callHp, frz, rB, rN, rO, unV', unX, unXs, unC, List.flatMap_cons, List.flatMap_nil, idsX, idsC, List.append_nil, ↓reduceIte, List.nil_append, List.cons_append, lk, Nat.reduceEqDiff, Nat.reduceAdd, List.length_map, List.length_cons, List.length_nil])
    | (refine RegA.off rfl rfl ?_; simp (disch := omega) only [List.length_replicate, List.length_map, Nat.reduceBEq, Bool.not_false, Bool.not_true, ↓reduceIte, Bool.false_eq_true, BEq.rfl, put1, skip1, frOf, know, vv, one, del, decide_true, decide_false, List.filter_cons, List.filter_nil, List.nil_append, List.cons_append, Nat.reduceAdd, Nat.add_zero])
    | (refine RegA.split rfl ?_ ?_ <;> (intro hsp; (try simp only [Bool.not_eq_true', Bool.not_eq_false', decide_eq_true_eq, decide_eq_false_iff_not, Decidable.not_not, Int.not_lt, Int.not_le, Int.natCast_inj, Bool.and_eq_true, Bool.or_eq_true, Bool.not_not, ne_eq] at hsp); simp (disch := omega) only [List.length_replicate, List.length_map, Nat.reduceBEq, Bool.not_false, Bool.not_true, ↓reduceIte, Bool.false_eq_true, BEq.rfl, put1, skip1, frOf, know, vv, one, del, decide_true, decide_false, List.filter_cons, List.filter_nil, List.nil_append, List.cons_append, Nat.reduceAdd, Nat.add_zero]))
    | (apply DrawA.op' (hd := rfl); (simp only [List.length_cons, List.length_nil, Nat.reduceMul, Nat.reduceAdd]; rfl); (simp only [Bool.not_false, Bool.not_true, Eng.mk, Eng.put1, Eng.skip1, frOf, vv, one, del, List.filter_cons, List.filter_nil, List.nil_append, List.cons_append, Nat.reduceAdd, Nat.reduceMul, Nat.add_zero, List.length_nil, List.length_cons, List.getD_cons_zero, List.getD_cons_succ, List.contains_cons, List.contains_nil, Nat.reduceBEq, BEq.rfl, Bool.or_false, Bool.false_or, Bool.or_true, Bool.true_or, Bool.false_eq_true, ↓reduceIte, if_false, if_true, allIn, List.range, List.range.loop]; rfl); (first | exact trivial | rfl | exact congrArg some ‹_› | (simp (disch := omega) only [boolV, lk, ↓reduceIte, Nat.reduceEqDiff, decide_true, decide_false]; done)); (simp (disch := omega) only [binX, List.replicate_succ, List.set_cons_zero, List.set_cons_succ, List.drop_replicate, Nat.sub_self, List.length_replicate, true_or, or_true, or_false, List.replicate_zero, List.nil_append, List.append_nil, maxLen, List.length_append, List.length_take, List.length_drop, Nat.min_self, List.take_length, Option.getD_some, Option.getD_none, Option.isSome_some, Option.isSome_none, forall_const, Bool.false_eq_true, false_implies, imp_self, implies_true, decide_true, decide_false, dropMap, takeMap, effect, callEff, evO, evP, evL, argL, argX, dataL, plain, plainC, plainL, lk, one, vv, one1, isNil, binV, unV, cvV, load1, store1, fieldOf, cellsOf, cellsAt, asVal, shift, partOf, dataC, elemsC, app1, cop1, len1, mslice1, bslice1, rowsA, build1, fillA, idx1, index1, slice1, optInt, addrAt, cutC, putAt, allD, dv, spl, boolV, Option.map_some, Option.bind_some, Option.map_none, Option.bind_none, ↓reduceIte, Bool.not_true, Bool.not_false, Bool.false_eq_true, and_true, true_and, Option.some.injEq, List.length_map, Nat.reduceEqDiff, Nat.reduceLeDiff, Nat.reduceAdd, Int.reduceLT, Int.reduceLE, Int.reduceToNat, Int.toNat_natCast, List.length_cons, List.length_nil, List.take_succ_cons, List.take_zero, List.drop_zero, List.map_cons, List.map_nil, Nat.zero_add, Nat.le_refl, List.getD_cons_zero, List.getD_cons_succ, bt4, ti3, ti23, ti34, getD_num, ite_and, ite_le, ite_lt, ite_eq, ite_lei, ite_lti, ite_nei, IntWalk.i64_in, ti22, tdiv8, tmod8, takeAll, takeDropAll, toNatAdd, toNatSub]; first | rfl | done); rfl; rfl; simp only [List.nil_append, List.cons_append])
    | (apply DrawA.nil'; (simp only [List.length_cons, List.length_nil, Nat.reduceMul, Nat.reduceAdd]; rfl); (simp only [Bool.not_false, Bool.not_true, mkAll, Eng.put1, Eng.skip1, frOf, vv, one, del, List.filter_cons, List.filter_nil, List.nil_append, List.cons_append, Nat.reduceAdd, Nat.reduceMul, Nat.add_zero, List.length_nil, List.length_cons, List.getD_cons_zero, List.getD_cons_succ, List.contains_cons, List.contains_nil, Nat.reduceBEq, BEq.rfl, Bool.or_false, Bool.false_or, Bool.or_true, Bool.true_or, Bool.false_eq_true, ↓reduceIte, if_false, if_true, allIn, List.range, List.range.loop]; rfl); assumption)
    | (refine RegA.done ‹_› ?_)
    | (refine awp_seq fun K hK => ?_)
    | (refine Awp.reg ?_)
    | (refine Awp.skip ?_)
    | (refine Awp.block ?_)
    | (refine Awp.scope ?_)
    | (refine Awp.ct rfl ?_)
    | (refine Awp.cf rfl ?_)
    | (refine Awp.ct (congrArg some (congrArg Value.bool ?_)) ?_; focus (simp (disch := omega) only [decide_eq_true_eq, decide_eq_false_iff_not, Bool.not_eq_true', Bool.not_eq_false', decide_true, decide_false, Bool.not_true, Bool.not_false, bt4, ti3, ti23, ti34, getD_num, ite_and, ite_le, ite_lt, ite_eq, ite_lei, ite_lti, ite_nei, IntWalk.i64_in, ti22, tdiv8, tmod8, takeAll, takeDropAll, toNatAdd, toNatSub]; done))
    | (refine Awp.cf (congrArg some (congrArg Value.bool ?_)) ?_; focus (simp (disch := omega) only [decide_eq_true_eq, decide_eq_false_iff_not, Bool.not_eq_true', Bool.not_eq_false', decide_true, decide_false, Bool.not_true, Bool.not_false, bt4, ti3, ti23, ti34, getD_num, ite_and, ite_le, ite_lt, ite_eq, ite_lei, ite_lti, ite_nei, IntWalk.i64_in, ti22, tdiv8, tmod8, takeAll, takeDropAll, toNatAdd, toNatSub]; done))
    | (refine Awp.cond rfl ?_ ?_ <;> (intro hsp; (try simp only [Bool.not_eq_true', Bool.not_eq_false', decide_eq_true_eq, decide_eq_false_iff_not, Decidable.not_not, Int.not_lt, Int.not_le, Int.natCast_inj, Bool.and_eq_true, Bool.or_eq_true, Bool.not_not, ne_eq] at hsp)))
    | (refine Awp.exit ?_; simp only [blockQ, thenQ, scopeQ, ↓reduceIte, Nat.reduceEqDiff])
    | (refine viaK ‹_› ?_)
    | (simp only [thenQ_normal, blockQ_normal])))
  all_goals (refine Awp.ret ?_; apply ret_of (.inl rfl); rfl; (simp (disch := omega) only [outXs, outX, outC, outL, lk, ↓reduceIte, Nat.reduceEqDiff, List.length_map, List.length_nil, List.length_replicate, List.length_cons, List.length_take, List.length_drop, List.length_append, ite_eq, Option.map_some, Bool.false_eq_true]; rfl); (focus simp [ownsX, ownsC]); simp [laxR, laxX, laxC, rB, rN, rO, *] <;> (intros; omega))

theorem newE256 : newE 256 = 0 := by decide +kernel
theorem len256 : (newL 256).length = 256 := by decide +kernel
theorem line256 : lineV ((newL 256).length : Int) 17 = 2 := by rw [len256]; decide +kernel
theorem get256 : getE ((newL 256).length : Int) 17 1 = 0 := by rw [len256]; decide +kernel
theorem put256 : getE ((newL 256).length : Int) 9 (([5, 6] : List Int).length : Int) = 0 := by rw [len256]; decide +kernel
theorem put256' : (putL (newL 256) 9 [5, 6]).length = 256 := by decide +kernel
theorem diff256 : diffE (newL 256) (putL (newL 256) 9 [5, 6]) = 0 := by decide +kernel
theorem diffs256 : diffL (newL 256) (putL (newL 256) 9 [5, 6]) = [9, 10] := by decide +kernel
set_option maxHeartbeats 4000000 in
set_option maxRecDepth 10000 in
theorem con17  : Con Try.prog 17 [] [rB true] := by
  have h10 : Con Try.prog 10 [vN .i64 256] [rO .u64 (newL 256), rN .i64 0] := by
    have h := con10 256
    rw [newE256] at h
    exact h
  have h13 : Con Try.prog 13 [sN .u64 (newL 256), vN .i64 17] [rN .i64 2, rN .i64 16, rN .i64 0] := by
    have h := con13 (newL 256) 17 (by rw [len256]; decide) (by decide)
    rw [line256, get256] at h
    exact h
  have h12 : Con Try.prog 12 [sN .u64 (newL 256), vN .i64 9, sN .u64 [5, 6]] [rO .u64 (putL (newL 256) 9 [5, 6]), rN .i64 0] := by
    have h := con12 (newL 256) 9 [5, 6] (by rw [len256]; decide) (by decide) (by decide)
    rw [put256] at h
    exact h
  have h14 : Con Try.prog 14 [sN .u64 (newL 256), sN .u64 (putL (newL 256) 9 [5, 6])] [rO .i64 [9, 10], rN .i64 0] := by
    have h := con14 (newL 256) (putL (newL 256) 9 [5, 6]) (by rw [len256]; decide) (by rw [put256']; decide)
    rw [diff256, diffs256] at h
    exact h
  have h26 := con26 [9, 10] [9, 10] (by decide)
  generalize putL (newL 256) 9 [5, 6] = O at h12 h14
  generalize newL 256 = M at h10 h13 h12 h14
  refine con_of_awp hmix Try.func17 s17 rfl (by rw [n17]; simp) r17 n17 ?_
  simp only [Eng.start, startFr, inX, sN, vN, c17]
  (repeat' (first
    | (apply RegA.op (hd := rfl); (first | exact trivial | rfl | exact congrArg some ‹_› | (simp (disch := omega) only [boolV, lk, ↓reduceIte, Nat.reduceEqDiff, decide_true, decide_false]; done)); (simp (disch := omega) only [binX, List.replicate_succ, List.set_cons_zero, List.set_cons_succ, List.drop_replicate, Nat.sub_self, List.length_replicate, true_or, or_true, or_false, List.replicate_zero, List.nil_append, List.append_nil, maxLen, List.length_append, List.length_take, List.length_drop, Nat.min_self, List.take_length, Option.getD_some, Option.getD_none, Option.isSome_some, Option.isSome_none, forall_const, Bool.false_eq_true, false_implies, imp_self, implies_true, decide_true, decide_false, dropMap, takeMap, effect, callEff, evO, evP, evL, argL, argX, dataL, plain, plainC, plainL, lk, one, vv, one1, isNil, binV, unV, cvV, load1, store1, fieldOf, cellsOf, cellsAt, asVal, shift, partOf, dataC, elemsC, app1, cop1, len1, mslice1, bslice1, rowsA, build1, fillA, idx1, index1, slice1, optInt, addrAt, cutC, putAt, allD, dv, spl, boolV, Option.map_some, Option.bind_some, Option.map_none, Option.bind_none, ↓reduceIte, Bool.not_true, Bool.not_false, Bool.false_eq_true, and_true, true_and, Option.some.injEq, List.length_map, Nat.reduceEqDiff, Nat.reduceLeDiff, Nat.reduceAdd, Int.reduceLT, Int.reduceLE, Int.reduceToNat, Int.toNat_natCast, List.length_cons, List.length_nil, List.take_succ_cons, List.take_zero, List.drop_zero, List.map_cons, List.map_nil, Nat.zero_add, Nat.le_refl, List.getD_cons_zero, List.getD_cons_succ, bt4, ti3, ti23, ti34, getD_num, ite_and, ite_le, ite_lt, ite_eq, ite_lei, ite_lti, ite_nei, IntWalk.i64_in]; first | rfl | done); simp (disch := omega) only [List.length_replicate, List.length_map, Nat.reduceBEq, Bool.not_false, Bool.not_true, ↓reduceIte, Bool.false_eq_true, BEq.rfl, put1, skip1, frOf, know, vv, one, del, decide_true, decide_false, List.filter_cons, List.filter_nil, List.nil_append, List.cons_append, Nat.reduceAdd, Nat.add_zero])
    | (apply RegA.call (hd := rfl) (fz := true) (hfz := .inl rfl); (first | exact trivial | rfl | exact congrArg some ‹_› | (simp (disch := omega) only [boolV, lk, ↓reduceIte, Nat.reduceEqDiff, decide_true, decide_false]; done)); (simp (disch := omega) only [binX, List.replicate_succ, List.set_cons_zero, List.set_cons_succ, List.drop_replicate, Nat.sub_self, List.length_replicate, true_or, or_true, or_false, List.replicate_zero, List.nil_append, List.append_nil, maxLen, List.length_append, List.length_take, List.length_drop, Nat.min_self, List.take_length, Option.getD_some, Option.getD_none, Option.isSome_some, Option.isSome_none, forall_const, Bool.false_eq_true, false_implies, imp_self, implies_true, decide_true, decide_false, dropMap, takeMap, effect, callEff, evO, evP, evL, argL, argX, dataL, plain, plainC, plainL, lk, one, vv, one1, isNil, binV, unV, cvV, load1, store1, fieldOf, cellsOf, cellsAt, asVal, shift, partOf, dataC, elemsC, app1, cop1, len1, mslice1, bslice1, rowsA, build1, fillA, idx1, index1, slice1, optInt, addrAt, cutC, putAt, allD, dv, spl, boolV, Option.map_some, Option.bind_some, Option.map_none, Option.bind_none, ↓reduceIte, Bool.not_true, Bool.not_false, Bool.false_eq_true, and_true, true_and, Option.some.injEq, List.length_map, Nat.reduceEqDiff, Nat.reduceLeDiff, Nat.reduceAdd, Int.reduceLT, Int.reduceLE, Int.reduceToNat, Int.toNat_natCast, List.length_cons, List.length_nil, List.take_succ_cons, List.take_zero, List.drop_zero, List.map_cons, List.map_nil, Nat.zero_add, Nat.le_refl, List.getD_cons_zero, List.getD_cons_succ, bt4, ti3, ti23, ti34, getD_num, ite_and, ite_le, ite_lt, ite_eq, ite_lei, ite_lti, ite_nei, IntWalk.i64_in]; first | rfl | done); (simp (disch := omega) only [binX, List.replicate_succ, List.set_cons_zero, List.set_cons_succ, List.drop_replicate, Nat.sub_self, List.length_replicate, true_or, or_true, or_false, List.replicate_zero, List.nil_append, List.append_nil, maxLen, List.length_append, List.length_take, List.length_drop, Nat.min_self, List.take_length, Option.getD_some, Option.getD_none, Option.isSome_some, Option.isSome_none, forall_const, Bool.false_eq_true, false_implies, imp_self, implies_true, decide_true, decide_false, dropMap, takeMap, effect, callEff, evO, evP, evL, argL, argX, dataL, plain, plainC, plainL, lk, one, vv, one1, isNil, binV, unV, cvV, load1, store1, fieldOf, cellsOf, cellsAt, asVal, shift, partOf, dataC, elemsC, app1, cop1, len1, mslice1, bslice1, rowsA, build1, fillA, idx1, index1, slice1, optInt, addrAt, cutC, putAt, allD, dv, spl, boolV, Option.map_some, Option.bind_some, Option.map_none, Option.bind_none, ↓reduceIte, Bool.not_true, Bool.not_false, Bool.false_eq_true, and_true, true_and, Option.some.injEq, List.length_map, Nat.reduceEqDiff, Nat.reduceLeDiff, Nat.reduceAdd, Int.reduceLT, Int.reduceLE, Int.reduceToNat, Int.toNat_natCast, List.length_cons, List.length_nil, List.take_succ_cons, List.take_zero, List.drop_zero, List.map_cons, List.map_nil, Nat.zero_add, Nat.le_refl, List.getD_cons_zero, List.getD_cons_succ, bt4, ti3, ti23, ti34, getD_num, ite_and, ite_le, ite_lt, ite_eq, ite_lei, ite_lti, ite_nei, IntWalk.i64_in]; first | rfl | done); (exact h10); simp (disch := omega) only [List.length_replicate, List.length_map, Nat.reduceBEq, Bool.not_false, Bool.not_true, ↓reduceIte, Bool.false_eq_true, BEq.rfl, put1, skip1, frOf, know, vv, one, del, decide_true, decide_false, List.filter_cons, List.filter_nil, List.nil_append, List.cons_append, Nat.reduceAdd, Nat.add_zero]; simp only [callHp, frz, rB, rN, rO, unV', unX, unXs, unC, List.flatMap_cons, List.flatMap_nil, idsX, idsC, List.append_nil, ↓reduceIte, List.nil_append, List.cons_append, lk, Nat.reduceEqDiff, Nat.reduceAdd, List.length_map, List.length_cons, List.length_nil])
    | (apply RegA.call (hd := rfl) (fz := true) (hfz := .inl rfl); (first | exact trivial | rfl | exact congrArg some ‹_› | (simp (disch := omega) only [boolV, lk, ↓reduceIte, Nat.reduceEqDiff, decide_true, decide_false]; done)); (simp (disch := omega) only [binX, List.replicate_succ, List.set_cons_zero, List.set_cons_succ, List.drop_replicate, Nat.sub_self, List.length_replicate, true_or, or_true, or_false, List.replicate_zero, List.nil_append, List.append_nil, maxLen, List.length_append, List.length_take, List.length_drop, Nat.min_self, List.take_length, Option.getD_some, Option.getD_none, Option.isSome_some, Option.isSome_none, forall_const, Bool.false_eq_true, false_implies, imp_self, implies_true, decide_true, decide_false, dropMap, takeMap, effect, callEff, evO, evP, evL, argL, argX, dataL, plain, plainC, plainL, lk, one, vv, one1, isNil, binV, unV, cvV, load1, store1, fieldOf, cellsOf, cellsAt, asVal, shift, partOf, dataC, elemsC, app1, cop1, len1, mslice1, bslice1, rowsA, build1, fillA, idx1, index1, slice1, optInt, addrAt, cutC, putAt, allD, dv, spl, boolV, Option.map_some, Option.bind_some, Option.map_none, Option.bind_none, ↓reduceIte, Bool.not_true, Bool.not_false, Bool.false_eq_true, and_true, true_and, Option.some.injEq, List.length_map, Nat.reduceEqDiff, Nat.reduceLeDiff, Nat.reduceAdd, Int.reduceLT, Int.reduceLE, Int.reduceToNat, Int.toNat_natCast, List.length_cons, List.length_nil, List.take_succ_cons, List.take_zero, List.drop_zero, List.map_cons, List.map_nil, Nat.zero_add, Nat.le_refl, List.getD_cons_zero, List.getD_cons_succ, bt4, ti3, ti23, ti34, getD_num, ite_and, ite_le, ite_lt, ite_eq, ite_lei, ite_lti, ite_nei, IntWalk.i64_in]; first | rfl | done); (simp (disch := omega) only [binX, List.replicate_succ, List.set_cons_zero, List.set_cons_succ, List.drop_replicate, Nat.sub_self, List.length_replicate, true_or, or_true, or_false, List.replicate_zero, List.nil_append, List.append_nil, maxLen, List.length_append, List.length_take, List.length_drop, Nat.min_self, List.take_length, Option.getD_some, Option.getD_none, Option.isSome_some, Option.isSome_none, forall_const, Bool.false_eq_true, false_implies, imp_self, implies_true, decide_true, decide_false, dropMap, takeMap, effect, callEff, evO, evP, evL, argL, argX, dataL, plain, plainC, plainL, lk, one, vv, one1, isNil, binV, unV, cvV, load1, store1, fieldOf, cellsOf, cellsAt, asVal, shift, partOf, dataC, elemsC, app1, cop1, len1, mslice1, bslice1, rowsA, build1, fillA, idx1, index1, slice1, optInt, addrAt, cutC, putAt, allD, dv, spl, boolV, Option.map_some, Option.bind_some, Option.map_none, Option.bind_none, ↓reduceIte, Bool.not_true, Bool.not_false, Bool.false_eq_true, and_true, true_and, Option.some.injEq, List.length_map, Nat.reduceEqDiff, Nat.reduceLeDiff, Nat.reduceAdd, Int.reduceLT, Int.reduceLE, Int.reduceToNat, Int.toNat_natCast, List.length_cons, List.length_nil, List.take_succ_cons, List.take_zero, List.drop_zero, List.map_cons, List.map_nil, Nat.zero_add, Nat.le_refl, List.getD_cons_zero, List.getD_cons_succ, bt4, ti3, ti23, ti34, getD_num, ite_and, ite_le, ite_lt, ite_eq, ite_lei, ite_lti, ite_nei, IntWalk.i64_in]; first | rfl | done); (exact h13); simp (disch := omega) only [List.length_replicate, List.length_map, Nat.reduceBEq, Bool.not_false, Bool.not_true, ↓reduceIte, Bool.false_eq_true, BEq.rfl, put1, skip1, frOf, know, vv, one, del, decide_true, decide_false, List.filter_cons, List.filter_nil, List.nil_append, List.cons_append, Nat.reduceAdd, Nat.add_zero]; simp only [callHp, frz, rB, rN, rO, unV', unX, unXs, unC, List.flatMap_cons, List.flatMap_nil, idsX, idsC, List.append_nil, ↓reduceIte, List.nil_append, List.cons_append, lk, Nat.reduceEqDiff, Nat.reduceAdd, List.length_map, List.length_cons, List.length_nil])
    | (apply RegA.call (hd := rfl) (fz := true) (hfz := .inl rfl); (first | exact trivial | rfl | exact congrArg some ‹_› | (simp (disch := omega) only [boolV, lk, ↓reduceIte, Nat.reduceEqDiff, decide_true, decide_false]; done)); (simp (disch := omega) only [binX, List.replicate_succ, List.set_cons_zero, List.set_cons_succ, List.drop_replicate, Nat.sub_self, List.length_replicate, true_or, or_true, or_false, List.replicate_zero, List.nil_append, List.append_nil, maxLen, List.length_append, List.length_take, List.length_drop, Nat.min_self, List.take_length, Option.getD_some, Option.getD_none, Option.isSome_some, Option.isSome_none, forall_const, Bool.false_eq_true, false_implies, imp_self, implies_true, decide_true, decide_false, dropMap, takeMap, effect, callEff, evO, evP, evL, argL, argX, dataL, plain, plainC, plainL, lk, one, vv, one1, isNil, binV, unV, cvV, load1, store1, fieldOf, cellsOf, cellsAt, asVal, shift, partOf, dataC, elemsC, app1, cop1, len1, mslice1, bslice1, rowsA, build1, fillA, idx1, index1, slice1, optInt, addrAt, cutC, putAt, allD, dv, spl, boolV, Option.map_some, Option.bind_some, Option.map_none, Option.bind_none, ↓reduceIte, Bool.not_true, Bool.not_false, Bool.false_eq_true, and_true, true_and, Option.some.injEq, List.length_map, Nat.reduceEqDiff, Nat.reduceLeDiff, Nat.reduceAdd, Int.reduceLT, Int.reduceLE, Int.reduceToNat, Int.toNat_natCast, List.length_cons, List.length_nil, List.take_succ_cons, List.take_zero, List.drop_zero, List.map_cons, List.map_nil, Nat.zero_add, Nat.le_refl, List.getD_cons_zero, List.getD_cons_succ, bt4, ti3, ti23, ti34, getD_num, ite_and, ite_le, ite_lt, ite_eq, ite_lei, ite_lti, ite_nei, IntWalk.i64_in]; first | rfl | done); (simp (disch := omega) only [binX, List.replicate_succ, List.set_cons_zero, List.set_cons_succ, List.drop_replicate, Nat.sub_self, List.length_replicate, true_or, or_true, or_false, List.replicate_zero, List.nil_append, List.append_nil, maxLen, List.length_append, List.length_take, List.length_drop, Nat.min_self, List.take_length, Option.getD_some, Option.getD_none, Option.isSome_some, Option.isSome_none, forall_const, Bool.false_eq_true, false_implies, imp_self, implies_true, decide_true, decide_false, dropMap, takeMap, effect, callEff, evO, evP, evL, argL, argX, dataL, plain, plainC, plainL, lk, one, vv, one1, isNil, binV, unV, cvV, load1, store1, fieldOf, cellsOf, cellsAt, asVal, shift, partOf, dataC, elemsC, app1, cop1, len1, mslice1, bslice1, rowsA, build1, fillA, idx1, index1, slice1, optInt, addrAt, cutC, putAt, allD, dv, spl, boolV, Option.map_some, Option.bind_some, Option.map_none, Option.bind_none, ↓reduceIte, Bool.not_true, Bool.not_false, Bool.false_eq_true, and_true, true_and, Option.some.injEq, List.length_map, Nat.reduceEqDiff, Nat.reduceLeDiff, Nat.reduceAdd, Int.reduceLT, Int.reduceLE, Int.reduceToNat, Int.toNat_natCast, List.length_cons, List.length_nil, List.take_succ_cons, List.take_zero, List.drop_zero, List.map_cons, List.map_nil, Nat.zero_add, Nat.le_refl, List.getD_cons_zero, List.getD_cons_succ, bt4, ti3, ti23, ti34, getD_num, ite_and, ite_le, ite_lt, ite_eq, ite_lei, ite_lti, ite_nei, IntWalk.i64_in]; first | rfl | done); (exact h12); simp (disch := omega) only [List.length_replicate, List.length_map, Nat.reduceBEq, Bool.not_false, Bool.not_true, ↓reduceIte, Bool.false_eq_true, BEq.rfl, put1, skip1, frOf, know, vv, one, del, decide_true, decide_false, List.filter_cons, List.filter_nil, List.nil_append, List.cons_append, Nat.reduceAdd, Nat.add_zero]; simp only [callHp, frz, rB, rN, rO, unV', unX, unXs, unC, List.flatMap_cons, List.flatMap_nil, idsX, idsC, List.append_nil, ↓reduceIte, List.nil_append, List.cons_append, lk, Nat.reduceEqDiff, Nat.reduceAdd, List.length_map, List.length_cons, List.length_nil])
    | (apply RegA.call (hd := rfl) (fz := true) (hfz := .inl rfl); (first | exact trivial | rfl | exact congrArg some ‹_› | (simp (disch := omega) only [boolV, lk, ↓reduceIte, Nat.reduceEqDiff, decide_true, decide_false]; done)); (simp (disch := omega) only [binX, List.replicate_succ, List.set_cons_zero, List.set_cons_succ, List.drop_replicate, Nat.sub_self, List.length_replicate, true_or, or_true, or_false, List.replicate_zero, List.nil_append, List.append_nil, maxLen, List.length_append, List.length_take, List.length_drop, Nat.min_self, List.take_length, Option.getD_some, Option.getD_none, Option.isSome_some, Option.isSome_none, forall_const, Bool.false_eq_true, false_implies, imp_self, implies_true, decide_true, decide_false, dropMap, takeMap, effect, callEff, evO, evP, evL, argL, argX, dataL, plain, plainC, plainL, lk, one, vv, one1, isNil, binV, unV, cvV, load1, store1, fieldOf, cellsOf, cellsAt, asVal, shift, partOf, dataC, elemsC, app1, cop1, len1, mslice1, bslice1, rowsA, build1, fillA, idx1, index1, slice1, optInt, addrAt, cutC, putAt, allD, dv, spl, boolV, Option.map_some, Option.bind_some, Option.map_none, Option.bind_none, ↓reduceIte, Bool.not_true, Bool.not_false, Bool.false_eq_true, and_true, true_and, Option.some.injEq, List.length_map, Nat.reduceEqDiff, Nat.reduceLeDiff, Nat.reduceAdd, Int.reduceLT, Int.reduceLE, Int.reduceToNat, Int.toNat_natCast, List.length_cons, List.length_nil, List.take_succ_cons, List.take_zero, List.drop_zero, List.map_cons, List.map_nil, Nat.zero_add, Nat.le_refl, List.getD_cons_zero, List.getD_cons_succ, bt4, ti3, ti23, ti34, getD_num, ite_and, ite_le, ite_lt, ite_eq, ite_lei, ite_lti, ite_nei, IntWalk.i64_in]; first | rfl | done); (simp (disch := omega) only [binX, List.replicate_succ, List.set_cons_zero, List.set_cons_succ, List.drop_replicate, Nat.sub_self, List.length_replicate, true_or, or_true, or_false, List.replicate_zero, List.nil_append, List.append_nil, maxLen, List.length_append, List.length_take, List.length_drop, Nat.min_self, List.take_length, Option.getD_some, Option.getD_none, Option.isSome_some, Option.isSome_none, forall_const, Bool.false_eq_true, false_implies, imp_self, implies_true, decide_true, decide_false, dropMap, takeMap, effect, callEff, evO, evP, evL, argL, argX, dataL, plain, plainC, plainL, lk, one, vv, one1, isNil, binV, unV, cvV, load1, store1, fieldOf, cellsOf, cellsAt, asVal, shift, partOf, dataC, elemsC, app1, cop1, len1, mslice1, bslice1, rowsA, build1, fillA, idx1, index1, slice1, optInt, addrAt, cutC, putAt, allD, dv, spl, boolV, Option.map_some, Option.bind_some, Option.map_none, Option.bind_none, ↓reduceIte, Bool.not_true, Bool.not_false, Bool.false_eq_true, and_true, true_and, Option.some.injEq, List.length_map, Nat.reduceEqDiff, Nat.reduceLeDiff, Nat.reduceAdd, Int.reduceLT, Int.reduceLE, Int.reduceToNat, Int.toNat_natCast, List.length_cons, List.length_nil, List.take_succ_cons, List.take_zero, List.drop_zero, List.map_cons, List.map_nil, Nat.zero_add, Nat.le_refl, List.getD_cons_zero, List.getD_cons_succ, bt4, ti3, ti23, ti34, getD_num, ite_and, ite_le, ite_lt, ite_eq, ite_lei, ite_lti, ite_nei, IntWalk.i64_in]; first | rfl | done); (exact h14); simp (disch := omega) only [List.length_replicate, List.length_map, Nat.reduceBEq, Bool.not_false, Bool.not_true, ↓reduceIte, Bool.false_eq_true, BEq.rfl, put1, skip1, frOf, know, vv, one, del, decide_true, decide_false, List.filter_cons, List.filter_nil, List.nil_append, List.cons_append, Nat.reduceAdd, Nat.add_zero]; simp only [callHp, frz, rB, rN, rO, unV', unX, unXs, unC, List.flatMap_cons, List.flatMap_nil, idsX, idsC, List.append_nil, ↓reduceIte, List.nil_append, List.cons_append, lk, Nat.reduceEqDiff, Nat.reduceAdd, List.length_map, List.length_cons, List.length_nil])
    | (apply RegA.call (hd := rfl) (fz := true) (hfz := .inl rfl); (first | exact trivial | rfl | exact congrArg some ‹_› | (simp (disch := omega) only [boolV, lk, ↓reduceIte, Nat.reduceEqDiff, decide_true, decide_false]; done)); (simp (disch := omega) only [binX, List.replicate_succ, List.set_cons_zero, List.set_cons_succ, List.drop_replicate, Nat.sub_self, List.length_replicate, true_or, or_true, or_false, List.replicate_zero, List.nil_append, List.append_nil, maxLen, List.length_append, List.length_take, List.length_drop, Nat.min_self, List.take_length, Option.getD_some, Option.getD_none, Option.isSome_some, Option.isSome_none, forall_const, Bool.false_eq_true, false_implies, imp_self, implies_true, decide_true, decide_false, dropMap, takeMap, effect, callEff, evO, evP, evL, argL, argX, dataL, plain, plainC, plainL, lk, one, vv, one1, isNil, binV, unV, cvV, load1, store1, fieldOf, cellsOf, cellsAt, asVal, shift, partOf, dataC, elemsC, app1, cop1, len1, mslice1, bslice1, rowsA, build1, fillA, idx1, index1, slice1, optInt, addrAt, cutC, putAt, allD, dv, spl, boolV, Option.map_some, Option.bind_some, Option.map_none, Option.bind_none, ↓reduceIte, Bool.not_true, Bool.not_false, Bool.false_eq_true, and_true, true_and, Option.some.injEq, List.length_map, Nat.reduceEqDiff, Nat.reduceLeDiff, Nat.reduceAdd, Int.reduceLT, Int.reduceLE, Int.reduceToNat, Int.toNat_natCast, List.length_cons, List.length_nil, List.take_succ_cons, List.take_zero, List.drop_zero, List.map_cons, List.map_nil, Nat.zero_add, Nat.le_refl, List.getD_cons_zero, List.getD_cons_succ, bt4, ti3, ti23, ti34, getD_num, ite_and, ite_le, ite_lt, ite_eq, ite_lei, ite_lti, ite_nei, IntWalk.i64_in]; first | rfl | done); (simp (disch := omega) only [binX, List.replicate_succ, List.set_cons_zero, List.set_cons_succ, List.drop_replicate, Nat.sub_self, List.length_replicate, true_or, or_true, or_false, List.replicate_zero, List.nil_append, List.append_nil, maxLen, List.length_append, List.length_take, List.length_drop, Nat.min_self, List.take_length, Option.getD_some, Option.getD_none, Option.isSome_some, Option.isSome_none, forall_const, Bool.false_eq_true, false_implies, imp_self, implies_true, decide_true, decide_false, dropMap, takeMap, effect, callEff, evO, evP, evL, argL, argX, dataL, plain, plainC, plainL, lk, one, vv, one1, isNil, binV, unV, cvV, load1, store1, fieldOf, cellsOf, cellsAt, asVal, shift, partOf, dataC, elemsC, app1, cop1, len1, mslice1, bslice1, rowsA, build1, fillA, idx1, index1, slice1, optInt, addrAt, cutC, putAt, allD, dv, spl, boolV, Option.map_some, Option.bind_some, Option.map_none, Option.bind_none, ↓reduceIte, Bool.not_true, Bool.not_false, Bool.false_eq_true, and_true, true_and, Option.some.injEq, List.length_map, Nat.reduceEqDiff, Nat.reduceLeDiff, Nat.reduceAdd, Int.reduceLT, Int.reduceLE, Int.reduceToNat, Int.toNat_natCast, List.length_cons, List.length_nil, List.take_succ_cons, List.take_zero, List.drop_zero, List.map_cons, List.map_nil, Nat.zero_add, Nat.le_refl, List.getD_cons_zero, List.getD_cons_succ, bt4, ti3, ti23, ti34, getD_num, ite_and, ite_le, ite_lt, ite_eq, ite_lei, ite_lti, ite_nei, IntWalk.i64_in]; first | rfl | done); (exact h26); simp (disch := omega) only [List.length_replicate, List.length_map, Nat.reduceBEq, Bool.not_false, Bool.not_true, ↓reduceIte, Bool.false_eq_true, BEq.rfl, put1, skip1, frOf, know, vv, one, del, decide_true, decide_false, List.filter_cons, List.filter_nil, List.nil_append, List.cons_append, Nat.reduceAdd, Nat.add_zero]; simp only [callHp, frz, rB, rN, rO, unV', unX, unXs, unC, List.flatMap_cons, List.flatMap_nil, idsX, idsC, List.append_nil, ↓reduceIte, List.nil_append, List.cons_append, lk, Nat.reduceEqDiff, Nat.reduceAdd, List.length_map, List.length_cons, List.length_nil])
    | (refine RegA.off rfl rfl ?_; simp (disch := omega) only [List.length_replicate, List.length_map, Nat.reduceBEq, Bool.not_false, Bool.not_true, ↓reduceIte, Bool.false_eq_true, BEq.rfl, put1, skip1, frOf, know, vv, one, del, decide_true, decide_false, List.filter_cons, List.filter_nil, List.nil_append, List.cons_append, Nat.reduceAdd, Nat.add_zero])
    | (refine RegA.split rfl ?_ ?_ <;> (intro hsp; (try simp only [Bool.not_eq_true', Bool.not_eq_false', decide_eq_true_eq, decide_eq_false_iff_not, Decidable.not_not, Int.not_lt, Int.not_le, Int.natCast_inj, Bool.and_eq_true, Bool.or_eq_true, Bool.not_not, ne_eq] at hsp); simp (disch := omega) only [List.length_replicate, List.length_map, Nat.reduceBEq, Bool.not_false, Bool.not_true, ↓reduceIte, Bool.false_eq_true, BEq.rfl, put1, skip1, frOf, know, vv, one, del, decide_true, decide_false, List.filter_cons, List.filter_nil, List.nil_append, List.cons_append, Nat.reduceAdd, Nat.add_zero]))
    | (apply DrawA.op' (hd := rfl); (simp only [List.length_cons, List.length_nil, Nat.reduceMul, Nat.reduceAdd]; rfl); (simp only [Bool.not_false, Bool.not_true, Eng.mk, Eng.put1, Eng.skip1, frOf, vv, one, del, List.filter_cons, List.filter_nil, List.nil_append, List.cons_append, Nat.reduceAdd, Nat.reduceMul, Nat.add_zero, List.length_nil, List.length_cons, List.getD_cons_zero, List.getD_cons_succ, List.contains_cons, List.contains_nil, Nat.reduceBEq, BEq.rfl, Bool.or_false, Bool.false_or, Bool.or_true, Bool.true_or, Bool.false_eq_true, ↓reduceIte, if_false, if_true, allIn, List.range, List.range.loop]; rfl); (first | exact trivial | rfl | exact congrArg some ‹_› | (simp (disch := omega) only [boolV, lk, ↓reduceIte, Nat.reduceEqDiff, decide_true, decide_false]; done)); (simp (disch := omega) only [binX, List.replicate_succ, List.set_cons_zero, List.set_cons_succ, List.drop_replicate, Nat.sub_self, List.length_replicate, true_or, or_true, or_false, List.replicate_zero, List.nil_append, List.append_nil, maxLen, List.length_append, List.length_take, List.length_drop, Nat.min_self, List.take_length, Option.getD_some, Option.getD_none, Option.isSome_some, Option.isSome_none, forall_const, Bool.false_eq_true, false_implies, imp_self, implies_true, decide_true, decide_false, dropMap, takeMap, effect, callEff, evO, evP, evL, argL, argX, dataL, plain, plainC, plainL, lk, one, vv, one1, isNil, binV, unV, cvV, load1, store1, fieldOf, cellsOf, cellsAt, asVal, shift, partOf, dataC, elemsC, app1, cop1, len1, mslice1, bslice1, rowsA, build1, fillA, idx1, index1, slice1, optInt, addrAt, cutC, putAt, allD, dv, spl, boolV, Option.map_some, Option.bind_some, Option.map_none, Option.bind_none, ↓reduceIte, Bool.not_true, Bool.not_false, Bool.false_eq_true, and_true, true_and, Option.some.injEq, List.length_map, Nat.reduceEqDiff, Nat.reduceLeDiff, Nat.reduceAdd, Int.reduceLT, Int.reduceLE, Int.reduceToNat, Int.toNat_natCast, List.length_cons, List.length_nil, List.take_succ_cons, List.take_zero, List.drop_zero, List.map_cons, List.map_nil, Nat.zero_add, Nat.le_refl, List.getD_cons_zero, List.getD_cons_succ, bt4, ti3, ti23, ti34, getD_num, ite_and, ite_le, ite_lt, ite_eq, ite_lei, ite_lti, ite_nei, IntWalk.i64_in]; first | rfl | done); rfl; rfl; simp only [List.nil_append, List.cons_append])
    | (apply DrawA.nil'; (simp only [List.length_cons, List.length_nil, Nat.reduceMul, Nat.reduceAdd]; rfl); (simp only [Bool.not_false, Bool.not_true, mkAll, Eng.put1, Eng.skip1, frOf, vv, one, del, List.filter_cons, List.filter_nil, List.nil_append, List.cons_append, Nat.reduceAdd, Nat.reduceMul, Nat.add_zero, List.length_nil, List.length_cons, List.getD_cons_zero, List.getD_cons_succ, List.contains_cons, List.contains_nil, Nat.reduceBEq, BEq.rfl, Bool.or_false, Bool.false_or, Bool.or_true, Bool.true_or, Bool.false_eq_true, ↓reduceIte, if_false, if_true, allIn, List.range, List.range.loop]; rfl); assumption)
    | (refine RegA.done ‹_› ?_)
    | (refine awp_seq fun K hK => ?_)
    | (refine Awp.reg ?_)
    | (refine Awp.skip ?_)
    | (refine Awp.block ?_)
    | (refine Awp.scope ?_)
    | (refine Awp.ct rfl ?_)
    | (refine Awp.cf rfl ?_)
    | (refine Awp.ct (congrArg some (congrArg Value.bool ?_)) ?_; focus (simp (disch := omega) only [decide_eq_true_eq, decide_eq_false_iff_not, Bool.not_eq_true', Bool.not_eq_false', decide_true, decide_false, Bool.not_true, Bool.not_false, bt4, ti3, ti23, ti34, getD_num, ite_and, ite_le, ite_lt, ite_eq, ite_lei, ite_lti, ite_nei, IntWalk.i64_in]; done))
    | (refine Awp.cf (congrArg some (congrArg Value.bool ?_)) ?_; focus (simp (disch := omega) only [decide_eq_true_eq, decide_eq_false_iff_not, Bool.not_eq_true', Bool.not_eq_false', decide_true, decide_false, Bool.not_true, Bool.not_false, bt4, ti3, ti23, ti34, getD_num, ite_and, ite_le, ite_lt, ite_eq, ite_lei, ite_lti, ite_nei, IntWalk.i64_in]; done))
    | (refine Awp.cond rfl ?_ ?_ <;> (intro hsp; (try simp only [Bool.not_eq_true', Bool.not_eq_false', decide_eq_true_eq, decide_eq_false_iff_not, Decidable.not_not, Int.not_lt, Int.not_le, Int.natCast_inj, Bool.and_eq_true, Bool.or_eq_true, Bool.not_not, ne_eq] at hsp)))
    | (refine Awp.exit ?_; simp only [blockQ, thenQ, scopeQ, ↓reduceIte, Nat.reduceEqDiff])
    | (refine viaK ‹_› ?_)
    | (simp only [thenQ_normal, blockQ_normal])))
  all_goals (refine Awp.ret ?_; apply ret_of (.inl rfl); rfl; (simp (disch := omega) only [outXs, outX, outC, outL, lk, ↓reduceIte, Nat.reduceEqDiff, List.length_map, List.length_nil, List.length_replicate, List.length_cons, List.length_take, List.length_drop, List.length_append, ite_eq, Option.map_some, Bool.false_eq_true]; rfl); (focus simp [ownsX, ownsC]); simp [laxR, laxX, laxC, rB, rN, rO, *] <;> (intros; omega))
end Go.Proofs.Ythknepamlbicmaa
