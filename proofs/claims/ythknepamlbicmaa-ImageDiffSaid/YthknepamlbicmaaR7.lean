/-
  The contracts of the program's functions, data in, data out. Conditions: those in the statements.
-/
import Derived.Test.YthknepamlbicmaaR5
namespace Go.Proofs.Ythknepamlbicmaa
set_option linter.all false
open Go Go.Proofs.Ythknepamlbicmaa.Eng Go.RowKit
def c8 : SC :=
  .seq
  (.reg
    [.mk (some 6) (.assign (.const (.bool false))) none])
  (.seq
    (.seq
      (.reg
        [.mk (some 13) (.move (.tmp 0)) none,
          .mk (some 14)
            (.call (.mk (.value (.func 23)) #[.tmp 13] #[23])) none,
          .mk (some 15)
            (.binOp .neq 3 (.tmp 14) (.const (.int .i64 0)) 3)
            none,
          .mk (some 16) (.move (.tmp 15)) none,
          .mk (some 17) (.move (.tmp 1)) (some (16, false)),
          .mk (some 18)
            (.binOp .lss 3 (.tmp 17) (.const (.int .i64 0)) 3)
            (some (16, false)),
          .mk (some 19)
            (.pick (.tmp 16) (.const (.bool true)) (.tmp 18))
            none,
          .mk (some 20) (.move (.tmp 19)) none,
          .mk (some 21) (.move (.tmp 1)) (some (20, false)),
          .mk (some 22) (.move (.tmp 0)) (some (20, false)),
          .mk (some 23)
            (.call (.mk (.builtin .len) #[.tmp 22] #[23]))
            (some (20, false)),
          .mk (some 24) (.binOp .geq 3 (.tmp 21) (.tmp 23) 3)
            (some (20, false)),
          .mk (some 25)
            (.pick (.tmp 20) (.const (.bool true)) (.tmp 24))
            none,
          .mk (some 26) (.move (.tmp 25)) none,
          .mk (some 27) (.move (.tmp 2)) (some (26, false)),
          .mk (some 28)
            (.binOp .lss 3 (.tmp 27) (.const (.int .i64 0)) 3)
            (some (26, false)),
          .mk (some 29)
            (.pick (.tmp 26) (.const (.bool true)) (.tmp 28))
            none,
          .mk (some 30) (.move (.tmp 29)) none,
          .mk (some 31) (.move (.tmp 2)) (some (30, false)),
          .mk (some 32) (.move (.tmp 0)) (some (30, false)),
          .mk (some 33)
            (.call (.mk (.builtin .len) #[.tmp 32] #[23]))
            (some (30, false)),
          .mk (some 34) (.binOp .geq 3 (.tmp 31) (.tmp 33) 3)
            (some (30, false)),
          .mk (some 35)
            (.pick (.tmp 30) (.const (.bool true)) (.tmp 34))
            none])
      (.cond (.tmp 35)
        (.seq
          (.reg
            [.mk (some 36) (.call (.mk (.value (.func 17)) #[] #[]))
                none,
              .mk (some 6) (.assign (.tmp 36)) none])
          .ret)
        .skip))
    (.seq
      (.reg
        [.mk (some 38) (.move (.tmp 0)) none,
          .mk (some 39) (.move (.tmp 1)) none,
          .mk (some 40)
            (.call
              (.mk (.value (.func 13)) #[.tmp 38, .tmp 39] #[23, 3]))
            none,
          .mk (some 37) (.move (.tmp 40)) none,
          .mk (some 41) (.extract (.tmp 37) 0) none,
          .mk (some 42) (.extract (.tmp 37) 1) none,
          .mk (some 43) (.extract (.tmp 37) 2) none,
          .mk (some 7) (.assign (.tmp 41)) none,
          .mk (some 8) (.assign (.tmp 42)) none,
          .mk (some 9) (.assign (.tmp 43)) none])
      (.seq
        (.reg
          [.mk (some 45) (.move (.tmp 0)) none,
            .mk (some 46) (.move (.tmp 2)) none,
            .mk (some 47)
              (.call
                (.mk (.value (.func 13)) #[.tmp 45, .tmp 46] #[23, 3]))
              none,
            .mk (some 44) (.move (.tmp 47)) none,
            .mk (some 48) (.extract (.tmp 44) 0) none,
            .mk (some 49) (.extract (.tmp 44) 1) none,
            .mk (some 50) (.extract (.tmp 44) 2) none,
            .mk (some 10) (.assign (.tmp 48)) none,
            .mk (some 11) (.assign (.tmp 49)) none,
            .mk (some 12) (.assign (.tmp 50)) none])
        (.seq
          (.seq
            (.reg
              [.mk (some 51) (.move (.tmp 9)) none,
                .mk (some 52)
                  (.binOp .neq 24 (.tmp 51) (.const (.int .i64 0))
                    24)
                  none,
                .mk (some 53) (.move (.tmp 52)) none,
                .mk (some 54) (.move (.tmp 12)) (some (53, false)),
                .mk (some 55)
                  (.binOp .neq 24 (.tmp 54) (.const (.int .i64 0))
                    24)
                  (some (53, false)),
                .mk (some 56)
                  (.pick (.tmp 53) (.const (.bool true)) (.tmp 55))
                  none,
                .mk (some 57) (.move (.tmp 56)) none,
                .mk (some 58) (.move (.tmp 8)) (some (57, false)),
                .mk (some 59)
                  (.binOp .lss 3 (.tmp 58) (.const (.int .i64 0)) 3)
                  (some (57, false)),
                .mk (some 60)
                  (.pick (.tmp 57) (.const (.bool true)) (.tmp 59))
                  none,
                .mk (some 61) (.move (.tmp 60)) none,
                .mk (some 62) (.move (.tmp 8)) (some (61, false)),
                .mk (some 63)
                  (.binOp .rem 3 (.tmp 62) (.const (.int .i64 8)) 3)
                  (some (61, false)),
                .mk (some 64)
                  (.binOp .neq 3 (.tmp 63) (.const (.int .i64 0)) 3)
                  (some (61, false)),
                .mk (some 65)
                  (.pick (.tmp 61) (.const (.bool true)) (.tmp 64))
                  none,
                .mk (some 66) (.move (.tmp 65)) none,
                .mk (some 67) (.move (.tmp 1)) (some (66, false)),
                .mk (some 68) (.move (.tmp 8)) (some (66, false)),
                .mk (some 69) (.binOp .lss 3 (.tmp 67) (.tmp 68) 3)
                  (some (66, false)),
                .mk (some 70)
                  (.pick (.tmp 66) (.const (.bool true)) (.tmp 69))
                  none,
                .mk (some 71) (.move (.tmp 70)) none,
                .mk (some 72) (.move (.tmp 1)) (some (71, false)),
                .mk (some 73) (.move (.tmp 8)) (some (71, false)),
                .mk (some 74)
                  (.binOp .add 3 (.tmp 73) (.const (.int .i64 7)) 3)
                  (some (71, false)),
                .mk (some 75) (.binOp .gtr 3 (.tmp 72) (.tmp 74) 3)
                  (some (71, false)),
                .mk (some 76)
                  (.pick (.tmp 71) (.const (.bool true)) (.tmp 75))
                  none,
                .mk (some 77) (.move (.tmp 76)) none,
                .mk (some 78) (.move (.tmp 7)) (some (77, false)),
                .mk (some 79)
                  (.binOp .lss 3 (.tmp 78) (.const (.int .i64 0)) 3)
                  (some (77, false)),
                .mk (some 80)
                  (.pick (.tmp 77) (.const (.bool true)) (.tmp 79))
                  none,
                .mk (some 81) (.move (.tmp 80)) none,
                .mk (some 82) (.move (.tmp 7)) (some (81, false)),
                .mk (some 83) (.move (.tmp 0)) (some (81, false)),
                .mk (some 84)
                  (.call (.mk (.builtin .len) #[.tmp 83] #[23]))
                  (some (81, false)),
                .mk (some 85)
                  (.binOp .quo 3 (.tmp 84) (.const (.int .i64 8)) 3)
                  (some (81, false)),
                .mk (some 86) (.binOp .geq 3 (.tmp 82) (.tmp 85) 3)
                  (some (81, false)),
                .mk (some 87)
                  (.pick (.tmp 81) (.const (.bool true)) (.tmp 86))
                  none])
            (.cond (.tmp 87)
              (.seq
                (.reg
                  [.mk (some 6) (.assign (.const (.bool false)))
                      none])
                .ret)
              .skip))
          (.seq
            (.reg
              [.mk (some 88) (.move (.tmp 7)) none,
                .mk (some 89) (.move (.tmp 10)) none,
                .mk (some 90) (.binOp .eql 3 (.tmp 88) (.tmp 89) 3)
                  none,
                .mk (some 91) (.move (.tmp 8)) none,
                .mk (some 92) (.move (.tmp 11)) none,
                .mk (some 93) (.binOp .eql 3 (.tmp 91) (.tmp 92) 3)
                  none,
                .mk (some 94) (.binOp .eql 4 (.tmp 90) (.tmp 93) 4)
                  none,
                .mk (some 95) (.move (.tmp 94)) none,
                .mk (some 96) (.move (.tmp 7)) (some (95, true)),
                .mk (some 97) (.move (.tmp 10)) (some (95, true)),
                .mk (some 98) (.binOp .eql 3 (.tmp 96) (.tmp 97) 3)
                  (some (95, true)),
                .mk (some 99) (.move (.tmp 2)) (some (95, true)),
                .mk (some 100) (.move (.tmp 8)) (some (95, true)),
                .mk (some 101) (.binOp .geq 3 (.tmp 99) (.tmp 100) 3)
                  (some (95, true)),
                .mk (some 102) (.move (.tmp 101)) (some (95, true)),
                .mk (some 103) (.move (.tmp 2)) (some (102, true)),
                .mk (some 104) (.move (.tmp 8)) (some (102, true)),
                .mk (some 105)
                  (.binOp .add 3 (.tmp 104) (.const (.int .i64 7)) 3)
                  (some (102, true)),
                .mk (some 106) (.binOp .leq 3 (.tmp 103) (.tmp 105) 3)
                  (some (102, true)),
                .mk (some 107)
                  (.pick (.tmp 102) (.tmp 106) (.const (.bool false)))
                  (some (95, true)),
                .mk (some 108) (.binOp .eql 4 (.tmp 98) (.tmp 107) 4)
                  (some (95, true)),
                .mk (some 109)
                  (.pick (.tmp 95) (.tmp 108) (.const (.bool false)))
                  none,
                .mk (some 110) (.move (.tmp 109)) none,
                .mk (some 111) (.move (.tmp 8)) (some (110, true)),
                .mk (some 112) (.move (.tmp 7)) (some (110, true)),
                .mk (some 113)
                  (.binOp .mul 3 (.const (.int .i64 8)) (.tmp 112) 3)
                  (some (110, true)),
                .mk (some 114) (.binOp .eql 3 (.tmp 111) (.tmp 113) 3)
                  (some (110, true)),
                .mk (some 115)
                  (.pick (.tmp 110) (.tmp 114) (.const (.bool false)))
                  none,
                .mk (some 116) (.move (.tmp 115)) none,
                .mk (some 117) (.call (.mk (.value (.func 17)) #[] #[]))
                  (some (116, true)),
                .mk (some 118)
                  (.pick (.tmp 116) (.tmp 117) (.const (.bool false)))
                  none,
                .mk (some 6) (.assign (.tmp 118)) none])
            .ret)))))
theorem s8 : Try.f8.body.bind slim = some c8 := by kernel_rfl
theorem n8 : Try.f8.ntmps = 119 := rfl
theorem r8 : Try.f8.results.toList = [ResultVar.tmp 6] := rfl

theorem getE0 {w a n : Int} (h : chk w = 0 ∧ 0 ≤ a ∧ 0 ≤ n ∧ n ≤ w - a) : getE w a n = 0 := by
  unfold getE
  rw [if_pos h.1, if_pos h.2]
theorem lineV_is {w a : Int} (h : chk w = 0 ∧ 0 ≤ a ∧ 1 ≤ w - a) : lineV w a = a / 8 := by
  unfold lineV
  rw [if_pos h.1, if_pos h.2]
theorem chk_len {m : List Int} (h : chk m.length = 0) : m.length ≤ 2048 := by have := chk_le h; omega
theorem decLtF {a b : Int} (h : ¬ a < b) : decide (a < b) = false := decide_eq_false h
theorem decLeF {a b : Int} (h : ¬ a ≤ b) : decide (a ≤ b) = false := decide_eq_false h
theorem decEqT {a b : Int} (h : a = b) : decide (a = b) = true := decide_eq_true h
theorem decEqF {a b : Int} (h : ¬ a = b) : decide (a = b) = false := decide_eq_false h
theorem beqDec {p q : Prop} [Decidable p] [Decidable q] (h : p ↔ q) : (decide p == decide q) = true := by simp [h]
theorem beqF {p : Prop} [Decidable p] (h : ¬ p) : (decide p == false) = true := by simp [h]
theorem len8 {m : List Int} (h : chk m.length = 0) : (m.length : Int) = 8 * ((m.length : Int) / 8) := by
  unfold chk sz at h
  split at h
  · rename_i hh
    simp at hh
    have h2 := hh.2
    rw [Int.tmod_eq_emod_of_nonneg (by omega)] at h2
    omega
  · omega
set_option maxHeartbeats 1000000 in
set_option maxRecDepth 10000 in
theorem law8 (m : List Int) (hc : chk (m.length : Int) = 0) (hl : m.length ≤ 2048) (h8 : (m.length : Int) = 8 * ((m.length : Int) / 8)) (a b : Int) (ha : 0 ≤ a ∧ a < m.length) (hb : 0 ≤ b ∧ b < m.length) : Con Try.prog 8 [sN .u64 m, vN .i64 a, vN .i64 b] [rB true] := by
  refine con_of_awp hmix Try.func8 s8 rfl (by rw [n8]; simp) r8 n8 ?_
  simp only [Eng.start, startFr, inX, sN, vN, c8]
  (repeat' (first
    | (apply RegA.op (hd := rfl); (first | exact trivial | rfl | exact congrArg some ‹_› | (simp (disch := omega) only [boolV, lk, ↓reduceIte, Nat.reduceEqDiff, decide_true, decide_false]; done)); (simp (disch := omega) only [binX, List.replicate_succ, List.set_cons_zero, List.set_cons_succ, List.drop_replicate, Nat.sub_self, List.length_replicate, true_or, or_true, or_false, List.replicate_zero, List.nil_append, List.append_nil, maxLen, List.length_append, List.length_take, List.length_drop, Nat.min_self, List.take_length, Option.getD_some, Option.getD_none, Option.isSome_some, Option.isSome_none, forall_const, Bool.false_eq_true, false_implies, imp_self, implies_true, decide_true, decide_false, dropMap, takeMap, effect, callEff, evO, evP, evL, argL, argX, dataL, plain, plainC, plainL, lk, one, vv, one1, isNil, binV, unV, cvV, load1, store1, fieldOf, cellsOf, cellsAt, asVal, shift, partOf, dataC, elemsC, app1, cop1, len1, mslice1, bslice1, rowsA, build1, fillA, idx1, index1, slice1, optInt, addrAt, cutC, putAt, allD, dv, spl, boolV, Option.map_some, Option.bind_some, Option.map_none, Option.bind_none, ↓reduceIte, Bool.not_true, Bool.not_false, Bool.false_eq_true, and_true, true_and, Option.some.injEq, List.length_map, Nat.reduceEqDiff, Nat.reduceLeDiff, Nat.reduceAdd, Int.reduceLT, Int.reduceLE, Int.reduceToNat, Int.toNat_natCast, List.length_cons, List.length_nil, List.take_succ_cons, List.take_zero, List.drop_zero, List.map_cons, List.map_nil, Nat.zero_add, Nat.le_refl, List.getD_cons_zero, List.getD_cons_succ, bt4, ti3, ti23, ti34, getD_num, ite_and, ite_le, ite_lt, ite_eq, ite_lei, ite_lti, ite_nei, IntWalk.i64_in, ti22, tdiv8, tmod8, takeAll, takeDropAll, toNatAdd, toNatSub, getE0, lineV_is, decLtF, decLeF, decEqT, beqDec, beqF]; first | rfl | done); simp (disch := omega) only [List.length_replicate, List.length_map, Nat.reduceBEq, Bool.not_false, Bool.not_true, ↓reduceIte, Bool.false_eq_true, BEq.rfl, put1, skip1, frOf, know, vv, one, del, decide_true, decide_false, List.filter_cons, List.filter_nil, List.nil_append, List.cons_append, Nat.reduceAdd, Nat.add_zero, getE0, lineV_is, decLtF, decLeF, decEqT, beqDec, beqF])
    | (apply RegA.call (hd := rfl) (fz := true) (hfz := .inl rfl); (first | exact trivial | rfl | exact congrArg some ‹_› | (simp (disch := omega) only [boolV, lk, ↓reduceIte, Nat.reduceEqDiff, decide_true, decide_false]; done)); (simp (disch := omega) only [binX, List.replicate_succ, List.set_cons_zero, List.set_cons_succ, List.drop_replicate, Nat.sub_self, List.length_replicate, true_or, or_true, or_false, List.replicate_zero, List.nil_append, List.append_nil, maxLen, List.length_append, List.length_take, List.length_drop, Nat.min_self, List.take_length, Option.getD_some, Option.getD_none, Option.isSome_some, Option.isSome_none, forall_const, Bool.false_eq_true, false_implies, imp_self, implies_true, decide_true, decide_false, dropMap, takeMap, effect, callEff, evO, evP, evL, argL, argX, dataL, plain, plainC, plainL, lk, one, vv, one1, isNil, binV, unV, cvV, load1, store1, fieldOf, cellsOf, cellsAt, asVal, shift, partOf, dataC, elemsC, app1, cop1, len1, mslice1, bslice1, rowsA, build1, fillA, idx1, index1, slice1, optInt, addrAt, cutC, putAt, allD, dv, spl, boolV, Option.map_some, Option.bind_some, Option.map_none, Option.bind_none, ↓reduceIte, Bool.not_true, Bool.not_false, Bool.false_eq_true, and_true, true_and, Option.some.injEq, List.length_map, Nat.reduceEqDiff, Nat.reduceLeDiff, Nat.reduceAdd, Int.reduceLT, Int.reduceLE, Int.reduceToNat, Int.toNat_natCast, List.length_cons, List.length_nil, List.take_succ_cons, List.take_zero, List.drop_zero, List.map_cons, List.map_nil, Nat.zero_add, Nat.le_refl, List.getD_cons_zero, List.getD_cons_succ, bt4, ti3, ti23, ti34, getD_num, ite_and, ite_le, ite_lt, ite_eq, ite_lei, ite_lti, ite_nei, IntWalk.i64_in, ti22, tdiv8, tmod8, takeAll, takeDropAll, toNatAdd, toNatSub, getE0, lineV_is, decLtF, decLeF, decEqT, beqDec, beqF]; first | rfl | done); (simp (disch := omega) only [binX, List.replicate_succ, List.set_cons_zero, List.set_cons_succ, List.drop_replicate, Nat.sub_self, List.length_replicate, true_or, or_true, or_false, List.replicate_zero, List.nil_append, List.append_nil, maxLen, List.length_append, List.length_take, List.length_drop, Nat.min_self, List.take_length, Option.getD_some, Option.getD_none, Option.isSome_some, Option.isSome_none, forall_const, Bool.false_eq_true, false_implies, imp_self, implies_true, decide_true, decide_false, dropMap, takeMap, effect, callEff, evO, evP, evL, argL, argX, dataL, plain, plainC, plainL, lk, one, vv, one1, isNil, binV, unV, cvV, load1, store1, fieldOf, cellsOf, cellsAt, asVal, shift, partOf, dataC, elemsC, app1, cop1, len1, mslice1, bslice1, rowsA, build1, fillA, idx1, index1, slice1, optInt, addrAt, cutC, putAt, allD, dv, spl, boolV, Option.map_some, Option.bind_some, Option.map_none, Option.bind_none, ↓reduceIte, Bool.not_true, Bool.not_false, Bool.false_eq_true, and_true, true_and, Option.some.injEq, List.length_map, Nat.reduceEqDiff, Nat.reduceLeDiff, Nat.reduceAdd, Int.reduceLT, Int.reduceLE, Int.reduceToNat, Int.toNat_natCast, List.length_cons, List.length_nil, List.take_succ_cons, List.take_zero, List.drop_zero, List.map_cons, List.map_nil, Nat.zero_add, Nat.le_refl, List.getD_cons_zero, List.getD_cons_succ, bt4, ti3, ti23, ti34, getD_num, ite_and, ite_le, ite_lt, ite_eq, ite_lei, ite_lti, ite_nei, IntWalk.i64_in, ti22, tdiv8, tmod8, takeAll, takeDropAll, toNatAdd, toNatSub, getE0, lineV_is, decLtF, decLeF, decEqT, beqDec, beqF]; first | rfl | done); (exact con23 _); simp (disch := omega) only [List.length_replicate, List.length_map, Nat.reduceBEq, Bool.not_false, Bool.not_true, ↓reduceIte, Bool.false_eq_true, BEq.rfl, put1, skip1, frOf, know, vv, one, del, decide_true, decide_false, List.filter_cons, List.filter_nil, List.nil_append, List.cons_append, Nat.reduceAdd, Nat.add_zero, getE0, lineV_is, decLtF, decLeF, decEqT, beqDec, beqF]; simp only [callHp, frz, rB, rN, rO, unV', unX, unXs, unC, List.flatMap_cons, List.flatMap_nil, idsX, idsC, List.append_nil, ↓reduceIte, List.nil_append, List.cons_append, lk, Nat.reduceEqDiff, Nat.reduceAdd, List.length_map, List.length_cons, List.length_nil])
    | (apply RegA.call (hd := rfl) (fz := true) (hfz := .inl rfl); (first | exact trivial | rfl | exact congrArg some ‹_› | (simp (disch := omega) only [boolV, lk, ↓reduceIte, Nat.reduceEqDiff, decide_true, decide_false]; done)); (simp (disch := omega) only [binX, List.replicate_succ, List.set_cons_zero, List.set_cons_succ, List.drop_replicate, Nat.sub_self, List.length_replicate, true_or, or_true, or_false, List.replicate_zero, List.nil_append, List.append_nil, maxLen, List.length_append, List.length_take, List.length_drop, Nat.min_self, List.take_length, Option.getD_some, Option.getD_none, Option.isSome_some, Option.isSome_none, forall_const, Bool.false_eq_true, false_implies, imp_self, implies_true, decide_true, decide_false, dropMap, takeMap, effect, callEff, evO, evP, evL, argL, argX, dataL, plain, plainC, plainL, lk, one, vv, one1, isNil, binV, unV, cvV, load1, store1, fieldOf, cellsOf, cellsAt, asVal, shift, partOf, dataC, elemsC, app1, cop1, len1, mslice1, bslice1, rowsA, build1, fillA, idx1, index1, slice1, optInt, addrAt, cutC, putAt, allD, dv, spl, boolV, Option.map_some, Option.bind_some, Option.map_none, Option.bind_none, ↓reduceIte, Bool.not_true, Bool.not_false, Bool.false_eq_true, and_true, true_and, Option.some.injEq, List.length_map, Nat.reduceEqDiff, Nat.reduceLeDiff, Nat.reduceAdd, Int.reduceLT, Int.reduceLE, Int.reduceToNat, Int.toNat_natCast, List.length_cons, List.length_nil, List.take_succ_cons, List.take_zero, List.drop_zero, List.map_cons, List.map_nil, Nat.zero_add, Nat.le_refl, List.getD_cons_zero, List.getD_cons_succ, bt4, ti3, ti23, ti34, getD_num, ite_and, ite_le, ite_lt, ite_eq, ite_lei, ite_lti, ite_nei, IntWalk.i64_in, ti22, tdiv8, tmod8, takeAll, takeDropAll, toNatAdd, toNatSub, getE0, lineV_is, decLtF, decLeF, decEqT, beqDec, beqF]; first | rfl | done); (simp (disch := omega) only [binX, List.replicate_succ, List.set_cons_zero, List.set_cons_succ, List.drop_replicate, Nat.sub_self, List.length_replicate, true_or, or_true, or_false, List.replicate_zero, List.nil_append, List.append_nil, maxLen, List.length_append, List.length_take, List.length_drop, Nat.min_self, List.take_length, Option.getD_some, Option.getD_none, Option.isSome_some, Option.isSome_none, forall_const, Bool.false_eq_true, false_implies, imp_self, implies_true, decide_true, decide_false, dropMap, takeMap, effect, callEff, evO, evP, evL, argL, argX, dataL, plain, plainC, plainL, lk, one, vv, one1, isNil, binV, unV, cvV, load1, store1, fieldOf, cellsOf, cellsAt, asVal, shift, partOf, dataC, elemsC, app1, cop1, len1, mslice1, bslice1, rowsA, build1, fillA, idx1, index1, slice1, optInt, addrAt, cutC, putAt, allD, dv, spl, boolV, Option.map_some, Option.bind_some, Option.map_none, Option.bind_none, ↓reduceIte, Bool.not_true, Bool.not_false, Bool.false_eq_true, and_true, true_and, Option.some.injEq, List.length_map, Nat.reduceEqDiff, Nat.reduceLeDiff, Nat.reduceAdd, Int.reduceLT, Int.reduceLE, Int.reduceToNat, Int.toNat_natCast, List.length_cons, List.length_nil, List.take_succ_cons, List.take_zero, List.drop_zero, List.map_cons, List.map_nil, Nat.zero_add, Nat.le_refl, List.getD_cons_zero, List.getD_cons_succ, bt4, ti3, ti23, ti34, getD_num, ite_and, ite_le, ite_lt, ite_eq, ite_lei, ite_lti, ite_nei, IntWalk.i64_in, ti22, tdiv8, tmod8, takeAll, takeDropAll, toNatAdd, toNatSub, getE0, lineV_is, decLtF, decLeF, decEqT, beqDec, beqF]; first | rfl | done); (exact con13 _ _ (by omega) (by omega)); simp (disch := omega) only [List.length_replicate, List.length_map, Nat.reduceBEq, Bool.not_false, Bool.not_true, ↓reduceIte, Bool.false_eq_true, BEq.rfl, put1, skip1, frOf, know, vv, one, del, decide_true, decide_false, List.filter_cons, List.filter_nil, List.nil_append, List.cons_append, Nat.reduceAdd, Nat.add_zero, getE0, lineV_is, decLtF, decLeF, decEqT, beqDec, beqF]; simp only [callHp, frz, rB, rN, rO, unV', unX, unXs, unC, List.flatMap_cons, List.flatMap_nil, idsX, idsC, List.append_nil, ↓reduceIte, List.nil_append, List.cons_append, lk, Nat.reduceEqDiff, Nat.reduceAdd, List.length_map, List.length_cons, List.length_nil])
    | (apply RegA.call (hd := rfl) (fz := true) (hfz := .inl rfl); (first | exact trivial | rfl | exact congrArg some ‹_› | (simp (disch := omega) only [boolV, lk, ↓reduceIte, Nat.reduceEqDiff, decide_true, decide_false]; done)); (simp (disch := omega) only [binX, List.replicate_succ, List.set_cons_zero, List.set_cons_succ, List.drop_replicate, Nat.sub_self, List.length_replicate, true_or, or_true, or_false, List.replicate_zero, List.nil_append, List.append_nil, maxLen, List.length_append, List.length_take, List.length_drop, Nat.min_self, List.take_length, Option.getD_some, Option.getD_none, Option.isSome_some, Option.isSome_none, forall_const, Bool.false_eq_true, false_implies, imp_self, implies_true, decide_true, decide_false, dropMap, takeMap, effect, callEff, evO, evP, evL, argL, argX, dataL, plain, plainC, plainL, lk, one, vv, one1, isNil, binV, unV, cvV, load1, store1, fieldOf, cellsOf, cellsAt, asVal, shift, partOf, dataC, elemsC, app1, cop1, len1, mslice1, bslice1, rowsA, build1, fillA, idx1, index1, slice1, optInt, addrAt, cutC, putAt, allD, dv, spl, boolV, Option.map_some, Option.bind_some, Option.map_none, Option.bind_none, ↓reduceIte, Bool.not_true, Bool.not_false, Bool.false_eq_true, and_true, true_and, Option.some.injEq, List.length_map, Nat.reduceEqDiff, Nat.reduceLeDiff, Nat.reduceAdd, Int.reduceLT, Int.reduceLE, Int.reduceToNat, Int.toNat_natCast, List.length_cons, List.length_nil, List.take_succ_cons, List.take_zero, List.drop_zero, List.map_cons, List.map_nil, Nat.zero_add, Nat.le_refl, List.getD_cons_zero, List.getD_cons_succ, bt4, ti3, ti23, ti34, getD_num, ite_and, ite_le, ite_lt, ite_eq, ite_lei, ite_lti, ite_nei, IntWalk.i64_in, ti22, tdiv8, tmod8, takeAll, takeDropAll, toNatAdd, toNatSub, getE0, lineV_is, decLtF, decLeF, decEqT, beqDec, beqF]; first | rfl | done); (simp (disch := omega) only [binX, List.replicate_succ, List.set_cons_zero, List.set_cons_succ, List.drop_replicate, Nat.sub_self, List.length_replicate, true_or, or_true, or_false, List.replicate_zero, List.nil_append, List.append_nil, maxLen, List.length_append, List.length_take, List.length_drop, Nat.min_self, List.take_length, Option.getD_some, Option.getD_none, Option.isSome_some, Option.isSome_none, forall_const, Bool.false_eq_true, false_implies, imp_self, implies_true, decide_true, decide_false, dropMap, takeMap, effect, callEff, evO, evP, evL, argL, argX, dataL, plain, plainC, plainL, lk, one, vv, one1, isNil, binV, unV, cvV, load1, store1, fieldOf, cellsOf, cellsAt, asVal, shift, partOf, dataC, elemsC, app1, cop1, len1, mslice1, bslice1, rowsA, build1, fillA, idx1, index1, slice1, optInt, addrAt, cutC, putAt, allD, dv, spl, boolV, Option.map_some, Option.bind_some, Option.map_none, Option.bind_none, ↓reduceIte, Bool.not_true, Bool.not_false, Bool.false_eq_true, and_true, true_and, Option.some.injEq, List.length_map, Nat.reduceEqDiff, Nat.reduceLeDiff, Nat.reduceAdd, Int.reduceLT, Int.reduceLE, Int.reduceToNat, Int.toNat_natCast, List.length_cons, List.length_nil, List.take_succ_cons, List.take_zero, List.drop_zero, List.map_cons, List.map_nil, Nat.zero_add, Nat.le_refl, List.getD_cons_zero, List.getD_cons_succ, bt4, ti3, ti23, ti34, getD_num, ite_and, ite_le, ite_lt, ite_eq, ite_lei, ite_lti, ite_nei, IntWalk.i64_in, ti22, tdiv8, tmod8, takeAll, takeDropAll, toNatAdd, toNatSub, getE0, lineV_is, decLtF, decLeF, decEqT, beqDec, beqF]; first | rfl | done); (exact con17); simp (disch := omega) only [List.length_replicate, List.length_map, Nat.reduceBEq, Bool.not_false, Bool.not_true, ↓reduceIte, Bool.false_eq_true, BEq.rfl, put1, skip1, frOf, know, vv, one, del, decide_true, decide_false, List.filter_cons, List.filter_nil, List.nil_append, List.cons_append, Nat.reduceAdd, Nat.add_zero, getE0, lineV_is, decLtF, decLeF, decEqT, beqDec, beqF]; simp only [callHp, frz, rB, rN, rO, unV', unX, unXs, unC, List.flatMap_cons, List.flatMap_nil, idsX, idsC, List.append_nil, ↓reduceIte, List.nil_append, List.cons_append, lk, Nat.reduceEqDiff, Nat.reduceAdd, List.length_map, List.length_cons, List.length_nil])
    | (refine RegA.off rfl rfl ?_; simp (disch := omega) only [List.length_replicate, List.length_map, Nat.reduceBEq, Bool.not_false, Bool.not_true, ↓reduceIte, Bool.false_eq_true, BEq.rfl, put1, skip1, frOf, know, vv, one, del, decide_true, decide_false, List.filter_cons, List.filter_nil, List.nil_append, List.cons_append, Nat.reduceAdd, Nat.add_zero, getE0, lineV_is, decLtF, decLeF, decEqT, beqDec, beqF])
    | (refine RegA.split rfl ?_ ?_ <;> (intro hsp; (try simp only [Bool.not_eq_true', Bool.not_eq_false', decide_eq_true_eq, decide_eq_false_iff_not, Decidable.not_not, Int.not_lt, Int.not_le, Int.natCast_inj, Bool.and_eq_true, Bool.or_eq_true, Bool.not_not, ne_eq] at hsp); simp (disch := omega) only [List.length_replicate, List.length_map, Nat.reduceBEq, Bool.not_false, Bool.not_true, ↓reduceIte, Bool.false_eq_true, BEq.rfl, put1, skip1, frOf, know, vv, one, del, decide_true, decide_false, List.filter_cons, List.filter_nil, List.nil_append, List.cons_append, Nat.reduceAdd, Nat.add_zero, getE0, lineV_is, decLtF, decLeF, decEqT, beqDec, beqF]))
    | (apply DrawA.op' (hd := rfl); (simp only [List.length_cons, List.length_nil, Nat.reduceMul, Nat.reduceAdd]; rfl); (simp only [Bool.not_false, Bool.not_true, Eng.mk, Eng.put1, Eng.skip1, frOf, vv, one, del, List.filter_cons, List.filter_nil, List.nil_append, List.cons_append, Nat.reduceAdd, Nat.reduceMul, Nat.add_zero, List.length_nil, List.length_cons, List.getD_cons_zero, List.getD_cons_succ, List.contains_cons, List.contains_nil, Nat.reduceBEq, BEq.rfl, Bool.or_false, Bool.false_or, Bool.or_true, Bool.true_or, Bool.false_eq_true, ↓reduceIte, if_false, if_true, allIn, List.range, List.range.loop]; rfl); (first | exact trivial | rfl | exact congrArg some ‹_› | (simp (disch := omega) only [boolV, lk, ↓reduceIte, Nat.reduceEqDiff, decide_true, decide_false]; done)); (simp (disch := omega) only [binX, List.replicate_succ, List.set_cons_zero, List.set_cons_succ, List.drop_replicate, Nat.sub_self, List.length_replicate, true_or, or_true, or_false, List.replicate_zero, List.nil_append, List.append_nil, maxLen, List.length_append, List.length_take, List.length_drop, Nat.min_self, List.take_length, Option.getD_some, Option.getD_none, Option.isSome_some, Option.isSome_none, forall_const, Bool.false_eq_true, false_implies, imp_self, implies_true, decide_true, decide_false, dropMap, takeMap, effect, callEff, evO, evP, evL, argL, argX, dataL, plain, plainC, plainL, lk, one, vv, one1, isNil, binV, unV, cvV, load1, store1, fieldOf, cellsOf, cellsAt, asVal, shift, partOf, dataC, elemsC, app1, cop1, len1, mslice1, bslice1, rowsA, build1, fillA, idx1, index1, slice1, optInt, addrAt, cutC, putAt, allD, dv, spl, boolV, Option.map_some, Option.bind_some, Option.map_none, Option.bind_none, ↓reduceIte, Bool.not_true, Bool.not_false, Bool.false_eq_true, and_true, true_and, Option.some.injEq, List.length_map, Nat.reduceEqDiff, Nat.reduceLeDiff, Nat.reduceAdd, Int.reduceLT, Int.reduceLE, Int.reduceToNat, Int.toNat_natCast, List.length_cons, List.length_nil, List.take_succ_cons, List.take_zero, List.drop_zero, List.map_cons, List.map_nil, Nat.zero_add, Nat.le_refl, List.getD_cons_zero, List.getD_cons_succ, bt4, ti3, ti23, ti34, getD_num, ite_and, ite_le, ite_lt, ite_eq, ite_lei, ite_lti, ite_nei, IntWalk.i64_in, ti22, tdiv8, tmod8, takeAll, takeDropAll, toNatAdd, toNatSub, getE0, lineV_is, decLtF, decLeF, decEqT, beqDec, beqF]; first | rfl | done); rfl; rfl; simp only [List.nil_append, List.cons_append])
    | (apply DrawA.nil'; (simp only [List.length_cons, List.length_nil, Nat.reduceMul, Nat.reduceAdd]; rfl); (simp only [Bool.not_false, Bool.not_true, mkAll, Eng.put1, Eng.skip1, frOf, vv, one, del, List.filter_cons, List.filter_nil, List.nil_append, List.cons_append, Nat.reduceAdd, Nat.reduceMul, Nat.add_zero, List.length_nil, List.length_cons, List.getD_cons_zero, List.getD_cons_succ, List.contains_cons, List.contains_nil, Nat.reduceBEq, BEq.rfl, Bool.or_false, Bool.false_or, Bool.or_true, Bool.true_or, Bool.false_eq_true, ↓reduceIte, if_false, if_true, allIn, List.range, List.range.loop]; rfl); assumption)
    | (refine RegA.done ‹_› ?_)
    | (refine awp_seq fun K hK => ?_)
    | (refine Awp.reg ?_)
    | (refine Awp.skip ?_)
    | (refine Awp.block ?_)
    | (refine Awp.scope ?_)
    | (refine Awp.ct rfl ?_)
    | (refine Awp.cf rfl ?_)
    | (refine Awp.ct (congrArg some (congrArg Value.bool ?_)) ?_; focus (simp (disch := omega) only [decide_eq_true_eq, decide_eq_false_iff_not, Bool.not_eq_true', Bool.not_eq_false', decide_true, decide_false, Bool.not_true, Bool.not_false, bt4, ti3, ti23, ti34, getD_num, ite_and, ite_le, ite_lt, ite_eq, ite_lei, ite_lti, ite_nei, IntWalk.i64_in, ti22, tdiv8, tmod8, takeAll, takeDropAll, toNatAdd, toNatSub, getE0, lineV_is, decLtF, decLeF, decEqT, beqDec, beqF]; done))
    | (refine Awp.cf (congrArg some (congrArg Value.bool ?_)) ?_; focus (simp (disch := omega) only [decide_eq_true_eq, decide_eq_false_iff_not, Bool.not_eq_true', Bool.not_eq_false', decide_true, decide_false, Bool.not_true, Bool.not_false, bt4, ti3, ti23, ti34, getD_num, ite_and, ite_le, ite_lt, ite_eq, ite_lei, ite_lti, ite_nei, IntWalk.i64_in, ti22, tdiv8, tmod8, takeAll, takeDropAll, toNatAdd, toNatSub, getE0, lineV_is, decLtF, decLeF, decEqT, beqDec, beqF]; done))
    | (refine Awp.cond rfl ?_ ?_ <;> (intro hsp; (try simp only [Bool.not_eq_true', Bool.not_eq_false', decide_eq_true_eq, decide_eq_false_iff_not, Decidable.not_not, Int.not_lt, Int.not_le, Int.natCast_inj, Bool.and_eq_true, Bool.or_eq_true, Bool.not_not, ne_eq] at hsp)))
    | (refine Awp.exit ?_; simp only [blockQ, thenQ, scopeQ, ↓reduceIte, Nat.reduceEqDiff])
    | (refine viaK ‹_› ?_)
    | (simp only [thenQ_normal, blockQ_normal])))
  all_goals (refine Awp.ret ?_; apply ret_of (.inl rfl); rfl; (simp (disch := omega) only [outXs, outX, outC, outL, lk, ↓reduceIte, Nat.reduceEqDiff, List.length_map, List.length_nil, List.length_replicate, List.length_cons, List.length_take, List.length_drop, List.length_append, ite_eq, Option.map_some, Bool.false_eq_true]; rfl); (focus simp [ownsX, ownsC]); simp [laxR, laxX, laxC, rB, rN, rO, *] <;> (intros; omega))
set_option maxHeartbeats 1000000 in
set_option maxRecDepth 10000 in
theorem bad8 (m : List Int) (a b : Int) (h : ¬ (chk (m.length : Int) = 0 ∧ 0 ≤ a ∧ a < m.length ∧ 0 ≤ b ∧ b < m.length)) : Con Try.prog 8 [sN .u64 m, vN .i64 a, vN .i64 b] [rB true] := by
  refine con_of_awp hmix Try.func8 s8 rfl (by rw [n8]; simp) r8 n8 ?_
  simp only [Eng.start, startFr, inX, sN, vN, c8]
  (repeat' (first
    | (apply RegA.op (hd := rfl); (first | exact trivial | rfl | exact congrArg some ‹_› | (simp (disch := omega) only [boolV, lk, ↓reduceIte, Nat.reduceEqDiff, decide_true, decide_false]; done)); (simp (disch := omega) only [binX, List.replicate_succ, List.set_cons_zero, List.set_cons_succ, List.drop_replicate, Nat.sub_self, List.length_replicate, true_or, or_true, or_false, List.replicate_zero, List.nil_append, List.append_nil, maxLen, List.length_append, List.length_take, List.length_drop, Nat.min_self, List.take_length, Option.getD_some, Option.getD_none, Option.isSome_some, Option.isSome_none, forall_const, Bool.false_eq_true, false_implies, imp_self, implies_true, decide_true, decide_false, dropMap, takeMap, effect, callEff, evO, evP, evL, argL, argX, dataL, plain, plainC, plainL, lk, one, vv, one1, isNil, binV, unV, cvV, load1, store1, fieldOf, cellsOf, cellsAt, asVal, shift, partOf, dataC, elemsC, app1, cop1, len1, mslice1, bslice1, rowsA, build1, fillA, idx1, index1, slice1, optInt, addrAt, cutC, putAt, allD, dv, spl, boolV, Option.map_some, Option.bind_some, Option.map_none, Option.bind_none, ↓reduceIte, Bool.not_true, Bool.not_false, Bool.false_eq_true, and_true, true_and, Option.some.injEq, List.length_map, Nat.reduceEqDiff, Nat.reduceLeDiff, Nat.reduceAdd, Int.reduceLT, Int.reduceLE, Int.reduceToNat, Int.toNat_natCast, List.length_cons, List.length_nil, List.take_succ_cons, List.take_zero, List.drop_zero, List.map_cons, List.map_nil, Nat.zero_add, Nat.le_refl, List.getD_cons_zero, List.getD_cons_succ, bt4, ti3, ti23, ti34, getD_num, ite_and, ite_le, ite_lt, ite_eq, ite_lei, ite_lti, ite_nei, IntWalk.i64_in, ti22, tdiv8, tmod8, takeAll, takeDropAll, toNatAdd, toNatSub]; first | rfl | done); simp (disch := omega) only [List.length_replicate, List.length_map, Nat.reduceBEq, Bool.not_false, Bool.not_true, ↓reduceIte, Bool.false_eq_true, BEq.rfl, put1, skip1, frOf, know, vv, one, del, decide_true, decide_false, List.filter_cons, List.filter_nil, List.nil_append, List.cons_append, Nat.reduceAdd, Nat.add_zero])
    | (apply RegA.call (hd := rfl) (fz := true) (hfz := .inl rfl); (first | exact trivial | rfl | exact congrArg some ‹_› | (simp (disch := omega) only [boolV, lk, ↓reduceIte, Nat.reduceEqDiff, decide_true, decide_false]; done)); (simp (disch := omega) only [binX, List.replicate_succ, List.set_cons_zero, List.set_cons_succ, List.drop_replicate, Nat.sub_self, List.length_replicate, true_or, or_true, or_false, List.replicate_zero, List.nil_append, List.append_nil, maxLen, List.length_append, List.length_take, List.length_drop, Nat.min_self, List.take_length, Option.getD_some, Option.getD_none, Option.isSome_some, Option.isSome_none, forall_const, Bool.false_eq_true, false_implies, imp_self, implies_true, decide_true, decide_false, dropMap, takeMap, effect, callEff, evO, evP, evL, argL, argX, dataL, plain, plainC, plainL, lk, one, vv, one1, isNil, binV, unV, cvV, load1, store1, fieldOf, cellsOf, cellsAt, asVal, shift, partOf, dataC, elemsC, app1, cop1, len1, mslice1, bslice1, rowsA, build1, fillA, idx1, index1, slice1, optInt, addrAt, cutC, putAt, allD, dv, spl, boolV, Option.map_some, Option.bind_some, Option.map_none, Option.bind_none, ↓reduceIte, Bool.not_true, Bool.not_false, Bool.false_eq_true, and_true, true_and, Option.some.injEq, List.length_map, Nat.reduceEqDiff, Nat.reduceLeDiff, Nat.reduceAdd, Int.reduceLT, Int.reduceLE, Int.reduceToNat, Int.toNat_natCast, List.length_cons, List.length_nil, List.take_succ_cons, List.take_zero, List.drop_zero, List.map_cons, List.map_nil, Nat.zero_add, Nat.le_refl, List.getD_cons_zero, List.getD_cons_succ, bt4, ti3, ti23, ti34, getD_num, ite_and, ite_le, ite_lt, ite_eq, ite_lei, ite_lti, ite_nei, IntWalk.i64_in, ti22, tdiv8, tmod8, takeAll, takeDropAll, toNatAdd, toNatSub]; first | rfl | done); (simp (disch := omega) only [binX, List.replicate_succ, List.set_cons_zero, List.set_cons_succ, List.drop_replicate, Nat.sub_self, List.length_replicate, true_or, or_true, or_false, List.replicate_zero, List.nil_append, List.append_nil, maxLen, List.length_append, List.length_take, List.length_drop, Nat.min_self, List.take_length, Option.getD_some, Option.getD_none, Option.isSome_some, Option.isSome_none, forall_const, Bool.false_eq_true, false_implies, imp_self, implies_true, decide_true, decide_false, dropMap, takeMap, effect, callEff, evO, evP, evL, argL, argX, dataL, plain, plainC, plainL, lk, one, vv, one1, isNil, binV, unV, cvV, load1, store1, fieldOf, cellsOf, cellsAt, asVal, shift, partOf, dataC, elemsC, app1, cop1, len1, mslice1, bslice1, rowsA, build1, fillA, idx1, index1, slice1, optInt, addrAt, cutC, putAt, allD, dv, spl, boolV, Option.map_some, Option.bind_some, Option.map_none, Option.bind_none, ↓reduceIte, Bool.not_true, Bool.not_false, Bool.false_eq_true, and_true, true_and, Option.some.injEq, List.length_map, Nat.reduceEqDiff, Nat.reduceLeDiff, Nat.reduceAdd, Int.reduceLT, Int.reduceLE, Int.reduceToNat, Int.toNat_natCast, List.length_cons, List.length_nil, List.take_succ_cons, List.take_zero, List.drop_zero, List.map_cons, List.map_nil, Nat.zero_add, Nat.le_refl, List.getD_cons_zero, List.getD_cons_succ, bt4, ti3, ti23, ti34, getD_num, ite_and, ite_le, ite_lt, ite_eq, ite_lei, ite_lti, ite_nei, IntWalk.i64_in, ti22, tdiv8, tmod8, takeAll, takeDropAll, toNatAdd, toNatSub]; first | rfl | done); (exact con23 _); simp (disch := omega) only [List.length_replicate, List.length_map, Nat.reduceBEq, Bool.not_false, Bool.not_true, ↓reduceIte, Bool.false_eq_true, BEq.rfl, put1, skip1, frOf, know, vv, one, del, decide_true, decide_false, List.filter_cons, List.filter_nil, List.nil_append, List.cons_append, Nat.reduceAdd, Nat.add_zero]; simp only [callHp, frz, rB, rN, rO, unV', unX, unXs, unC, List.flatMap_cons, List.flatMap_nil, idsX, idsC, List.append_nil, ↓reduceIte, List.nil_append, List.cons_append, lk, Nat.reduceEqDiff, Nat.reduceAdd, List.length_map, List.length_cons, List.length_nil])
    | (apply RegA.call (hd := rfl) (fz := true) (hfz := .inl rfl); (first | exact trivial | rfl | exact congrArg some ‹_› | (simp (disch := omega) only [boolV, lk, ↓reduceIte, Nat.reduceEqDiff, decide_true, decide_false]; done)); (simp (disch := omega) only [binX, List.replicate_succ, List.set_cons_zero, List.set_cons_succ, List.drop_replicate, Nat.sub_self, List.length_replicate, true_or, or_true, or_false, List.replicate_zero, List.nil_append, List.append_nil, maxLen, List.length_append, List.length_take, List.length_drop, Nat.min_self, List.take_length, Option.getD_some, Option.getD_none, Option.isSome_some, Option.isSome_none, forall_const, Bool.false_eq_true, false_implies, imp_self, implies_true, decide_true, decide_false, dropMap, takeMap, effect, callEff, evO, evP, evL, argL, argX, dataL, plain, plainC, plainL, lk, one, vv, one1, isNil, binV, unV, cvV, load1, store1, fieldOf, cellsOf, cellsAt, asVal, shift, partOf, dataC, elemsC, app1, cop1, len1, mslice1, bslice1, rowsA, build1, fillA, idx1, index1, slice1, optInt, addrAt, cutC, putAt, allD, dv, spl, boolV, Option.map_some, Option.bind_some, Option.map_none, Option.bind_none, ↓reduceIte, Bool.not_true, Bool.not_false, Bool.false_eq_true, and_true, true_and, Option.some.injEq, List.length_map, Nat.reduceEqDiff, Nat.reduceLeDiff, Nat.reduceAdd, Int.reduceLT, Int.reduceLE, Int.reduceToNat, Int.toNat_natCast, List.length_cons, List.length_nil, List.take_succ_cons, List.take_zero, List.drop_zero, List.map_cons, List.map_nil, Nat.zero_add, Nat.le_refl, List.getD_cons_zero, List.getD_cons_succ, bt4, ti3, ti23, ti34, getD_num, ite_and, ite_le, ite_lt, ite_eq, ite_lei, ite_lti, ite_nei, IntWalk.i64_in, ti22, tdiv8, tmod8, takeAll, takeDropAll, toNatAdd, toNatSub]; first | rfl | done); (simp (disch := omega) only [binX, List.replicate_succ, List.set_cons_zero, List.set_cons_succ, List.drop_replicate, Nat.sub_self, List.length_replicate, true_or, or_true, or_false, List.replicate_zero, List.nil_append, List.append_nil, maxLen, List.length_append, List.length_take, List.length_drop, Nat.min_self, List.take_length, Option.getD_some, Option.getD_none, Option.isSome_some, Option.isSome_none, forall_const, Bool.false_eq_true, false_implies, imp_self, implies_true, decide_true, decide_false, dropMap, takeMap, effect, callEff, evO, evP, evL, argL, argX, dataL, plain, plainC, plainL, lk, one, vv, one1, isNil, binV, unV, cvV, load1, store1, fieldOf, cellsOf, cellsAt, asVal, shift, partOf, dataC, elemsC, app1, cop1, len1, mslice1, bslice1, rowsA, build1, fillA, idx1, index1, slice1, optInt, addrAt, cutC, putAt, allD, dv, spl, boolV, Option.map_some, Option.bind_some, Option.map_none, Option.bind_none, ↓reduceIte, Bool.not_true, Bool.not_false, Bool.false_eq_true, and_true, true_and, Option.some.injEq, List.length_map, Nat.reduceEqDiff, Nat.reduceLeDiff, Nat.reduceAdd, Int.reduceLT, Int.reduceLE, Int.reduceToNat, Int.toNat_natCast, List.length_cons, List.length_nil, List.take_succ_cons, List.take_zero, List.drop_zero, List.map_cons, List.map_nil, Nat.zero_add, Nat.le_refl, List.getD_cons_zero, List.getD_cons_succ, bt4, ti3, ti23, ti34, getD_num, ite_and, ite_le, ite_lt, ite_eq, ite_lei, ite_lti, ite_nei, IntWalk.i64_in, ti22, tdiv8, tmod8, takeAll, takeDropAll, toNatAdd, toNatSub]; first | rfl | done); (exact con17); simp (disch := omega) only [List.length_replicate, List.length_map, Nat.reduceBEq, Bool.not_false, Bool.not_true, ↓reduceIte, Bool.false_eq_true, BEq.rfl, put1, skip1, frOf, know, vv, one, del, decide_true, decide_false, List.filter_cons, List.filter_nil, List.nil_append, List.cons_append, Nat.reduceAdd, Nat.add_zero]; simp only [callHp, frz, rB, rN, rO, unV', unX, unXs, unC, List.flatMap_cons, List.flatMap_nil, idsX, idsC, List.append_nil, ↓reduceIte, List.nil_append, List.cons_append, lk, Nat.reduceEqDiff, Nat.reduceAdd, List.length_map, List.length_cons, List.length_nil])
    | (refine RegA.off rfl rfl ?_; simp (disch := omega) only [List.length_replicate, List.length_map, Nat.reduceBEq, Bool.not_false, Bool.not_true, ↓reduceIte, Bool.false_eq_true, BEq.rfl, put1, skip1, frOf, know, vv, one, del, decide_true, decide_false, List.filter_cons, List.filter_nil, List.nil_append, List.cons_append, Nat.reduceAdd, Nat.add_zero])
    | (refine RegA.split rfl ?_ ?_ <;> (intro hsp; (try simp only [Bool.not_eq_true', Bool.not_eq_false', decide_eq_true_eq, decide_eq_false_iff_not, Decidable.not_not, Int.not_lt, Int.not_le, Int.natCast_inj, Bool.and_eq_true, Bool.or_eq_true, Bool.not_not, ne_eq] at hsp); simp (disch := omega) only [List.length_replicate, List.length_map, Nat.reduceBEq, Bool.not_false, Bool.not_true, ↓reduceIte, Bool.false_eq_true, BEq.rfl, put1, skip1, frOf, know, vv, one, del, decide_true, decide_false, List.filter_cons, List.filter_nil, List.nil_append, List.cons_append, Nat.reduceAdd, Nat.add_zero]))
    | (apply DrawA.op' (hd := rfl); (simp only [List.length_cons, List.length_nil, Nat.reduceMul, Nat.reduceAdd]; rfl); (simp only [Bool.not_false, Bool.not_true, Eng.mk, Eng.put1, Eng.skip1, frOf, vv, one, del, List.filter_cons, List.filter_nil, List.nil_append, List.cons_append, Nat.reduceAdd, Nat.reduceMul, Nat.add_zero, List.length_nil, List.length_cons, List.getD_cons_zero, List.getD_cons_succ, List.contains_cons, List.contains_nil, Nat.reduceBEq, BEq.rfl, Bool.or_false, Bool.false_or, Bool.or_true, Bool.true_or, Bool.false_eq_true, ↓reduceIte, if_false, if_true, allIn, List.range, List.range.loop]; rfl); (first | exact trivial | rfl | exact congrArg some ‹_› | (simp (disch := omega) only [boolV, lk, ↓reduceIte, Nat.reduceEqDiff, decide_true, decide_false]; done)); (simp (disch := omega) only [binX, List.replicate_succ, List.set_cons_zero, List.set_cons_succ, List.drop_replicate, Nat.sub_self, List.length_replicate, true_or, or_true, or_false, List.replicate_zero, List.nil_append, List.append_nil, maxLen, List.length_append, List.length_take, List.length_drop, Nat.min_self, List.take_length, Option.getD_some, Option.getD_none, Option.isSome_some, Option.isSome_none, forall_const, Bool.false_eq_true, false_implies, imp_self, implies_true, decide_true, decide_false, dropMap, takeMap, effect, callEff, evO, evP, evL, argL, argX, dataL, plain, plainC, plainL, lk, one, vv, one1, isNil, binV, unV, cvV, load1, store1, fieldOf, cellsOf, cellsAt, asVal, shift, partOf, dataC, elemsC, app1, cop1, len1, mslice1, bslice1, rowsA, build1, fillA, idx1, index1, slice1, optInt, addrAt, cutC, putAt, allD, dv, spl, boolV, Option.map_some, Option.bind_some, Option.map_none, Option.bind_none, ↓reduceIte, Bool.not_true, Bool.not_false, Bool.false_eq_true, and_true, true_and, Option.some.injEq, List.length_map, Nat.reduceEqDiff, Nat.reduceLeDiff, Nat.reduceAdd, Int.reduceLT, Int.reduceLE, Int.reduceToNat, Int.toNat_natCast, List.length_cons, List.length_nil, List.take_succ_cons, List.take_zero, List.drop_zero, List.map_cons, List.map_nil, Nat.zero_add, Nat.le_refl, List.getD_cons_zero, List.getD_cons_succ, bt4, ti3, ti23, ti34, getD_num, ite_and, ite_le, ite_lt, ite_eq, ite_lei, ite_lti, ite_nei, IntWalk.i64_in, ti22, tdiv8, tmod8, takeAll, takeDropAll, toNatAdd, toNatSub]; first | rfl | done); rfl; rfl; simp only [List.nil_append, List.cons_append])
    | (apply DrawA.nil'; (simp only [List.length_cons, List.length_nil, Nat.reduceMul, Nat.reduceAdd]; rfl); (simp only [Bool.not_false, Bool.not_true, mkAll, Eng.put1, Eng.skip1, frOf, vv, one, del, List.filter_cons, List.filter_nil, List.nil_append, List.cons_append, Nat.reduceAdd, Nat.reduceMul, Nat.add_zero, List.length_nil, List.length_cons, List.getD_cons_zero, List.getD_cons_succ, List.contains_cons, List.contains_nil, Nat.reduceBEq, BEq.rfl, Bool.or_false, Bool.false_or, Bool.or_true, Bool.true_or, Bool.false_eq_true, ↓reduceIte, if_false, if_true, allIn, List.range, List.range.loop]; rfl); assumption)
    | (refine RegA.done ‹_› ?_)
    | (refine awp_seq fun K hK => ?_)
    | (refine Awp.reg ?_)
    | (refine Awp.skip ?_)
    | (refine Awp.block ?_)
    | (refine Awp.scope ?_)
    | (refine Awp.ct rfl ?_)
    | (refine Awp.cf rfl ?_)
    | (refine Awp.ct (congrArg some (congrArg Value.bool ?_)) ?_; focus (simp (disch := omega) only [decide_eq_true_eq, decide_eq_false_iff_not, Bool.not_eq_true', Bool.not_eq_false', decide_true, decide_false, Bool.not_true, Bool.not_false, bt4, ti3, ti23, ti34, getD_num, ite_and, ite_le, ite_lt, ite_eq, ite_lei, ite_lti, ite_nei, IntWalk.i64_in, ti22, tdiv8, tmod8, takeAll, takeDropAll, toNatAdd, toNatSub]; done))
    | (refine Awp.cf (congrArg some (congrArg Value.bool ?_)) ?_; focus (simp (disch := omega) only [decide_eq_true_eq, decide_eq_false_iff_not, Bool.not_eq_true', Bool.not_eq_false', decide_true, decide_false, Bool.not_true, Bool.not_false, bt4, ti3, ti23, ti34, getD_num, ite_and, ite_le, ite_lt, ite_eq, ite_lei, ite_lti, ite_nei, IntWalk.i64_in, ti22, tdiv8, tmod8, takeAll, takeDropAll, toNatAdd, toNatSub]; done))
    | (refine Awp.cond rfl ?_ ?_ <;> (intro hsp; (try simp only [Bool.not_eq_true', Bool.not_eq_false', decide_eq_true_eq, decide_eq_false_iff_not, Decidable.not_not, Int.not_lt, Int.not_le, Int.natCast_inj, Bool.and_eq_true, Bool.or_eq_true, Bool.not_not, ne_eq] at hsp)))
    | (refine Awp.exit ?_; simp only [blockQ, thenQ, scopeQ, ↓reduceIte, Nat.reduceEqDiff])
    | (refine viaK ‹_› ?_)
    | (simp only [thenQ_normal, blockQ_normal])))
  all_goals (try (focus (refine Awp.ret ?_; apply ret_of (.inl rfl); rfl; (simp (disch := omega) only [outXs, outX, outC, outL, lk, ↓reduceIte, Nat.reduceEqDiff, List.length_map, List.length_nil, List.length_replicate, List.length_cons, List.length_take, List.length_drop, List.length_append, ite_eq, Option.map_some, Bool.false_eq_true]; rfl); (focus simp [ownsX, ownsC]); simp [laxR, laxX, laxC, rB, rN, rO, *] <;> (intros; omega); done)))
  all_goals (exfalso; omega)
theorem con8 (m : List Int) (a b : Int) : Con Try.prog 8 [sN .u64 m, vN .i64 a, vN .i64 b] [rB true] := by
  by_cases h : chk (m.length : Int) = 0 ∧ 0 ≤ a ∧ a < m.length ∧ 0 ≤ b ∧ b < m.length
  · exact law8 m h.1 (chk_len h.1) (len8 h.1) a b ⟨h.2.1, h.2.2.1⟩ ⟨h.2.2.2.1, h.2.2.2.2⟩
  · exact bad8 m a b h
end Go.Proofs.Ythknepamlbicmaa
