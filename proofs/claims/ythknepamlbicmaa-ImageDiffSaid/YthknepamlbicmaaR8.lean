/-
  The contracts of the program's functions, data in, data out. Conditions: those in the statements.
-/
import Derived.Test.YthknepamlbicmaaR6
namespace Go.Proofs.Ythknepamlbicmaa
set_option linter.all false
open Go Go.Proofs.Ythknepamlbicmaa.Eng Go.RowKit
def c6 : SC :=
  .seq
  (.reg
    [.mk (some 6) (.assign (.const (.bool false))) none])
  (.seq
    (.seq
      (.reg
        [.mk (some 15) (.move (.tmp 0)) none,
          .mk (some 16)
            (.call (.mk (.value (.func 23)) #[.tmp 15] #[23])) none,
          .mk (some 17)
            (.binOp .neq 3 (.tmp 16) (.const (.int .i64 0)) 3)
            none,
          .mk (some 18) (.move (.tmp 17)) none,
          .mk (some 19) (.move (.tmp 1)) (some (18, false)),
          .mk (some 20)
            (.binOp .lss 3 (.tmp 19) (.const (.int .i64 0)) 3)
            (some (18, false)),
          .mk (some 21)
            (.pick (.tmp 18) (.const (.bool true)) (.tmp 20))
            none,
          .mk (some 22) (.move (.tmp 21)) none,
          .mk (some 23) (.move (.tmp 1)) (some (22, false)),
          .mk (some 24) (.move (.tmp 0)) (some (22, false)),
          .mk (some 25)
            (.call (.mk (.builtin .len) #[.tmp 24] #[23]))
            (some (22, false)),
          .mk (some 26) (.binOp .gtr 3 (.tmp 23) (.tmp 25) 3)
            (some (22, false)),
          .mk (some 27)
            (.pick (.tmp 22) (.const (.bool true)) (.tmp 26))
            none,
          .mk (some 28) (.move (.tmp 27)) none,
          .mk (some 29) (.move (.tmp 2)) (some (28, false)),
          .mk (some 30)
            (.call (.mk (.builtin .len) #[.tmp 29] #[23]))
            (some (28, false)),
          .mk (some 31)
            (.binOp .gtr 3 (.tmp 30) (.const (.int .i64 100)) 3)
            (some (28, false)),
          .mk (some 32)
            (.pick (.tmp 28) (.const (.bool true)) (.tmp 31))
            none,
          .mk (some 33) (.move (.tmp 32)) none,
          .mk (some 34) (.move (.tmp 2)) (some (33, false)),
          .mk (some 35)
            (.call (.mk (.builtin .len) #[.tmp 34] #[23]))
            (some (33, false)),
          .mk (some 36) (.move (.tmp 0)) (some (33, false)),
          .mk (some 37)
            (.call (.mk (.builtin .len) #[.tmp 36] #[23]))
            (some (33, false)),
          .mk (some 38) (.move (.tmp 1)) (some (33, false)),
          .mk (some 39) (.binOp .sub 3 (.tmp 37) (.tmp 38) 3)
            (some (33, false)),
          .mk (some 40) (.binOp .gtr 3 (.tmp 35) (.tmp 39) 3)
            (some (33, false)),
          .mk (some 41)
            (.pick (.tmp 33) (.const (.bool true)) (.tmp 40))
            none])
      (.cond (.tmp 41)
        (.seq
          (.reg
            [.mk (some 42) (.call (.mk (.value (.func 17)) #[] #[]))
                none,
              .mk (some 6) (.assign (.tmp 42)) none])
          .ret)
        .skip))
    (.seq
      (.reg
        [.mk (some 44) (.move (.tmp 0)) none,
          .mk (some 45) (.move (.tmp 1)) none,
          .mk (some 46) (.move (.tmp 2)) none,
          .mk (some 47)
            (.call
              (.mk (.value (.func 12))
                #[.tmp 44, .tmp 45, .tmp 46] #[23, 3, 23]))
            none,
          .mk (some 43) (.move (.tmp 47)) none,
          .mk (some 48) (.extract (.tmp 43) 0) none,
          .mk (some 49) (.extract (.tmp 43) 1) none,
          .mk (some 7) (.assign (.tmp 48)) none,
          .mk (some 8) (.assign (.tmp 49)) none])
      (.seq
        (.reg
          [.mk (some 51) (.move (.tmp 7)) none,
            .mk (some 52) (.move (.tmp 1)) none,
            .mk (some 53) (.move (.tmp 2)) none,
            .mk (some 54)
              (.call (.mk (.builtin .len) #[.tmp 53] #[23])) none,
            .mk (some 55)
              (.call
                (.mk (.value (.func 11))
                  #[.tmp 51, .tmp 52, .tmp 54] #[23, 3, 3]))
              none,
            .mk (some 50) (.move (.tmp 55)) none,
            .mk (some 56) (.extract (.tmp 50) 0) none,
            .mk (some 57) (.extract (.tmp 50) 1) none,
            .mk (some 9) (.assign (.tmp 56)) none,
            .mk (some 10) (.assign (.tmp 57)) none])
        (.seq
          (.reg
            [.mk (some 59) (.move (.tmp 0)) none,
              .mk (some 60) (.move (.tmp 7)) none,
              .mk (some 61)
                (.call
                  (.mk (.value (.func 14)) #[.tmp 59, .tmp 60] #[23, 23]))
                none,
              .mk (some 58) (.move (.tmp 61)) none,
              .mk (some 62) (.extract (.tmp 58) 0) none,
              .mk (some 63) (.extract (.tmp 58) 1) none,
              .mk (some 11) (.assign (.tmp 62)) none,
              .mk (some 12) (.assign (.tmp 63)) none])
          (.seq
            (.seq
              (.reg
                [.mk (some 64) (.move (.tmp 8)) none,
                  .mk (some 65)
                    (.binOp .neq 24 (.tmp 64) (.const (.int .i64 0))
                      24)
                    none,
                  .mk (some 66) (.move (.tmp 65)) none,
                  .mk (some 67) (.move (.tmp 10)) (some (66, false)),
                  .mk (some 68)
                    (.binOp .neq 24 (.tmp 67) (.const (.int .i64 0))
                      24)
                    (some (66, false)),
                  .mk (some 69)
                    (.pick (.tmp 66) (.const (.bool true)) (.tmp 68))
                    none,
                  .mk (some 70) (.move (.tmp 69)) none,
                  .mk (some 71) (.move (.tmp 12)) (some (70, false)),
                  .mk (some 72)
                    (.binOp .neq 24 (.tmp 71) (.const (.int .i64 0))
                      24)
                    (some (70, false)),
                  .mk (some 73)
                    (.pick (.tmp 70) (.const (.bool true)) (.tmp 72))
                    none,
                  .mk (some 74) (.move (.tmp 73)) none,
                  .mk (some 75) (.move (.tmp 9)) (some (74, false)),
                  .mk (some 76) (.move (.tmp 2)) (some (74, false)),
                  .mk (some 77)
                    (.call
                      (.mk (.value (.func 16)) #[.tmp 75, .tmp 76]
                        #[23, 23]))
                    (some (74, false)),
                  .mk (some 78) (.unOp .not 4 (.tmp 77))
                    (some (74, false)),
                  .mk (some 79)
                    (.pick (.tmp 74) (.const (.bool true)) (.tmp 78))
                    none,
                  .mk (some 80) (.move (.tmp 79)) none,
                  .mk (some 81) (.move (.tmp 7)) (some (80, false)),
                  .mk (some 82)
                    (.call (.mk (.builtin .len) #[.tmp 81] #[23]))
                    (some (80, false)),
                  .mk (some 83) (.move (.tmp 0)) (some (80, false)),
                  .mk (some 84)
                    (.call (.mk (.builtin .len) #[.tmp 83] #[23]))
                    (some (80, false)),
                  .mk (some 85) (.binOp .neq 3 (.tmp 82) (.tmp 84) 3)
                    (some (80, false)),
                  .mk (some 86)
                    (.pick (.tmp 80) (.const (.bool true)) (.tmp 85))
                    none])
              (.cond (.tmp 86)
                (.seq
                  (.reg
                    [.mk (some 6) (.assign (.const (.bool false)))
                        none])
                  .ret)
                .skip))
            (.seq
              (.reg
                [.mk (some 13) (.assign (.const (.int .i64 0)))
                    none])
              (.seq
                (.seq
                  (.reg
                    [.mk (some 14) (.assign (.const (.int .i64 0)))
                        none])
                  (.block 0
                    (.loop
                      (.seq
                        (.seq
                          (.reg
                            [.mk (some 87) (.move (.tmp 14)) none,
                              .mk (some 88) (.move (.tmp 2)) none,
                              .mk (some 89)
                                (.call (.mk (.builtin .len) #[.tmp 88] #[23]))
                                none,
                              .mk (some 90)
                                (.binOp .lss 3 (.tmp 87) (.tmp 89) 3) none])
                          (.cond (.tmp 90) .skip (.exit 0)))
                        (.seq
                          (.block 1
                            (.seq
                              (.seq
                                (.draw
                                  [.mk (some 93) (.move (.tmp 0)) none,
                                    .mk (some 94) (.move (.tmp 1)) none,
                                    .mk (some 95) (.move (.tmp 14)) none,
                                    .mk (some 96)
                                      (.binOp .add 3 (.tmp 94) (.tmp 95) 3)
                                      none,
                                    .mk (some 97)
                                      (.indexAddr 23 (.tmp 93) (.tmp 96)) none,
                                    .mk (some 98) (.load 34 (.tmp 97)) none,
                                    .mk (some 99) (.move (.tmp 2)) none,
                                    .mk (some 100) (.move (.tmp 14)) none,
                                    .mk (some 101)
                                      (.indexAddr 23 (.tmp 99) (.tmp 100)) none,
                                    .mk (some 102) (.load 34 (.tmp 101)) none,
                                    .mk (some 103)
                                      (.binOp .eql 34 (.tmp 98) (.tmp 102) 34)
                                      none]
                                  [[], [], [],
                                    [1,
                                      2],
                                    [0,
                                      3],
                                    [4], [], [],
                                    [6,
                                      7],
                                    [8],
                                    [5,
                                      9]])
                                (.cond (.tmp 103) (.exit 1) .skip))
                              (.seq
                                (.seq
                                  (.reg
                                    [.mk (some 104) (.move (.tmp 13)) none,
                                      .mk (some 105) (.move (.tmp 11)) none,
                                      .mk (some 106)
                                        (.call
                                          (.mk (.builtin .len) #[.tmp 105] #[22]))
                                        none,
                                      .mk (some 107)
                                        (.binOp .geq 3 (.tmp 104) (.tmp 106) 3)
                                        none,
                                      .mk (some 108) (.move (.tmp 107)) none,
                                      .mk (some 109) (.move (.tmp 11))
                                        (some (108, false)),
                                      .mk (some 110) (.move (.tmp 13))
                                        (some (108, false)),
                                      .mk (some 111)
                                        (.indexAddr 22 (.tmp 109) (.tmp 110))
                                        (some (108, false)),
                                      .mk (some 112) (.load 3 (.tmp 111))
                                        (some (108, false)),
                                      .mk (some 113) (.move (.tmp 1))
                                        (some (108, false)),
                                      .mk (some 114) (.move (.tmp 14))
                                        (some (108, false)),
                                      .mk (some 115)
                                        (.binOp .add 3 (.tmp 113) (.tmp 114) 3)
                                        (some (108, false)),
                                      .mk (some 116)
                                        (.binOp .neq 3 (.tmp 112) (.tmp 115) 3)
                                        (some (108, false)),
                                      .mk (some 117)
                                        (.pick (.tmp 108) (.const (.bool true))
                                          (.tmp 116))
                                        none])
                                  (.cond (.tmp 117)
                                    (.seq
                                      (.reg
                                        [.mk (some 6)
                                            (.assign (.const (.bool false))) none])
                                      .ret)
                                    .skip))
                                (.reg
                                  [.mk (some 118) (.move (.tmp 13)) none,
                                    .mk (some 119)
                                      (.binOp .add 3 (.tmp 118)
                                        (.const (.int .i64 1)) 3)
                                      none,
                                    .mk (some 13) (.assign (.tmp 119)) none]))))
                          (.reg
                            [.mk (some 91) (.move (.tmp 14)) none,
                              .mk (some 92)
                                (.binOp .add 3 (.tmp 91)
                                  (.const (.int .i64 1)) 3)
                                none,
                              .mk (some 14) (.assign (.tmp 92)) none]))))))
                (.seq
                  (.reg
                    [.mk (some 120) (.move (.tmp 13)) none,
                      .mk (some 121) (.move (.tmp 11)) none,
                      .mk (some 122)
                        (.call (.mk (.builtin .len) #[.tmp 121] #[22]))
                        none,
                      .mk (some 123)
                        (.binOp .eql 3 (.tmp 120) (.tmp 122) 3) none,
                      .mk (some 124) (.move (.tmp 123)) none,
                      .mk (some 125)
                        (.call (.mk (.value (.func 17)) #[] #[]))
                        (some (124, true)),
                      .mk (some 126)
                        (.pick (.tmp 124) (.tmp 125)
                          (.const (.bool false)))
                        none,
                      .mk (some 6) (.assign (.tmp 126)) none])
                  .ret))))))))
theorem s6 : Try.f6.body.bind slim = some c6 := by kernel_rfl
theorem n6 : Try.f6.ntmps = 127 := rfl
theorem r6 : Try.f6.results.toList = [ResultVar.tmp 6] := rfl

def dl (m l : List Int) (a : Nat) : Nat → List Int
  | 0 => []
  | i + 1 => if m.getD (a + i) 0 = l.getD i 0 then dl m l a i else dl m l a i ++ [((a + i : Nat) : Int)]
theorem dl_eq {m l : List Int} {a i : Nat} (h : m.getD (a + i) 0 = l.getD i 0) : dl m l a (i + 1) = dl m l a i := by
  show (if _ then _ else _) = _
  rw [if_pos h]
theorem dl_ne {m l : List Int} {a i : Nat} (h : ¬ m.getD (a + i) 0 = l.getD i 0) : dl m l a (i + 1) = dl m l a i ++ [((a + i : Nat) : Int)] := by
  show (if _ then _ else _) = _
  rw [if_neg h]
theorem put_getD {m l : List Int} {a : Nat} (h : a + l.length ≤ m.length) (j : Nat) : (m.take a ++ (l ++ m.drop (a + l.length))).getD j 0 = if j < a then m.getD j 0 else if j < a + l.length then l.getD (j - a) 0 else m.getD j 0 := by
  simp only [List.getD, List.getElem?_append, List.length_take, List.getElem?_take, List.getElem?_drop]
  have : min a m.length = a := by omega
  rw [this]
  by_cases h1 : j < a
  · simp [h1]
  · simp only [h1, if_false]
    by_cases h2 : j < a + l.length
    · rw [if_pos (by omega), if_pos h2]
    · rw [if_neg (by omega), if_neg h2]
      congr 2
      omega
theorem diffUpto_dl {m l O : List Int} {a : Nat} (hO : ∀ j, O.getD j 0 = if j < a then m.getD j 0 else if j < a + l.length then l.getD (j - a) 0 else m.getD j 0) : ∀ n, diffUpto m O n = dl m l a (min (n - a) l.length)
  | 0 => by rw [show min (0 - a) l.length = 0 by omega]; rfl
  | n + 1 => by
    have ih := diffUpto_dl hO n
    have h := hO n
    by_cases h1 : n < a
    · rw [if_pos h1] at h
      rw [diffUpto_eq h.symm, ih, show min (n + 1 - a) l.length = min (n - a) l.length by omega]
    · rw [if_neg h1] at h
      by_cases h2 : n < a + l.length
      · rw [if_pos h2] at h
        have e1 : min (n + 1 - a) l.length = (n - a) + 1 := by omega
        have e2 : min (n - a) l.length = n - a := by omega
        rw [e1]
        rw [e2] at ih
        have hn : a + (n - a) = n := by omega
        by_cases hd : m.getD n 0 = O.getD n 0
        · rw [diffUpto_eq hd, ih, dl_eq (by rw [hn, hd, h])]
        · rw [diffUpto_ne hd, ih, dl_ne (by rw [hn]; rw [h] at hd; exact hd), hn]
      · rw [if_neg h2] at h
        rw [diffUpto_eq h.symm, ih, show min (n + 1 - a) l.length = min (n - a) l.length by omega]
theorem dl_pre (m l : List Int) (a : Nat) : ∀ (k i : Nat), ∃ r, dl m l a (i + k) = dl m l a i ++ r
  | 0, i => ⟨[], by simp⟩
  | k + 1, i => by
    obtain ⟨r, hr⟩ := dl_pre m l a k i
    by_cases h : m.getD (a + (i + k)) 0 = l.getD (i + k) 0
    · exact ⟨r, by rw [show i + (k + 1) = (i + k) + 1 by omega, dl_eq h, hr]⟩
    · exact ⟨r ++ [((a + (i + k) : Nat) : Int)], by rw [show i + (k + 1) = (i + k) + 1 by omega, dl_ne h, hr, List.append_assoc]⟩
theorem dl_at {m l : List Int} {a i : Nat} (hi : i < l.length) (h : ¬ m.getD (a + i) 0 = l.getD i 0) : (dl m l a i).length < (dl m l a l.length).length ∧ (dl m l a l.length).getD (dl m l a i).length 0 = ((a + i : Nat) : Int) := by
  obtain ⟨r, hr⟩ := dl_pre m l a (l.length - (i + 1)) (i + 1)
  rw [show i + 1 + (l.length - (i + 1)) = l.length by omega, dl_ne h] at hr
  rw [hr]
  constructor
  · simp
  · simp [List.getD]
theorem dl_len (m l : List Int) (a : Nat) : ∀ i, (dl m l a i).length ≤ i
  | 0 => Nat.le_refl _
  | i + 1 => by
    have := dl_len m l a i
    unfold dl
    split
    · omega
    · simp; omega
theorem putL_is {m l : List Int} {a : Int} (h : chk m.length = 0 ∧ 0 ≤ a ∧ (l.length : Int) ≤ (m.length : Int) - a) : putL m a l = m.take a.toNat ++ (l ++ m.drop (a.toNat + l.length)) := by
  unfold putL
  rw [if_pos h.1, if_pos h.2]
theorem putL_length {m l : List Int} {a : Int} (h : chk m.length = 0 ∧ 0 ≤ a ∧ (l.length : Int) ≤ (m.length : Int) - a) : (putL m a l).length = m.length := by
  rw [putL_is h]
  simp
  omega
theorem put_diff {m l : List Int} {a : Int} (h : chk m.length = 0 ∧ 0 ≤ a ∧ (l.length : Int) ≤ (m.length : Int) - a) : diffL m (putL m a l) = dl m l a.toNat l.length ∧ diffE m (putL m a l) = 0 := by
  have hl := putL_length h
  constructor
  · unfold diffL
    rw [if_pos ⟨h.1, by rw [hl]; exact h.1, by rw [hl]⟩, putL_is h, diffUpto_dl (put_getD (by omega)) m.length, show min (m.length - a.toNat) l.length = l.length by omega]
  · unfold diffE
    rw [if_pos ⟨h.1, by rw [hl]; exact h.1⟩, if_pos (by rw [hl])]
theorem put_get {m l : List Int} {a : Int} (h : chk m.length = 0 ∧ 0 ≤ a ∧ (l.length : Int) ≤ (m.length : Int) - a) : getL (putL m a l) a l.length = l := by
  have hl := putL_length h
  rw [getL_is ⟨by rw [hl]; exact h.1, h.2.1, by omega, by rw [hl]; exact h.2.2⟩, putL_is h]
  have e : (m.take a.toNat).length = a.toNat := by simp; omega
  rw [List.drop_append_of_le_length (by omega), List.drop_eq_nil_of_le (by omega), List.nil_append, Int.toNat_natCast, List.take_append_of_le_length (by omega), List.take_length]
set_option maxHeartbeats 1000000 in
set_option maxRecDepth 10000 in
theorem law6 (m l : List Int) (a : Int) (hc : chk (m.length : Int) = 0) (hl : m.length ≤ 2048) (ha : 0 ≤ a ∧ l.length ≤ 100 ∧ (l.length : Int) ≤ m.length - a) : Con Try.prog 6 [sN .u64 m, vN .i64 a, sN .u64 l] [rB true] := by
  have hp : chk (m.length : Int) = 0 ∧ 0 ≤ a ∧ (l.length : Int) ≤ (m.length : Int) - a := ⟨hc, by omega⟩
  have hO := putL_length hp
  have h1 : Con Try.prog 12 [sN .u64 m, vN .i64 a, sN .u64 l] [rO .u64 (putL m a l), rN .i64 0] := by
    have h := con12 m a l (by omega) (by omega) (by omega)
    rw [getE0 ⟨hc, by omega⟩] at h
    exact h
  have h2 : Con Try.prog 11 [sN .u64 (putL m a l), vN .i64 a, vN .i64 l.length] [rO .u64 l, rN .i64 0] := by
    have h := con11a (putL m a l) a l.length ⟨by rw [hO]; exact hc, by omega⟩
    rw [put_get hp] at h
    exact h
  have h3 : Con Try.prog 14 [sN .u64 m, sN .u64 (putL m a l)] [rO .i64 (dl m l a.toNat l.length), rN .i64 0] := by
    have h := con14 m (putL m a l) (by omega) (by omega)
    rw [(put_diff hp).1, (put_diff hp).2] at h
    exact h
  have h4 : Con Try.prog 16 [sN .u64 l, sN .u64 l] [rB true] := by
    have h := con16 l l (by omega)
    rw [decide_eq_true rfl] at h
    exact h
  have h7 := con23 m
  rw [hc] at h7
  generalize putL m a l = O at h1 h2 h3 hO
  have hlD := dl_len m l a.toNat l.length
  have hD : ∀ i, i < l.length → ¬ m.getD (a.toNat + i) 0 = l.getD i 0 → (dl m l a.toNat i).length < (dl m l a.toNat l.length).length ∧ (dl m l a.toNat l.length).getD (dl m l a.toNat i).length 0 = a + i := fun i hi hne => by
    obtain ⟨q1, q2⟩ := dl_at hi hne
    exact ⟨q1, by rw [q2]; omega⟩
  generalize hDD : dl m l a.toNat l.length = D at h3 hD hlD
  refine con_of_awp hmix Try.func6 s6 rfl (by rw [n6]; simp) r6 n6 ?_
  simp only [Eng.start, startFr, inX, sN, vN, c6]
  (repeat' (first
    | (apply RegA.op (hd := rfl); (first | exact trivial | rfl | exact congrArg some ‹_› | (simp (disch := omega) only [boolV, lk, ↓reduceIte, Nat.reduceEqDiff, decide_true, decide_false]; done)); (simp (disch := omega) only [binX, List.replicate_succ, List.set_cons_zero, List.set_cons_succ, List.drop_replicate, Nat.sub_self, List.length_replicate, true_or, or_true, or_false, List.replicate_zero, List.nil_append, List.append_nil, maxLen, List.length_append, List.length_take, List.length_drop, Nat.min_self, List.take_length, Option.getD_some, Option.getD_none, Option.isSome_some, Option.isSome_none, forall_const, Bool.false_eq_true, false_implies, imp_self, implies_true, decide_true, decide_false, dropMap, takeMap, effect, callEff, evO, evP, evL, argL, argX, dataL, plain, plainC, plainL, lk, one, vv, one1, isNil, binV, unV, cvV, load1, store1, fieldOf, cellsOf, cellsAt, asVal, shift, partOf, dataC, elemsC, app1, cop1, len1, mslice1, bslice1, rowsA, build1, fillA, idx1, index1, slice1, optInt, addrAt, cutC, putAt, allD, dv, spl, boolV, Option.map_some, Option.bind_some, Option.map_none, Option.bind_none, ↓reduceIte, Bool.not_true, Bool.not_false, Bool.false_eq_true, and_true, true_and, Option.some.injEq, List.length_map, Nat.reduceEqDiff, Nat.reduceLeDiff, Nat.reduceAdd, Int.reduceLT, Int.reduceLE, Int.reduceToNat, Int.toNat_natCast, List.length_cons, List.length_nil, List.take_succ_cons, List.take_zero, List.drop_zero, List.map_cons, List.map_nil, Nat.zero_add, Nat.le_refl, List.getD_cons_zero, List.getD_cons_succ, bt4, ti3, ti23, ti34, getD_num, ite_and, ite_le, ite_lt, ite_eq, ite_lei, ite_lti, ite_nei, IntWalk.i64_in, ti22, tdiv8, tmod8, takeAll, takeDropAll, toNatAdd, toNatSub, decLtF, decLeF]; first | rfl | done); simp (disch := omega) only [List.length_replicate, List.length_map, Nat.reduceBEq, Bool.not_false, Bool.not_true, ↓reduceIte, Bool.false_eq_true, BEq.rfl, put1, skip1, frOf, know, vv, one, del, decide_true, decide_false, List.filter_cons, List.filter_nil, List.nil_append, List.cons_append, Nat.reduceAdd, Nat.add_zero, decLtF, decLeF])
    | (apply RegA.call (hd := rfl) (fz := true) (hfz := .inl rfl); (first | exact trivial | rfl | exact congrArg some ‹_› | (simp (disch := omega) only [boolV, lk, ↓reduceIte, Nat.reduceEqDiff, decide_true, decide_false]; done)); (simp (disch := omega) only [binX, List.replicate_succ, List.set_cons_zero, List.set_cons_succ, List.drop_replicate, Nat.sub_self, List.length_replicate, true_or, or_true, or_false, List.replicate_zero, List.nil_append, List.append_nil, maxLen, List.length_append, List.length_take, List.length_drop, Nat.min_self, List.take_length, Option.getD_some, Option.getD_none, Option.isSome_some, Option.isSome_none, forall_const, Bool.false_eq_true, false_implies, imp_self, implies_true, decide_true, decide_false, dropMap, takeMap, effect, callEff, evO, evP, evL, argL, argX, dataL, plain, plainC, plainL, lk, one, vv, one1, isNil, binV, unV, cvV, load1, store1, fieldOf, cellsOf, cellsAt, asVal, shift, partOf, dataC, elemsC, app1, cop1, len1, mslice1, bslice1, rowsA, build1, fillA, idx1, index1, slice1, optInt, addrAt, cutC, putAt, allD, dv, spl, boolV, Option.map_some, Option.bind_some, Option.map_none, Option.bind_none, ↓reduceIte, Bool.not_true, Bool.not_false, Bool.false_eq_true, and_true, true_and, Option.some.injEq, List.length_map, Nat.reduceEqDiff, Nat.reduceLeDiff, Nat.reduceAdd, Int.reduceLT, Int.reduceLE, Int.reduceToNat, Int.toNat_natCast, List.length_cons, List.length_nil, List.take_succ_cons, List.take_zero, List.drop_zero, List.map_cons, List.map_nil, Nat.zero_add, Nat.le_refl, List.getD_cons_zero, List.getD_cons_succ, bt4, ti3, ti23, ti34, getD_num, ite_and, ite_le, ite_lt, ite_eq, ite_lei, ite_lti, ite_nei, IntWalk.i64_in, ti22, tdiv8, tmod8, takeAll, takeDropAll, toNatAdd, toNatSub, decLtF, decLeF]; first | rfl | done); (simp (disch := omega) only [binX, List.replicate_succ, List.set_cons_zero, List.set_cons_succ, List.drop_replicate, Nat.sub_self, List.length_replicate, true_or, or_true, or_false, List.replicate_zero, List.nil_append, List.append_nil, maxLen, List.length_append, List.length_take, List.length_drop, Nat.min_self, List.take_length, Option.getD_some, Option.getD_none, Option.isSome_some, Option.isSome_none, forall_const, Bool.false_eq_true, false_implies, imp_self, implies_true, decide_true, decide_false, dropMap, takeMap, effect, callEff, evO, evP, evL, argL, argX, dataL, plain, plainC, plainL, lk, one, vv, one1, isNil, binV, unV, cvV, load1, store1, fieldOf, cellsOf, cellsAt, asVal, shift, partOf, dataC, elemsC, app1, cop1, len1, mslice1, bslice1, rowsA, build1, fillA, idx1, index1, slice1, optInt, addrAt, cutC, putAt, allD, dv, spl, boolV, Option.map_some, Option.bind_some, Option.map_none, Option.bind_none, ↓reduceIte, Bool.not_true, Bool.not_false, Bool.false_eq_true, and_true, true_and, Option.some.injEq, List.length_map, Nat.reduceEqDiff, Nat.reduceLeDiff, Nat.reduceAdd, Int.reduceLT, Int.reduceLE, Int.reduceToNat, Int.toNat_natCast, List.length_cons, List.length_nil, List.take_succ_cons, List.take_zero, List.drop_zero, List.map_cons, List.map_nil, Nat.zero_add, Nat.le_refl, List.getD_cons_zero, List.getD_cons_succ, bt4, ti3, ti23, ti34, getD_num, ite_and, ite_le, ite_lt, ite_eq, ite_lei, ite_lti, ite_nei, IntWalk.i64_in, ti22, tdiv8, tmod8, takeAll, takeDropAll, toNatAdd, toNatSub, decLtF, decLeF]; first | rfl | done); (exact h7); simp (disch := omega) only [List.length_replicate, List.length_map, Nat.reduceBEq, Bool.not_false, Bool.not_true, ↓reduceIte, Bool.false_eq_true, BEq.rfl, put1, skip1, frOf, know, vv, one, del, decide_true, decide_false, List.filter_cons, List.filter_nil, List.nil_append, List.cons_append, Nat.reduceAdd, Nat.add_zero, decLtF, decLeF]; simp only [callHp, frz, rB, rN, rO, unV', unX, unXs, unC, List.flatMap_cons, List.flatMap_nil, idsX, idsC, List.append_nil, ↓reduceIte, List.nil_append, List.cons_append, lk, Nat.reduceEqDiff, Nat.reduceAdd, List.length_map, List.length_cons, List.length_nil])
    | (apply RegA.call (hd := rfl) (fz := true) (hfz := .inl rfl); (first | exact trivial | rfl | exact congrArg some ‹_› | (simp (disch := omega) only [boolV, lk, ↓reduceIte, Nat.reduceEqDiff, decide_true, decide_false]; done)); (simp (disch := omega) only [binX, List.replicate_succ, List.set_cons_zero, List.set_cons_succ, List.drop_replicate, Nat.sub_self, List.length_replicate, true_or, or_true, or_false, List.replicate_zero, List.nil_append, List.append_nil, maxLen, List.length_append, List.length_take, List.length_drop, Nat.min_self, List.take_length, Option.getD_some, Option.getD_none, Option.isSome_some, Option.isSome_none, forall_const, Bool.false_eq_true, false_implies, imp_self, implies_true, decide_true, decide_false, dropMap, takeMap, effect, callEff, evO, evP, evL, argL, argX, dataL, plain, plainC, plainL, lk, one, vv, one1, isNil, binV, unV, cvV, load1, store1, fieldOf, cellsOf, cellsAt, asVal, shift, partOf, dataC, elemsC, app1, cop1, len1, mslice1, bslice1, rowsA, build1, fillA, idx1, index1, slice1, optInt, addrAt, cutC, putAt, allD, dv, spl, boolV, Option.map_some, Option.bind_some, Option.map_none, Option.bind_none, ↓reduceIte, Bool.not_true, Bool.not_false, Bool.false_eq_true, and_true, true_and, Option.some.injEq, List.length_map, Nat.reduceEqDiff, Nat.reduceLeDiff, Nat.reduceAdd, Int.reduceLT, Int.reduceLE, Int.reduceToNat, Int.toNat_natCast, List.length_cons, List.length_nil, List.take_succ_cons, List.take_zero, List.drop_zero, List.map_cons, List.map_nil, Nat.zero_add, Nat.le_refl, List.getD_cons_zero, List.getD_cons_succ, bt4, ti3, ti23, ti34, getD_num, ite_and, ite_le, ite_lt, ite_eq, ite_lei, ite_lti, ite_nei, IntWalk.i64_in, ti22, tdiv8, tmod8, takeAll, takeDropAll, toNatAdd, toNatSub, decLtF, decLeF]; first | rfl | done); (simp (disch := omega) only [binX, List.replicate_succ, List.set_cons_zero, List.set_cons_succ, List.drop_replicate, Nat.sub_self, List.length_replicate, true_or, or_true, or_false, List.replicate_zero, List.nil_append, List.append_nil, maxLen, List.length_append, List.length_take, List.length_drop, Nat.min_self, List.take_length, Option.getD_some, Option.getD_none, Option.isSome_some, Option.isSome_none, forall_const, Bool.false_eq_true, false_implies, imp_self, implies_true, decide_true, decide_false, dropMap, takeMap, effect, callEff, evO, evP, evL, argL, argX, dataL, plain, plainC, plainL, lk, one, vv, one1, isNil, binV, unV, cvV, load1, store1, fieldOf, cellsOf, cellsAt, asVal, shift, partOf, dataC, elemsC, app1, cop1, len1, mslice1, bslice1, rowsA, build1, fillA, idx1, index1, slice1, optInt, addrAt, cutC, putAt, allD, dv, spl, boolV, Option.map_some, Option.bind_some, Option.map_none, Option.bind_none, ↓reduceIte, Bool.not_true, Bool.not_false, Bool.false_eq_true, and_true, true_and, Option.some.injEq, List.length_map, Nat.reduceEqDiff, Nat.reduceLeDiff, Nat.reduceAdd, Int.reduceLT, Int.reduceLE, Int.reduceToNat, Int.toNat_natCast, List.length_cons, List.length_nil, List.take_succ_cons, List.take_zero, List.drop_zero, List.map_cons, List.map_nil, Nat.zero_add, Nat.le_refl, List.getD_cons_zero, List.getD_cons_succ, bt4, ti3, ti23, ti34, getD_num, ite_and, ite_le, ite_lt, ite_eq, ite_lei, ite_lti, ite_nei, IntWalk.i64_in, ti22, tdiv8, tmod8, takeAll, takeDropAll, toNatAdd, toNatSub, decLtF, decLeF]; first | rfl | done); (exact h1); simp (disch := omega) only [List.length_replicate, List.length_map, Nat.reduceBEq, Bool.not_false, Bool.not_true, ↓reduceIte, Bool.false_eq_true, BEq.rfl, put1, skip1, frOf, know, vv, one, del, decide_true, decide_false, List.filter_cons, List.filter_nil, List.nil_append, List.cons_append, Nat.reduceAdd, Nat.add_zero, decLtF, decLeF]; simp only [callHp, frz, rB, rN, rO, unV', unX, unXs, unC, List.flatMap_cons, List.flatMap_nil, idsX, idsC, List.append_nil, ↓reduceIte, List.nil_append, List.cons_append, lk, Nat.reduceEqDiff, Nat.reduceAdd, List.length_map, List.length_cons, List.length_nil])
    | (apply RegA.call (hd := rfl) (fz := true) (hfz := .inl rfl); (first | exact trivial | rfl | exact congrArg some ‹_› | (simp (disch := omega) only [boolV, lk, ↓reduceIte, Nat.reduceEqDiff, decide_true, decide_false]; done)); (simp (disch := omega) only [binX, List.replicate_succ, List.set_cons_zero, List.set_cons_succ, List.drop_replicate, Nat.sub_self, List.length_replicate, true_or, or_true, or_false, List.replicate_zero, List.nil_append, List.append_nil, maxLen, List.length_append, List.length_take, List.length_drop, Nat.min_self, List.take_length, Option.getD_some, Option.getD_none, Option.isSome_some, Option.isSome_none, forall_const, Bool.false_eq_true, false_implies, imp_self, implies_true, decide_true, decide_false, dropMap, takeMap, effect, callEff, evO, evP, evL, argL, argX, dataL, plain, plainC, plainL, lk, one, vv, one1, isNil, binV, unV, cvV, load1, store1, fieldOf, cellsOf, cellsAt, asVal, shift, partOf, dataC, elemsC, app1, cop1, len1, mslice1, bslice1, rowsA, build1, fillA, idx1, index1, slice1, optInt, addrAt, cutC, putAt, allD, dv, spl, boolV, Option.map_some, Option.bind_some, Option.map_none, Option.bind_none, ↓reduceIte, Bool.not_true, Bool.not_false, Bool.false_eq_true, and_true, true_and, Option.some.injEq, List.length_map, Nat.reduceEqDiff, Nat.reduceLeDiff, Nat.reduceAdd, Int.reduceLT, Int.reduceLE, Int.reduceToNat, Int.toNat_natCast, List.length_cons, List.length_nil, List.take_succ_cons, List.take_zero, List.drop_zero, List.map_cons, List.map_nil, Nat.zero_add, Nat.le_refl, List.getD_cons_zero, List.getD_cons_succ, bt4, ti3, ti23, ti34, getD_num, ite_and, ite_le, ite_lt, ite_eq, ite_lei, ite_lti, ite_nei, IntWalk.i64_in, ti22, tdiv8, tmod8, takeAll, takeDropAll, toNatAdd, toNatSub, decLtF, decLeF]; first | rfl | done); (simp (disch := omega) only [binX, List.replicate_succ, List.set_cons_zero, List.set_cons_succ, List.drop_replicate, Nat.sub_self, List.length_replicate, true_or, or_true, or_false, List.replicate_zero, List.nil_append, List.append_nil, maxLen, List.length_append, List.length_take, List.length_drop, Nat.min_self, List.take_length, Option.getD_some, Option.getD_none, Option.isSome_some, Option.isSome_none, forall_const, Bool.false_eq_true, false_implies, imp_self, implies_true, decide_true, decide_false, dropMap, takeMap, effect, callEff, evO, evP, evL, argL, argX, dataL, plain, plainC, plainL, lk, one, vv, one1, isNil, binV, unV, cvV, load1, store1, fieldOf, cellsOf, cellsAt, asVal, shift, partOf, dataC, elemsC, app1, cop1, len1, mslice1, bslice1, rowsA, build1, fillA, idx1, index1, slice1, optInt, addrAt, cutC, putAt, allD, dv, spl, boolV, Option.map_some, Option.bind_some, Option.map_none, Option.bind_none, ↓reduceIte, Bool.not_true, Bool.not_false, Bool.false_eq_true, and_true, true_and, Option.some.injEq, List.length_map, Nat.reduceEqDiff, Nat.reduceLeDiff, Nat.reduceAdd, Int.reduceLT, Int.reduceLE, Int.reduceToNat, Int.toNat_natCast, List.length_cons, List.length_nil, List.take_succ_cons, List.take_zero, List.drop_zero, List.map_cons, List.map_nil, Nat.zero_add, Nat.le_refl, List.getD_cons_zero, List.getD_cons_succ, bt4, ti3, ti23, ti34, getD_num, ite_and, ite_le, ite_lt, ite_eq, ite_lei, ite_lti, ite_nei, IntWalk.i64_in, ti22, tdiv8, tmod8, takeAll, takeDropAll, toNatAdd, toNatSub, decLtF, decLeF]; first | rfl | done); (exact h2); simp (disch := omega) only [List.length_replicate, List.length_map, Nat.reduceBEq, Bool.not_false, Bool.not_true, ↓reduceIte, Bool.false_eq_true, BEq.rfl, put1, skip1, frOf, know, vv, one, del, decide_true, decide_false, List.filter_cons, List.filter_nil, List.nil_append, List.cons_append, Nat.reduceAdd, Nat.add_zero, decLtF, decLeF]; simp only [callHp, frz, rB, rN, rO, unV', unX, unXs, unC, List.flatMap_cons, List.flatMap_nil, idsX, idsC, List.append_nil, ↓reduceIte, List.nil_append, List.cons_append, lk, Nat.reduceEqDiff, Nat.reduceAdd, List.length_map, List.length_cons, List.length_nil])
    | (apply RegA.call (hd := rfl) (fz := true) (hfz := .inl rfl); (first | exact trivial | rfl | exact congrArg some ‹_› | (simp (disch := omega) only [boolV, lk, ↓reduceIte, Nat.reduceEqDiff, decide_true, decide_false]; done)); (simp (disch := omega) only [binX, List.replicate_succ, List.set_cons_zero, List.set_cons_succ, List.drop_replicate, Nat.sub_self, List.length_replicate, true_or, or_true, or_false, List.replicate_zero, List.nil_append, List.append_nil, maxLen, List.length_append, List.length_take, List.length_drop, Nat.min_self, List.take_length, Option.getD_some, Option.getD_none, Option.isSome_some, Option.isSome_none, forall_const, Bool.false_eq_true, false_implies, imp_self, implies_true, decide_true, decide_false, dropMap, takeMap, effect, callEff, evO, evP, evL, argL, argX, dataL, plain, plainC, plainL, lk, one, vv, one1, isNil, binV, unV, cvV, load1, store1, fieldOf, cellsOf, cellsAt, asVal, shift, partOf, dataC, elemsC, app1, cop1, len1, mslice1, bslice1, rowsA, build1, fillA, idx1, index1, slice1, optInt, addrAt, cutC, putAt, allD, dv, spl, boolV, Option.map_some, Option.bind_some, Option.map_none, Option.bind_none, ↓reduceIte, Bool.not_true, Bool.not_false, Bool.false_eq_true, and_true, true_and, Option.some.injEq, List.length_map, Nat.reduceEqDiff, Nat.reduceLeDiff, Nat.reduceAdd, Int.reduceLT, Int.reduceLE, Int.reduceToNat, Int.toNat_natCast, List.length_cons, List.length_nil, List.take_succ_cons, List.take_zero, List.drop_zero, List.map_cons, List.map_nil, Nat.zero_add, Nat.le_refl, List.getD_cons_zero, List.getD_cons_succ, bt4, ti3, ti23, ti34, getD_num, ite_and, ite_le, ite_lt, ite_eq, ite_lei, ite_lti, ite_nei, IntWalk.i64_in, ti22, tdiv8, tmod8, takeAll, takeDropAll, toNatAdd, toNatSub, decLtF, decLeF]; first | rfl | done); (simp (disch := omega) only [binX, List.replicate_succ, List.set_cons_zero, List.set_cons_succ, List.drop_replicate, Nat.sub_self, List.length_replicate, true_or, or_true, or_false, List.replicate_zero, List.nil_append, List.append_nil, maxLen, List.length_append, List.length_take, List.length_drop, Nat.min_self, List.take_length, Option.getD_some, Option.getD_none, Option.isSome_some, Option.isSome_none, forall_const, Bool.false_eq_true, false_implies, imp_self, implies_true, decide_true, decide_false, dropMap, takeMap, effect, callEff, evO, evP, evL, argL, argX, dataL, plain, plainC, plainL, lk, one, vv, one1, isNil, binV, unV, cvV, load1, store1, fieldOf, cellsOf, cellsAt, asVal, shift, partOf, dataC, elemsC, app1, cop1, len1, mslice1, bslice1, rowsA, build1, fillA, idx1, index1, slice1, optInt, addrAt, cutC, putAt, allD, dv, spl, boolV, Option.map_some, Option.bind_some, Option.map_none, Option.bind_none, ↓reduceIte, Bool.not_true, Bool.not_false, Bool.false_eq_true, and_true, true_and, Option.some.injEq, List.length_map, Nat.reduceEqDiff, Nat.reduceLeDiff, Nat.reduceAdd, Int.reduceLT, Int.reduceLE, Int.reduceToNat, Int.toNat_natCast, List.length_cons, List.length_nil, List.take_succ_cons, List.take_zero, List.drop_zero, List.map_cons, List.map_nil, Nat.zero_add, Nat.le_refl, List.getD_cons_zero, List.getD_cons_succ, bt4, ti3, ti23, ti34, getD_num, ite_and, ite_le, ite_lt, ite_eq, ite_lei, ite_lti, ite_nei, IntWalk.i64_in, ti22, tdiv8, tmod8, takeAll, takeDropAll, toNatAdd, toNatSub, decLtF, decLeF]; first | rfl | done); (exact h3); simp (disch := omega) only [List.length_replicate, List.length_map, Nat.reduceBEq, Bool.not_false, Bool.not_true, ↓reduceIte, Bool.false_eq_true, BEq.rfl, put1, skip1, frOf, know, vv, one, del, decide_true, decide_false, List.filter_cons, List.filter_nil, List.nil_append, List.cons_append, Nat.reduceAdd, Nat.add_zero, decLtF, decLeF]; simp only [callHp, frz, rB, rN, rO, unV', unX, unXs, unC, List.flatMap_cons, List.flatMap_nil, idsX, idsC, List.append_nil, ↓reduceIte, List.nil_append, List.cons_append, lk, Nat.reduceEqDiff, Nat.reduceAdd, List.length_map, List.length_cons, List.length_nil])
    | (apply RegA.call (hd := rfl) (fz := true) (hfz := .inl rfl); (first | exact trivial | rfl | exact congrArg some ‹_› | (simp (disch := omega) only [boolV, lk, ↓reduceIte, Nat.reduceEqDiff, decide_true, decide_false]; done)); (simp (disch := omega) only [binX, List.replicate_succ, List.set_cons_zero, List.set_cons_succ, List.drop_replicate, Nat.sub_self, List.length_replicate, true_or, or_true, or_false, List.replicate_zero, List.nil_append, List.append_nil, maxLen, List.length_append, List.length_take, List.length_drop, Nat.min_self, List.take_length, Option.getD_some, Option.getD_none, Option.isSome_some, Option.isSome_none, forall_const, Bool.false_eq_true, false_implies, imp_self, implies_true, decide_true, decide_false, dropMap, takeMap, effect, callEff, evO, evP, evL, argL, argX, dataL, plain, plainC, plainL, lk, one, vv, one1, isNil, binV, unV, cvV, load1, store1, fieldOf, cellsOf, cellsAt, asVal, shift, partOf, dataC, elemsC, app1, cop1, len1, mslice1, bslice1, rowsA, build1, fillA, idx1, index1, slice1, optInt, addrAt, cutC, putAt, allD, dv, spl, boolV, Option.map_some, Option.bind_some, Option.map_none, Option.bind_none, ↓reduceIte, Bool.not_true, Bool.not_false, Bool.false_eq_true, and_true, true_and, Option.some.injEq, List.length_map, Nat.reduceEqDiff, Nat.reduceLeDiff, Nat.reduceAdd, Int.reduceLT, Int.reduceLE, Int.reduceToNat, Int.toNat_natCast, List.length_cons, List.length_nil, List.take_succ_cons, List.take_zero, List.drop_zero, List.map_cons, List.map_nil, Nat.zero_add, Nat.le_refl, List.getD_cons_zero, List.getD_cons_succ, bt4, ti3, ti23, ti34, getD_num, ite_and, ite_le, ite_lt, ite_eq, ite_lei, ite_lti, ite_nei, IntWalk.i64_in, ti22, tdiv8, tmod8, takeAll, takeDropAll, toNatAdd, toNatSub, decLtF, decLeF]; first | rfl | done); (simp (disch := omega) only [binX, List.replicate_succ, List.set_cons_zero, List.set_cons_succ, List.drop_replicate, Nat.sub_self, List.length_replicate, true_or, or_true, or_false, List.replicate_zero, List.nil_append, List.append_nil, maxLen, List.length_append, List.length_take, List.length_drop, Nat.min_self, List.take_length, Option.getD_some, Option.getD_none, Option.isSome_some, Option.isSome_none, forall_const, Bool.false_eq_true, false_implies, imp_self, implies_true, decide_true, decide_false, dropMap, takeMap, effect, callEff, evO, evP, evL, argL, argX, dataL, plain, plainC, plainL, lk, one, vv, one1, isNil, binV, unV, cvV, load1, store1, fieldOf, cellsOf, cellsAt, asVal, shift, partOf, dataC, elemsC, app1, cop1, len1, mslice1, bslice1, rowsA, build1, fillA, idx1, index1, slice1, optInt, addrAt, cutC, putAt, allD, dv, spl, boolV, Option.map_some, Option.bind_some, Option.map_none, Option.bind_none, ↓reduceIte, Bool.not_true, Bool.not_false, Bool.false_eq_true, and_true, true_and, Option.some.injEq, List.length_map, Nat.reduceEqDiff, Nat.reduceLeDiff, Nat.reduceAdd, Int.reduceLT, Int.reduceLE, Int.reduceToNat, Int.toNat_natCast, List.length_cons, List.length_nil, List.take_succ_cons, List.take_zero, List.drop_zero, List.map_cons, List.map_nil, Nat.zero_add, Nat.le_refl, List.getD_cons_zero, List.getD_cons_succ, bt4, ti3, ti23, ti34, getD_num, ite_and, ite_le, ite_lt, ite_eq, ite_lei, ite_lti, ite_nei, IntWalk.i64_in, ti22, tdiv8, tmod8, takeAll, takeDropAll, toNatAdd, toNatSub, decLtF, decLeF]; first | rfl | done); (exact h4); simp (disch := omega) only [List.length_replicate, List.length_map, Nat.reduceBEq, Bool.not_false, Bool.not_true, ↓reduceIte, Bool.false_eq_true, BEq.rfl, put1, skip1, frOf, know, vv, one, del, decide_true, decide_false, List.filter_cons, List.filter_nil, List.nil_append, List.cons_append, Nat.reduceAdd, Nat.add_zero, decLtF, decLeF]; simp only [callHp, frz, rB, rN, rO, unV', unX, unXs, unC, List.flatMap_cons, List.flatMap_nil, idsX, idsC, List.append_nil, ↓reduceIte, List.nil_append, List.cons_append, lk, Nat.reduceEqDiff, Nat.reduceAdd, List.length_map, List.length_cons, List.length_nil])
    | (apply RegA.call (hd := rfl) (fz := true) (hfz := .inl rfl); (first | exact trivial | rfl | exact congrArg some ‹_› | (simp (disch := omega) only [boolV, lk, ↓reduceIte, Nat.reduceEqDiff, decide_true, decide_false]; done)); (simp (disch := omega) only [binX, List.replicate_succ, List.set_cons_zero, List.set_cons_succ, List.drop_replicate, Nat.sub_self, List.length_replicate, true_or, or_true, or_false, List.replicate_zero, List.nil_append, List.append_nil, maxLen, List.length_append, List.length_take, List.length_drop, Nat.min_self, List.take_length, Option.getD_some, Option.getD_none, Option.isSome_some, Option.isSome_none, forall_const, Bool.false_eq_true, false_implies, imp_self, implies_true, decide_true, decide_false, dropMap, takeMap, effect, callEff, evO, evP, evL, argL, argX, dataL, plain, plainC, plainL, lk, one, vv, one1, isNil, binV, unV, cvV, load1, store1, fieldOf, cellsOf, cellsAt, asVal, shift, partOf, dataC, elemsC, app1, cop1, len1, mslice1, bslice1, rowsA, build1, fillA, idx1, index1, slice1, optInt, addrAt, cutC, putAt, allD, dv, spl, boolV, Option.map_some, Option.bind_some, Option.map_none, Option.bind_none, ↓reduceIte, Bool.not_true, Bool.not_false, Bool.false_eq_true, and_true, true_and, Option.some.injEq, List.length_map, Nat.reduceEqDiff, Nat.reduceLeDiff, Nat.reduceAdd, Int.reduceLT, Int.reduceLE, Int.reduceToNat, Int.toNat_natCast, List.length_cons, List.length_nil, List.take_succ_cons, List.take_zero, List.drop_zero, List.map_cons, List.map_nil, Nat.zero_add, Nat.le_refl, List.getD_cons_zero, List.getD_cons_succ, bt4, ti3, ti23, ti34, getD_num, ite_and, ite_le, ite_lt, ite_eq, ite_lei, ite_lti, ite_nei, IntWalk.i64_in, ti22, tdiv8, tmod8, takeAll, takeDropAll, toNatAdd, toNatSub, decLtF, decLeF]; first | rfl | done); (simp (disch := omega) only [binX, List.replicate_succ, List.set_cons_zero, List.set_cons_succ, List.drop_replicate, Nat.sub_self, List.length_replicate, true_or, or_true, or_false, List.replicate_zero, List.nil_append, List.append_nil, maxLen, List.length_append, List.length_take, List.length_drop, Nat.min_self, List.take_length, Option.getD_some, Option.getD_none, Option.isSome_some, Option.isSome_none, forall_const, Bool.false_eq_true, false_implies, imp_self, implies_true, decide_true, decide_false, dropMap, takeMap, effect, callEff, evO, evP, evL, argL, argX, dataL, plain, plainC, plainL, lk, one, vv, one1, isNil, binV, unV, cvV, load1, store1, fieldOf, cellsOf, cellsAt, asVal, shift, partOf, dataC, elemsC, app1, cop1, len1, mslice1, bslice1, rowsA, build1, fillA, idx1, index1, slice1, optInt, addrAt, cutC, putAt, allD, dv, spl, boolV, Option.map_some, Option.bind_some, Option.map_none, Option.bind_none, ↓reduceIte, Bool.not_true, Bool.not_false, Bool.false_eq_true, and_true, true_and, Option.some.injEq, List.length_map, Nat.reduceEqDiff, Nat.reduceLeDiff, Nat.reduceAdd, Int.reduceLT, Int.reduceLE, Int.reduceToNat, Int.toNat_natCast, List.length_cons, List.length_nil, List.take_succ_cons, List.take_zero, List.drop_zero, List.map_cons, List.map_nil, Nat.zero_add, Nat.le_refl, List.getD_cons_zero, List.getD_cons_succ, bt4, ti3, ti23, ti34, getD_num, ite_and, ite_le, ite_lt, ite_eq, ite_lei, ite_lti, ite_nei, IntWalk.i64_in, ti22, tdiv8, tmod8, takeAll, takeDropAll, toNatAdd, toNatSub, decLtF, decLeF]; first | rfl | done); (exact con17); simp (disch := omega) only [List.length_replicate, List.length_map, Nat.reduceBEq, Bool.not_false, Bool.not_true, ↓reduceIte, Bool.false_eq_true, BEq.rfl, put1, skip1, frOf, know, vv, one, del, decide_true, decide_false, List.filter_cons, List.filter_nil, List.nil_append, List.cons_append, Nat.reduceAdd, Nat.add_zero, decLtF, decLeF]; simp only [callHp, frz, rB, rN, rO, unV', unX, unXs, unC, List.flatMap_cons, List.flatMap_nil, idsX, idsC, List.append_nil, ↓reduceIte, List.nil_append, List.cons_append, lk, Nat.reduceEqDiff, Nat.reduceAdd, List.length_map, List.length_cons, List.length_nil])
    | (refine RegA.off rfl rfl ?_; simp (disch := omega) only [List.length_replicate, List.length_map, Nat.reduceBEq, Bool.not_false, Bool.not_true, ↓reduceIte, Bool.false_eq_true, BEq.rfl, put1, skip1, frOf, know, vv, one, del, decide_true, decide_false, List.filter_cons, List.filter_nil, List.nil_append, List.cons_append, Nat.reduceAdd, Nat.add_zero, decLtF, decLeF])
    | (refine RegA.split rfl ?_ ?_ <;> (intro hsp; (try simp only [Bool.not_eq_true', Bool.not_eq_false', decide_eq_true_eq, decide_eq_false_iff_not, Decidable.not_not, Int.not_lt, Int.not_le, Int.natCast_inj, Bool.and_eq_true, Bool.or_eq_true, Bool.not_not, ne_eq] at hsp); simp (disch := omega) only [List.length_replicate, List.length_map, Nat.reduceBEq, Bool.not_false, Bool.not_true, ↓reduceIte, Bool.false_eq_true, BEq.rfl, put1, skip1, frOf, know, vv, one, del, decide_true, decide_false, List.filter_cons, List.filter_nil, List.nil_append, List.cons_append, Nat.reduceAdd, Nat.add_zero, decLtF, decLeF]))
    | (apply DrawA.op' (hd := rfl); (simp only [List.length_cons, List.length_nil, Nat.reduceMul, Nat.reduceAdd]; rfl); (simp only [Bool.not_false, Bool.not_true, Eng.mk, Eng.put1, Eng.skip1, frOf, vv, one, del, List.filter_cons, List.filter_nil, List.nil_append, List.cons_append, Nat.reduceAdd, Nat.reduceMul, Nat.add_zero, List.length_nil, List.length_cons, List.getD_cons_zero, List.getD_cons_succ, List.contains_cons, List.contains_nil, Nat.reduceBEq, BEq.rfl, Bool.or_false, Bool.false_or, Bool.or_true, Bool.true_or, Bool.false_eq_true, ↓reduceIte, if_false, if_true, allIn, List.range, List.range.loop]; rfl); (first | exact trivial | rfl | exact congrArg some ‹_› | (simp (disch := omega) only [boolV, lk, ↓reduceIte, Nat.reduceEqDiff, decide_true, decide_false]; done)); (simp (disch := omega) only [binX, List.replicate_succ, List.set_cons_zero, List.set_cons_succ, List.drop_replicate, Nat.sub_self, List.length_replicate, true_or, or_true, or_false, List.replicate_zero, List.nil_append, List.append_nil, maxLen, List.length_append, List.length_take, List.length_drop, Nat.min_self, List.take_length, Option.getD_some, Option.getD_none, Option.isSome_some, Option.isSome_none, forall_const, Bool.false_eq_true, false_implies, imp_self, implies_true, decide_true, decide_false, dropMap, takeMap, effect, callEff, evO, evP, evL, argL, argX, dataL, plain, plainC, plainL, lk, one, vv, one1, isNil, binV, unV, cvV, load1, store1, fieldOf, cellsOf, cellsAt, asVal, shift, partOf, dataC, elemsC, app1, cop1, len1, mslice1, bslice1, rowsA, build1, fillA, idx1, index1, slice1, optInt, addrAt, cutC, putAt, allD, dv, spl, boolV, Option.map_some, Option.bind_some, Option.map_none, Option.bind_none, ↓reduceIte, Bool.not_true, Bool.not_false, Bool.false_eq_true, and_true, true_and, Option.some.injEq, List.length_map, Nat.reduceEqDiff, Nat.reduceLeDiff, Nat.reduceAdd, Int.reduceLT, Int.reduceLE, Int.reduceToNat, Int.toNat_natCast, List.length_cons, List.length_nil, List.take_succ_cons, List.take_zero, List.drop_zero, List.map_cons, List.map_nil, Nat.zero_add, Nat.le_refl, List.getD_cons_zero, List.getD_cons_succ, bt4, ti3, ti23, ti34, getD_num, ite_and, ite_le, ite_lt, ite_eq, ite_lei, ite_lti, ite_nei, IntWalk.i64_in, ti22, tdiv8, tmod8, takeAll, takeDropAll, toNatAdd, toNatSub, decLtF, decLeF]; first | rfl | done); rfl; rfl; simp only [List.nil_append, List.cons_append])
    | (apply DrawA.nil'; (simp only [List.length_cons, List.length_nil, Nat.reduceMul, Nat.reduceAdd]; rfl); (simp only [Bool.not_false, Bool.not_true, mkAll, Eng.put1, Eng.skip1, frOf, vv, one, del, List.filter_cons, List.filter_nil, List.nil_append, List.cons_append, Nat.reduceAdd, Nat.reduceMul, Nat.add_zero, List.length_nil, List.length_cons, List.getD_cons_zero, List.getD_cons_succ, List.contains_cons, List.contains_nil, Nat.reduceBEq, BEq.rfl, Bool.or_false, Bool.false_or, Bool.or_true, Bool.true_or, Bool.false_eq_true, ↓reduceIte, if_false, if_true, allIn, List.range, List.range.loop]; rfl); assumption)
    | (refine RegA.done ‹_› ?_)
    | (refine awp_seq fun K hK => ?_)
    | (refine Awp.reg ?_)
    | (refine Awp.draw' (A := [[], [], [], [1, 2], [0, 3, 1, 2], [4, 0, 3, 1, 2], [], [], [6, 7], [8, 6, 7], [5, 9, 4, 0, 3, 1, 2, 8, 6, 7]]) rfl rfl rfl ?_)
    | (refine Awp.skip ?_)
    | (refine Awp.block ?_)
    | (refine Awp.scope ?_)
    | (refine Awp.ct rfl ?_)
    | (refine Awp.cf rfl ?_)
    | (refine Awp.ct (congrArg some (congrArg Value.bool ?_)) ?_; focus (simp (disch := omega) only [decide_eq_true_eq, decide_eq_false_iff_not, Bool.not_eq_true', Bool.not_eq_false', decide_true, decide_false, Bool.not_true, Bool.not_false, bt4, ti3, ti23, ti34, getD_num, ite_and, ite_le, ite_lt, ite_eq, ite_lei, ite_lti, ite_nei, IntWalk.i64_in, ti22, tdiv8, tmod8, takeAll, takeDropAll, toNatAdd, toNatSub, decLtF, decLeF]; done))
    | (refine Awp.cf (congrArg some (congrArg Value.bool ?_)) ?_; focus (simp (disch := omega) only [decide_eq_true_eq, decide_eq_false_iff_not, Bool.not_eq_true', Bool.not_eq_false', decide_true, decide_false, Bool.not_true, Bool.not_false, bt4, ti3, ti23, ti34, getD_num, ite_and, ite_le, ite_lt, ite_eq, ite_lei, ite_lti, ite_nei, IntWalk.i64_in, ti22, tdiv8, tmod8, takeAll, takeDropAll, toNatAdd, toNatSub, decLtF, decLeF]; done))
    | (refine Awp.cond rfl ?_ ?_ <;> (intro hsp; (try simp only [Bool.not_eq_true', Bool.not_eq_false', decide_eq_true_eq, decide_eq_false_iff_not, Decidable.not_not, Int.not_lt, Int.not_le, Int.natCast_inj, Bool.and_eq_true, Bool.or_eq_true, Bool.not_not, ne_eq] at hsp)))
    | (refine Awp.exit ?_; simp only [blockQ, thenQ, scopeQ, ↓reduceIte, Nat.reduceEqDiff])
    | (refine viaK ‹_› ?_)
    | (simp only [thenQ_normal, blockQ_normal])))
  · exfalso; omega
  · refine Awp.loop (α := {i : Nat // i ≤ l.length}) (fun i => { fr := [(14, vv (.int .i64 (i.1 : Int))), (13, vv (.int .i64 ((dl m l a.toNat i.1).length : Int))), (0, .x (.one (.d (.sl 1 (m.map (numD .u64)))))), (1, vv (.int .i64 a)), (2, .x (.one (.d (.sl 1 (l.map (numD .u64)))))), (11, .x (.one (.own 0 D.length)))], hp := [(0, .row 1 (D.map (numD .i64)) false)], nx := 1, nt := 127 }) (fun i => l.length - i.1) ⟨0, by omega⟩ [(0, 2)] ?_ ?_
    · simp only [Wk, frIn, hpIn, lk, renV, renX, renC, belV, belX, belC, belL, ↓reduceIte, Nat.reduceEqDiff, and_self, and_true, true_and]; simp [vv, one, renV, renX, renC, belV, belX, belC, rho, renO, belO, lk, dl]
    · rintro ⟨i, hi⟩
      have hi' : i ≤ l.length := hi
      have hli := dl_len m l a.toNat i
      have hDi : (i < l.length ∧ ¬ m.getD (a.toNat + i) 0 = l.getD i 0) → (dl m l a.toNat i).length < D.length ∧ D.getD (dl m l a.toNat i).length 0 = a + i := fun h => hD i h.1 h.2
      have hex : l.length ≤ i → (dl m l a.toNat i).length = D.length := fun h => by rw [show i = l.length by omega, hDD]
      clear hD
      simp only [vv, one]
      (repeat' (first
    | (apply RegA.op (hd := rfl); (first | exact trivial | rfl | exact congrArg some ‹_› | (simp (disch := omega) only [boolV, lk, ↓reduceIte, Nat.reduceEqDiff, decide_true, decide_false]; done)); (simp (disch := omega) only [binX, List.replicate_succ, List.set_cons_zero, List.set_cons_succ, List.drop_replicate, Nat.sub_self, List.length_replicate, true_or, or_true, or_false, List.replicate_zero, List.nil_append, List.append_nil, maxLen, List.length_append, List.length_take, List.length_drop, Nat.min_self, List.take_length, Option.getD_some, Option.getD_none, Option.isSome_some, Option.isSome_none, forall_const, Bool.false_eq_true, false_implies, imp_self, implies_true, decide_true, decide_false, dropMap, takeMap, effect, callEff, evO, evP, evL, argL, argX, dataL, plain, plainC, plainL, lk, one, vv, one1, isNil, binV, unV, cvV, load1, store1, fieldOf, cellsOf, cellsAt, asVal, shift, partOf, dataC, elemsC, app1, cop1, len1, mslice1, bslice1, rowsA, build1, fillA, idx1, index1, slice1, optInt, addrAt, cutC, putAt, allD, dv, spl, boolV, Option.map_some, Option.bind_some, Option.map_none, Option.bind_none, ↓reduceIte, Bool.not_true, Bool.not_false, Bool.false_eq_true, and_true, true_and, Option.some.injEq, List.length_map, Nat.reduceEqDiff, Nat.reduceLeDiff, Nat.reduceAdd, Int.reduceLT, Int.reduceLE, Int.reduceToNat, Int.toNat_natCast, List.length_cons, List.length_nil, List.take_succ_cons, List.take_zero, List.drop_zero, List.map_cons, List.map_nil, Nat.zero_add, Nat.le_refl, List.getD_cons_zero, List.getD_cons_succ, bt4, ti3, ti23, ti34, getD_num, ite_and, ite_le, ite_lt, ite_eq, ite_lei, ite_lti, ite_nei, IntWalk.i64_in, ti22, tdiv8, tmod8, takeAll, takeDropAll, toNatAdd, toNatSub, decLtF, decLeF, decEqT]; first | rfl | done); simp (disch := omega) only [List.length_replicate, List.length_map, Nat.reduceBEq, Bool.not_false, Bool.not_true, ↓reduceIte, Bool.false_eq_true, BEq.rfl, put1, skip1, frOf, know, vv, one, del, decide_true, decide_false, List.filter_cons, List.filter_nil, List.nil_append, List.cons_append, Nat.reduceAdd, Nat.add_zero, decLtF, decLeF])
    | (apply RegA.call (hd := rfl) (fz := true) (hfz := .inl rfl); (first | exact trivial | rfl | exact congrArg some ‹_› | (simp (disch := omega) only [boolV, lk, ↓reduceIte, Nat.reduceEqDiff, decide_true, decide_false]; done)); (simp (disch := omega) only [binX, List.replicate_succ, List.set_cons_zero, List.set_cons_succ, List.drop_replicate, Nat.sub_self, List.length_replicate, true_or, or_true, or_false, List.replicate_zero, List.nil_append, List.append_nil, maxLen, List.length_append, List.length_take, List.length_drop, Nat.min_self, List.take_length, Option.getD_some, Option.getD_none, Option.isSome_some, Option.isSome_none, forall_const, Bool.false_eq_true, false_implies, imp_self, implies_true, decide_true, decide_false, dropMap, takeMap, effect, callEff, evO, evP, evL, argL, argX, dataL, plain, plainC, plainL, lk, one, vv, one1, isNil, binV, unV, cvV, load1, store1, fieldOf, cellsOf, cellsAt, asVal, shift, partOf, dataC, elemsC, app1, cop1, len1, mslice1, bslice1, rowsA, build1, fillA, idx1, index1, slice1, optInt, addrAt, cutC, putAt, allD, dv, spl, boolV, Option.map_some, Option.bind_some, Option.map_none, Option.bind_none, ↓reduceIte, Bool.not_true, Bool.not_false, Bool.false_eq_true, and_true, true_and, Option.some.injEq, List.length_map, Nat.reduceEqDiff, Nat.reduceLeDiff, Nat.reduceAdd, Int.reduceLT, Int.reduceLE, Int.reduceToNat, Int.toNat_natCast, List.length_cons, List.length_nil, List.take_succ_cons, List.take_zero, List.drop_zero, List.map_cons, List.map_nil, Nat.zero_add, Nat.le_refl, List.getD_cons_zero, List.getD_cons_succ, bt4, ti3, ti23, ti34, getD_num, ite_and, ite_le, ite_lt, ite_eq, ite_lei, ite_lti, ite_nei, IntWalk.i64_in, ti22, tdiv8, tmod8, takeAll, takeDropAll, toNatAdd, toNatSub, decLtF, decLeF, decEqT]; first | rfl | done); (simp (disch := omega) only [binX, List.replicate_succ, List.set_cons_zero, List.set_cons_succ, List.drop_replicate, Nat.sub_self, List.length_replicate, true_or, or_true, or_false, List.replicate_zero, List.nil_append, List.append_nil, maxLen, List.length_append, List.length_take, List.length_drop, Nat.min_self, List.take_length, Option.getD_some, Option.getD_none, Option.isSome_some, Option.isSome_none, forall_const, Bool.false_eq_true, false_implies, imp_self, implies_true, decide_true, decide_false, dropMap, takeMap, effect, callEff, evO, evP, evL, argL, argX, dataL, plain, plainC, plainL, lk, one, vv, one1, isNil, binV, unV, cvV, load1, store1, fieldOf, cellsOf, cellsAt, asVal, shift, partOf, dataC, elemsC, app1, cop1, len1, mslice1, bslice1, rowsA, build1, fillA, idx1, index1, slice1, optInt, addrAt, cutC, putAt, allD, dv, spl, boolV, Option.map_some, Option.bind_some, Option.map_none, Option.bind_none, ↓reduceIte, Bool.not_true, Bool.not_false, Bool.false_eq_true, and_true, true_and, Option.some.injEq, List.length_map, Nat.reduceEqDiff, Nat.reduceLeDiff, Nat.reduceAdd, Int.reduceLT, Int.reduceLE, Int.reduceToNat, Int.toNat_natCast, List.length_cons, List.length_nil, List.take_succ_cons, List.take_zero, List.drop_zero, List.map_cons, List.map_nil, Nat.zero_add, Nat.le_refl, List.getD_cons_zero, List.getD_cons_succ, bt4, ti3, ti23, ti34, getD_num, ite_and, ite_le, ite_lt, ite_eq, ite_lei, ite_lti, ite_nei, IntWalk.i64_in, ti22, tdiv8, tmod8, takeAll, takeDropAll, toNatAdd, toNatSub, decLtF, decLeF, decEqT]; first | rfl | done); (exact con17); simp (disch := omega) only [List.length_replicate, List.length_map, Nat.reduceBEq, Bool.not_false, Bool.not_true, ↓reduceIte, Bool.false_eq_true, BEq.rfl, put1, skip1, frOf, know, vv, one, del, decide_true, decide_false, List.filter_cons, List.filter_nil, List.nil_append, List.cons_append, Nat.reduceAdd, Nat.add_zero, decLtF, decLeF]; simp only [callHp, frz, rB, rN, rO, unV', unX, unXs, unC, List.flatMap_cons, List.flatMap_nil, idsX, idsC, List.append_nil, ↓reduceIte, List.nil_append, List.cons_append, lk, Nat.reduceEqDiff, Nat.reduceAdd, List.length_map, List.length_cons, List.length_nil])
    | (refine RegA.off rfl rfl ?_; simp (disch := omega) only [List.length_replicate, List.length_map, Nat.reduceBEq, Bool.not_false, Bool.not_true, ↓reduceIte, Bool.false_eq_true, BEq.rfl, put1, skip1, frOf, know, vv, one, del, decide_true, decide_false, List.filter_cons, List.filter_nil, List.nil_append, List.cons_append, Nat.reduceAdd, Nat.add_zero, decLtF, decLeF])
    | (refine RegA.split rfl ?_ ?_ <;> (intro hsp; (try simp only [Bool.not_eq_true', Bool.not_eq_false', decide_eq_true_eq, decide_eq_false_iff_not, Decidable.not_not, Int.not_lt, Int.not_le, Int.natCast_inj, Bool.and_eq_true, Bool.or_eq_true, Bool.not_not, ne_eq] at hsp); simp (disch := omega) only [List.length_replicate, List.length_map, Nat.reduceBEq, Bool.not_false, Bool.not_true, ↓reduceIte, Bool.false_eq_true, BEq.rfl, put1, skip1, frOf, know, vv, one, del, decide_true, decide_false, List.filter_cons, List.filter_nil, List.nil_append, List.cons_append, Nat.reduceAdd, Nat.add_zero, decLtF, decLeF]))
    | (apply DrawA.op' (hd := rfl); (simp only [List.length_cons, List.length_nil, Nat.reduceMul, Nat.reduceAdd]; rfl); (simp only [Bool.not_false, Bool.not_true, Eng.mk, Eng.put1, Eng.skip1, frOf, vv, one, del, List.filter_cons, List.filter_nil, List.nil_append, List.cons_append, Nat.reduceAdd, Nat.reduceMul, Nat.add_zero, List.length_nil, List.length_cons, List.getD_cons_zero, List.getD_cons_succ, List.contains_cons, List.contains_nil, Nat.reduceBEq, BEq.rfl, Bool.or_false, Bool.false_or, Bool.or_true, Bool.true_or, Bool.false_eq_true, ↓reduceIte, if_false, if_true, allIn, List.range, List.range.loop]; rfl); (first | exact trivial | rfl | exact congrArg some ‹_› | (simp (disch := omega) only [boolV, lk, ↓reduceIte, Nat.reduceEqDiff, decide_true, decide_false]; done)); (simp (disch := omega) only [binX, List.replicate_succ, List.set_cons_zero, List.set_cons_succ, List.drop_replicate, Nat.sub_self, List.length_replicate, true_or, or_true, or_false, List.replicate_zero, List.nil_append, List.append_nil, maxLen, List.length_append, List.length_take, List.length_drop, Nat.min_self, List.take_length, Option.getD_some, Option.getD_none, Option.isSome_some, Option.isSome_none, forall_const, Bool.false_eq_true, false_implies, imp_self, implies_true, decide_true, decide_false, dropMap, takeMap, effect, callEff, evO, evP, evL, argL, argX, dataL, plain, plainC, plainL, lk, one, vv, one1, isNil, binV, unV, cvV, load1, store1, fieldOf, cellsOf, cellsAt, asVal, shift, partOf, dataC, elemsC, app1, cop1, len1, mslice1, bslice1, rowsA, build1, fillA, idx1, index1, slice1, optInt, addrAt, cutC, putAt, allD, dv, spl, boolV, Option.map_some, Option.bind_some, Option.map_none, Option.bind_none, ↓reduceIte, Bool.not_true, Bool.not_false, Bool.false_eq_true, and_true, true_and, Option.some.injEq, List.length_map, Nat.reduceEqDiff, Nat.reduceLeDiff, Nat.reduceAdd, Int.reduceLT, Int.reduceLE, Int.reduceToNat, Int.toNat_natCast, List.length_cons, List.length_nil, List.take_succ_cons, List.take_zero, List.drop_zero, List.map_cons, List.map_nil, Nat.zero_add, Nat.le_refl, List.getD_cons_zero, List.getD_cons_succ, bt4, ti3, ti23, ti34, getD_num, ite_and, ite_le, ite_lt, ite_eq, ite_lei, ite_lti, ite_nei, IntWalk.i64_in, ti22, tdiv8, tmod8, takeAll, takeDropAll, toNatAdd, toNatSub, decLtF, decLeF, decEqT]; first | rfl | done); rfl; rfl; simp only [List.nil_append, List.cons_append])
    | (apply DrawA.nil'; (simp only [List.length_cons, List.length_nil, Nat.reduceMul, Nat.reduceAdd]; rfl); (simp only [Bool.not_false, Bool.not_true, mkAll, Eng.put1, Eng.skip1, frOf, vv, one, del, List.filter_cons, List.filter_nil, List.nil_append, List.cons_append, Nat.reduceAdd, Nat.reduceMul, Nat.add_zero, List.length_nil, List.length_cons, List.getD_cons_zero, List.getD_cons_succ, List.contains_cons, List.contains_nil, Nat.reduceBEq, BEq.rfl, Bool.or_false, Bool.false_or, Bool.or_true, Bool.true_or, Bool.false_eq_true, ↓reduceIte, if_false, if_true, allIn, List.range, List.range.loop]; rfl); assumption)
    | (refine RegA.done ‹_› ?_)
    | (refine awp_seq fun K hK => ?_)
    | (refine Awp.reg ?_)
    | (refine Awp.draw' (A := [[], [], [], [1, 2], [0, 3, 1, 2], [4, 0, 3, 1, 2], [], [], [6, 7], [8, 6, 7], [5, 9, 4, 0, 3, 1, 2, 8, 6, 7]]) rfl rfl rfl ?_)
    | (refine Awp.skip ?_)
    | (refine Awp.block ?_)
    | (refine Awp.scope ?_)
    | (refine Awp.ct rfl ?_)
    | (refine Awp.cf rfl ?_)
    | (refine Awp.ct (congrArg some (congrArg Value.bool ?_)) ?_; focus (simp (disch := omega) only [decide_eq_true_eq, decide_eq_false_iff_not, Bool.not_eq_true', Bool.not_eq_false', decide_true, decide_false, Bool.not_true, Bool.not_false, bt4, ti3, ti23, ti34, getD_num, ite_and, ite_le, ite_lt, ite_eq, ite_lei, ite_lti, ite_nei, IntWalk.i64_in, ti22, tdiv8, tmod8, takeAll, takeDropAll, toNatAdd, toNatSub, decLtF, decLeF, decEqT]; done))
    | (refine Awp.cf (congrArg some (congrArg Value.bool ?_)) ?_; focus (simp (disch := omega) only [decide_eq_true_eq, decide_eq_false_iff_not, Bool.not_eq_true', Bool.not_eq_false', decide_true, decide_false, Bool.not_true, Bool.not_false, bt4, ti3, ti23, ti34, getD_num, ite_and, ite_le, ite_lt, ite_eq, ite_lei, ite_lti, ite_nei, IntWalk.i64_in, ti22, tdiv8, tmod8, takeAll, takeDropAll, toNatAdd, toNatSub, decLtF, decLeF, decEqT]; done))
    | (refine Awp.cond rfl ?_ ?_ <;> (intro hsp; (try simp only [Bool.not_eq_true', Bool.not_eq_false', decide_eq_true_eq, decide_eq_false_iff_not, Decidable.not_not, Int.not_lt, Int.not_le, Int.natCast_inj, Bool.and_eq_true, Bool.or_eq_true, Bool.not_not, ne_eq] at hsp)))
    | (refine Awp.exit ?_; simp only [blockQ, thenQ, scopeQ, ↓reduceIte, Nat.reduceEqDiff])
    | (refine viaK ‹_› ?_)
    | (simp only [thenQ_normal, blockQ_normal])))
      · refine RegA.nil ⟨⟨i + 1, by omega⟩, [], ?_, ?_⟩
        · have e := dl_eq hsp
          simp only [Wk, frIn, hpIn, lk, renV, renX, renC, belV, belX, belC, belL, ↓reduceIte, Nat.reduceEqDiff, and_self, and_true, true_and]; simp [vv, one, renV, renX, renC, belV, belX, belC, rho, renO, belO, lk, e]
        · simp only []; omega
      · refine RegA.nil ⟨⟨i + 1, by omega⟩, [], ?_, ?_⟩
        · have e := dl_ne hsp
          simp only [Wk, frIn, hpIn, lk, renV, renX, renC, belV, belX, belC, belL, ↓reduceIte, Nat.reduceEqDiff, and_self, and_true, true_and]; simp [vv, one, renV, renX, renC, belV, belX, belC, rho, renO, belO, lk, e]
        · simp only []; omega
      · (refine Awp.ret ?_; apply ret_of (.inl rfl); rfl; (simp (disch := omega) only [outXs, outX, outC, outL, lk, ↓reduceIte, Nat.reduceEqDiff, List.length_map, List.length_nil, List.length_replicate, List.length_cons, List.length_take, List.length_drop, List.length_append, ite_eq, Option.map_some, Bool.false_eq_true]; rfl); (focus simp [ownsX, ownsC]); simp [laxR, laxX, laxC, rB, rN, rO, *] <;> (intros; omega))
set_option maxHeartbeats 1000000 in
set_option maxRecDepth 10000 in
theorem bad6 (m l : List Int) (a : Int) (hc : chk (m.length : Int) = 0 → m.length ≤ 2048) (h : ¬ (chk (m.length : Int) = 0 ∧ 0 ≤ a ∧ l.length ≤ 100 ∧ (l.length : Int) ≤ m.length - a)) : Con Try.prog 6 [sN .u64 m, vN .i64 a, sN .u64 l] [rB true] := by
  refine con_of_awp hmix Try.func6 s6 rfl (by rw [n6]; simp) r6 n6 ?_
  simp only [Eng.start, startFr, inX, sN, vN, c6]
  (repeat' (first
    | (apply RegA.op (hd := rfl); (first | exact trivial | rfl | exact congrArg some ‹_› | (simp (disch := omega) only [boolV, lk, ↓reduceIte, Nat.reduceEqDiff, decide_true, decide_false]; done)); (simp (disch := omega) only [binX, List.replicate_succ, List.set_cons_zero, List.set_cons_succ, List.drop_replicate, Nat.sub_self, List.length_replicate, true_or, or_true, or_false, List.replicate_zero, List.nil_append, List.append_nil, maxLen, List.length_append, List.length_take, List.length_drop, Nat.min_self, List.take_length, Option.getD_some, Option.getD_none, Option.isSome_some, Option.isSome_none, forall_const, Bool.false_eq_true, false_implies, imp_self, implies_true, decide_true, decide_false, dropMap, takeMap, effect, callEff, evO, evP, evL, argL, argX, dataL, plain, plainC, plainL, lk, one, vv, one1, isNil, binV, unV, cvV, load1, store1, fieldOf, cellsOf, cellsAt, asVal, shift, partOf, dataC, elemsC, app1, cop1, len1, mslice1, bslice1, rowsA, build1, fillA, idx1, index1, slice1, optInt, addrAt, cutC, putAt, allD, dv, spl, boolV, Option.map_some, Option.bind_some, Option.map_none, Option.bind_none, ↓reduceIte, Bool.not_true, Bool.not_false, Bool.false_eq_true, and_true, true_and, Option.some.injEq, List.length_map, Nat.reduceEqDiff, Nat.reduceLeDiff, Nat.reduceAdd, Int.reduceLT, Int.reduceLE, Int.reduceToNat, Int.toNat_natCast, List.length_cons, List.length_nil, List.take_succ_cons, List.take_zero, List.drop_zero, List.map_cons, List.map_nil, Nat.zero_add, Nat.le_refl, List.getD_cons_zero, List.getD_cons_succ, bt4, ti3, ti23, ti34, getD_num, ite_and, ite_le, ite_lt, ite_eq, ite_lei, ite_lti, ite_nei, IntWalk.i64_in, ti22, tdiv8, tmod8, takeAll, takeDropAll, toNatAdd, toNatSub]; first | rfl | done); simp (disch := omega) only [List.length_replicate, List.length_map, Nat.reduceBEq, Bool.not_false, Bool.not_true, ↓reduceIte, Bool.false_eq_true, BEq.rfl, put1, skip1, frOf, know, vv, one, del, decide_true, decide_false, List.filter_cons, List.filter_nil, List.nil_append, List.cons_append, Nat.reduceAdd, Nat.add_zero])
    | (apply RegA.call (hd := rfl) (fz := true) (hfz := .inl rfl); (first | exact trivial | rfl | exact congrArg some ‹_› | (simp (disch := omega) only [boolV, lk, ↓reduceIte, Nat.reduceEqDiff, decide_true, decide_false]; done)); (simp (disch := omega) only [binX, List.replicate_succ, List.set_cons_zero, List.set_cons_succ, List.drop_replicate, Nat.sub_self, List.length_replicate, true_or, or_true, or_false, List.replicate_zero, List.nil_append, List.append_nil, maxLen, List.length_append, List.length_take, List.length_drop, Nat.min_self, List.take_length, Option.getD_some, Option.getD_none, Option.isSome_some, Option.isSome_none, forall_const, Bool.false_eq_true, false_implies, imp_self, implies_true, decide_true, decide_false, dropMap, takeMap, effect, callEff, evO, evP, evL, argL, argX, dataL, plain, plainC, plainL, lk, one, vv, one1, isNil, binV, unV, cvV, load1, store1, fieldOf, cellsOf, cellsAt, asVal, shift, partOf, dataC, elemsC, app1, cop1, len1, mslice1, bslice1, rowsA, build1, fillA, idx1, index1, slice1, optInt, addrAt, cutC, putAt, allD, dv, spl, boolV, Option.map_some, Option.bind_some, Option.map_none, Option.bind_none, ↓reduceIte, Bool.not_true, Bool.not_false, Bool.false_eq_true, and_true, true_and, Option.some.injEq, List.length_map, Nat.reduceEqDiff, Nat.reduceLeDiff, Nat.reduceAdd, Int.reduceLT, Int.reduceLE, Int.reduceToNat, Int.toNat_natCast, List.length_cons, List.length_nil, List.take_succ_cons, List.take_zero, List.drop_zero, List.map_cons, List.map_nil, Nat.zero_add, Nat.le_refl, List.getD_cons_zero, List.getD_cons_succ, bt4, ti3, ti23, ti34, getD_num, ite_and, ite_le, ite_lt, ite_eq, ite_lei, ite_lti, ite_nei, IntWalk.i64_in, ti22, tdiv8, tmod8, takeAll, takeDropAll, toNatAdd, toNatSub]; first | rfl | done); (simp (disch := omega) only [binX, List.replicate_succ, List.set_cons_zero, List.set_cons_succ, List.drop_replicate, Nat.sub_self, List.length_replicate, true_or, or_true, or_false, List.replicate_zero, List.nil_append, List.append_nil, maxLen, List.length_append, List.length_take, List.length_drop, Nat.min_self, List.take_length, Option.getD_some, Option.getD_none, Option.isSome_some, Option.isSome_none, forall_const, Bool.false_eq_true, false_implies, imp_self, implies_true, decide_true, decide_false, dropMap, takeMap, effect, callEff, evO, evP, evL, argL, argX, dataL, plain, plainC, plainL, lk, one, vv, one1, isNil, binV, unV, cvV, load1, store1, fieldOf, cellsOf, cellsAt, asVal, shift, partOf, dataC, elemsC, app1, cop1, len1, mslice1, bslice1, rowsA, build1, fillA, idx1, index1, slice1, optInt, addrAt, cutC, putAt, allD, dv, spl, boolV, Option.map_some, Option.bind_some, Option.map_none, Option.bind_none, ↓reduceIte, Bool.not_true, Bool.not_false, Bool.false_eq_true, and_true, true_and, Option.some.injEq, List.length_map, Nat.reduceEqDiff, Nat.reduceLeDiff, Nat.reduceAdd, Int.reduceLT, Int.reduceLE, Int.reduceToNat, Int.toNat_natCast, List.length_cons, List.length_nil, List.take_succ_cons, List.take_zero, List.drop_zero, List.map_cons, List.map_nil, Nat.zero_add, Nat.le_refl, List.getD_cons_zero, List.getD_cons_succ, bt4, ti3, ti23, ti34, getD_num, ite_and, ite_le, ite_lt, ite_eq, ite_lei, ite_lti, ite_nei, IntWalk.i64_in, ti22, tdiv8, tmod8, takeAll, takeDropAll, toNatAdd, toNatSub]; first | rfl | done); (exact con23 _); simp (disch := omega) only [List.length_replicate, List.length_map, Nat.reduceBEq, Bool.not_false, Bool.not_true, ↓reduceIte, Bool.false_eq_true, BEq.rfl, put1, skip1, frOf, know, vv, one, del, decide_true, decide_false, List.filter_cons, List.filter_nil, List.nil_append, List.cons_append, Nat.reduceAdd, Nat.add_zero]; simp only [callHp, frz, rB, rN, rO, unV', unX, unXs, unC, List.flatMap_cons, List.flatMap_nil, idsX, idsC, List.append_nil, ↓reduceIte, List.nil_append, List.cons_append, lk, Nat.reduceEqDiff, Nat.reduceAdd, List.length_map, List.length_cons, List.length_nil])
    | (apply RegA.call (hd := rfl) (fz := true) (hfz := .inl rfl); (first | exact trivial | rfl | exact congrArg some ‹_› | (simp (disch := omega) only [boolV, lk, ↓reduceIte, Nat.reduceEqDiff, decide_true, decide_false]; done)); (simp (disch := omega) only [binX, List.replicate_succ, List.set_cons_zero, List.set_cons_succ, List.drop_replicate, Nat.sub_self, List.length_replicate, true_or, or_true, or_false, List.replicate_zero, List.nil_append, List.append_nil, maxLen, List.length_append, List.length_take, List.length_drop, Nat.min_self, List.take_length, Option.getD_some, Option.getD_none, Option.isSome_some, Option.isSome_none, forall_const, Bool.false_eq_true, false_implies, imp_self, implies_true, decide_true, decide_false, dropMap, takeMap, effect, callEff, evO, evP, evL, argL, argX, dataL, plain, plainC, plainL, lk, one, vv, one1, isNil, binV, unV, cvV, load1, store1, fieldOf, cellsOf, cellsAt, asVal, shift, partOf, dataC, elemsC, app1, cop1, len1, mslice1, bslice1, rowsA, build1, fillA, idx1, index1, slice1, optInt, addrAt, cutC, putAt, allD, dv, spl, boolV, Option.map_some, Option.bind_some, Option.map_none, Option.bind_none, ↓reduceIte, Bool.not_true, Bool.not_false, Bool.false_eq_true, and_true, true_and, Option.some.injEq, List.length_map, Nat.reduceEqDiff, Nat.reduceLeDiff, Nat.reduceAdd, Int.reduceLT, Int.reduceLE, Int.reduceToNat, Int.toNat_natCast, List.length_cons, List.length_nil, List.take_succ_cons, List.take_zero, List.drop_zero, List.map_cons, List.map_nil, Nat.zero_add, Nat.le_refl, List.getD_cons_zero, List.getD_cons_succ, bt4, ti3, ti23, ti34, getD_num, ite_and, ite_le, ite_lt, ite_eq, ite_lei, ite_lti, ite_nei, IntWalk.i64_in, ti22, tdiv8, tmod8, takeAll, takeDropAll, toNatAdd, toNatSub]; first | rfl | done); (simp (disch := omega) only [binX, List.replicate_succ, List.set_cons_zero, List.set_cons_succ, List.drop_replicate, Nat.sub_self, List.length_replicate, true_or, or_true, or_false, List.replicate_zero, List.nil_append, List.append_nil, maxLen, List.length_append, List.length_take, List.length_drop, Nat.min_self, List.take_length, Option.getD_some, Option.getD_none, Option.isSome_some, Option.isSome_none, forall_const, Bool.false_eq_true, false_implies, imp_self, implies_true, decide_true, decide_false, dropMap, takeMap, effect, callEff, evO, evP, evL, argL, argX, dataL, plain, plainC, plainL, lk, one, vv, one1, isNil, binV, unV, cvV, load1, store1, fieldOf, cellsOf, cellsAt, asVal, shift, partOf, dataC, elemsC, app1, cop1, len1, mslice1, bslice1, rowsA, build1, fillA, idx1, index1, slice1, optInt, addrAt, cutC, putAt, allD, dv, spl, boolV, Option.map_some, Option.bind_some, Option.map_none, Option.bind_none, ↓reduceIte, Bool.not_true, Bool.not_false, Bool.false_eq_true, and_true, true_and, Option.some.injEq, List.length_map, Nat.reduceEqDiff, Nat.reduceLeDiff, Nat.reduceAdd, Int.reduceLT, Int.reduceLE, Int.reduceToNat, Int.toNat_natCast, List.length_cons, List.length_nil, List.take_succ_cons, List.take_zero, List.drop_zero, List.map_cons, List.map_nil, Nat.zero_add, Nat.le_refl, List.getD_cons_zero, List.getD_cons_succ, bt4, ti3, ti23, ti34, getD_num, ite_and, ite_le, ite_lt, ite_eq, ite_lei, ite_lti, ite_nei, IntWalk.i64_in, ti22, tdiv8, tmod8, takeAll, takeDropAll, toNatAdd, toNatSub]; first | rfl | done); (exact con17); simp (disch := omega) only [List.length_replicate, List.length_map, Nat.reduceBEq, Bool.not_false, Bool.not_true, ↓reduceIte, Bool.false_eq_true, BEq.rfl, put1, skip1, frOf, know, vv, one, del, decide_true, decide_false, List.filter_cons, List.filter_nil, List.nil_append, List.cons_append, Nat.reduceAdd, Nat.add_zero]; simp only [callHp, frz, rB, rN, rO, unV', unX, unXs, unC, List.flatMap_cons, List.flatMap_nil, idsX, idsC, List.append_nil, ↓reduceIte, List.nil_append, List.cons_append, lk, Nat.reduceEqDiff, Nat.reduceAdd, List.length_map, List.length_cons, List.length_nil])
    | (refine RegA.off rfl rfl ?_; simp (disch := omega) only [List.length_replicate, List.length_map, Nat.reduceBEq, Bool.not_false, Bool.not_true, ↓reduceIte, Bool.false_eq_true, BEq.rfl, put1, skip1, frOf, know, vv, one, del, decide_true, decide_false, List.filter_cons, List.filter_nil, List.nil_append, List.cons_append, Nat.reduceAdd, Nat.add_zero])
    | (refine RegA.split rfl ?_ ?_ <;> (intro hsp; (try simp only [Bool.not_eq_true', Bool.not_eq_false', decide_eq_true_eq, decide_eq_false_iff_not, Decidable.not_not, Int.not_lt, Int.not_le, Int.natCast_inj, Bool.and_eq_true, Bool.or_eq_true, Bool.not_not, ne_eq] at hsp); simp (disch := omega) only [List.length_replicate, List.length_map, Nat.reduceBEq, Bool.not_false, Bool.not_true, ↓reduceIte, Bool.false_eq_true, BEq.rfl, put1, skip1, frOf, know, vv, one, del, decide_true, decide_false, List.filter_cons, List.filter_nil, List.nil_append, List.cons_append, Nat.reduceAdd, Nat.add_zero]))
    | (apply DrawA.op' (hd := rfl); (simp only [List.length_cons, List.length_nil, Nat.reduceMul, Nat.reduceAdd]; rfl); (simp only [Bool.not_false, Bool.not_true, Eng.mk, Eng.put1, Eng.skip1, frOf, vv, one, del, List.filter_cons, List.filter_nil, List.nil_append, List.cons_append, Nat.reduceAdd, Nat.reduceMul, Nat.add_zero, List.length_nil, List.length_cons, List.getD_cons_zero, List.getD_cons_succ, List.contains_cons, List.contains_nil, Nat.reduceBEq, BEq.rfl, Bool.or_false, Bool.false_or, Bool.or_true, Bool.true_or, Bool.false_eq_true, ↓reduceIte, if_false, if_true, allIn, List.range, List.range.loop]; rfl); (first | exact trivial | rfl | exact congrArg some ‹_› | (simp (disch := omega) only [boolV, lk, ↓reduceIte, Nat.reduceEqDiff, decide_true, decide_false]; done)); (simp (disch := omega) only [binX, List.replicate_succ, List.set_cons_zero, List.set_cons_succ, List.drop_replicate, Nat.sub_self, List.length_replicate, true_or, or_true, or_false, List.replicate_zero, List.nil_append, List.append_nil, maxLen, List.length_append, List.length_take, List.length_drop, Nat.min_self, List.take_length, Option.getD_some, Option.getD_none, Option.isSome_some, Option.isSome_none, forall_const, Bool.false_eq_true, false_implies, imp_self, implies_true, decide_true, decide_false, dropMap, takeMap, effect, callEff, evO, evP, evL, argL, argX, dataL, plain, plainC, plainL, lk, one, vv, one1, isNil, binV, unV, cvV, load1, store1, fieldOf, cellsOf, cellsAt, asVal, shift, partOf, dataC, elemsC, app1, cop1, len1, mslice1, bslice1, rowsA, build1, fillA, idx1, index1, slice1, optInt, addrAt, cutC, putAt, allD, dv, spl, boolV, Option.map_some, Option.bind_some, Option.map_none, Option.bind_none, ↓reduceIte, Bool.not_true, Bool.not_false, Bool.false_eq_true, and_true, true_and, Option.some.injEq, List.length_map, Nat.reduceEqDiff, Nat.reduceLeDiff, Nat.reduceAdd, Int.reduceLT, Int.reduceLE, Int.reduceToNat, Int.toNat_natCast, List.length_cons, List.length_nil, List.take_succ_cons, List.take_zero, List.drop_zero, List.map_cons, List.map_nil, Nat.zero_add, Nat.le_refl, List.getD_cons_zero, List.getD_cons_succ, bt4, ti3, ti23, ti34, getD_num, ite_and, ite_le, ite_lt, ite_eq, ite_lei, ite_lti, ite_nei, IntWalk.i64_in, ti22, tdiv8, tmod8, takeAll, takeDropAll, toNatAdd, toNatSub]; first | rfl | done); rfl; rfl; simp only [List.nil_append, List.cons_append])
    | (apply DrawA.nil'; (simp only [List.length_cons, List.length_nil, Nat.reduceMul, Nat.reduceAdd]; rfl); (simp only [Bool.not_false, Bool.not_true, mkAll, Eng.put1, Eng.skip1, frOf, vv, one, del, List.filter_cons, List.filter_nil, List.nil_append, List.cons_append, Nat.reduceAdd, Nat.reduceMul, Nat.add_zero, List.length_nil, List.length_cons, List.getD_cons_zero, List.getD_cons_succ, List.contains_cons, List.contains_nil, Nat.reduceBEq, BEq.rfl, Bool.or_false, Bool.false_or, Bool.or_true, Bool.true_or, Bool.false_eq_true, ↓reduceIte, if_false, if_true, allIn, List.range, List.range.loop]; rfl); assumption)
    | (refine RegA.done ‹_› ?_)
    | (refine awp_seq fun K hK => ?_)
    | (refine Awp.reg ?_)
    | (refine Awp.draw' (A := [[], [], [], [1, 2], [0, 3, 1, 2], [4, 0, 3, 1, 2], [], [], [6, 7], [8, 6, 7], [5, 9, 4, 0, 3, 1, 2, 8, 6, 7]]) rfl rfl rfl ?_)
    | (refine Awp.skip ?_)
    | (refine Awp.block ?_)
    | (refine Awp.scope ?_)
    | (refine Awp.ct rfl ?_)
    | (refine Awp.cf rfl ?_)
    | (refine Awp.ct (congrArg some (congrArg Value.bool ?_)) ?_; focus (simp (disch := omega) only [decide_eq_true_eq, decide_eq_false_iff_not, Bool.not_eq_true', Bool.not_eq_false', decide_true, decide_false, Bool.not_true, Bool.not_false, bt4, ti3, ti23, ti34, getD_num, ite_and, ite_le, ite_lt, ite_eq, ite_lei, ite_lti, ite_nei, IntWalk.i64_in, ti22, tdiv8, tmod8, takeAll, takeDropAll, toNatAdd, toNatSub]; done))
    | (refine Awp.cf (congrArg some (congrArg Value.bool ?_)) ?_; focus (simp (disch := omega) only [decide_eq_true_eq, decide_eq_false_iff_not, Bool.not_eq_true', Bool.not_eq_false', decide_true, decide_false, Bool.not_true, Bool.not_false, bt4, ti3, ti23, ti34, getD_num, ite_and, ite_le, ite_lt, ite_eq, ite_lei, ite_lti, ite_nei, IntWalk.i64_in, ti22, tdiv8, tmod8, takeAll, takeDropAll, toNatAdd, toNatSub]; done))
    | (refine Awp.cond rfl ?_ ?_ <;> (intro hsp; (try simp only [Bool.not_eq_true', Bool.not_eq_false', decide_eq_true_eq, decide_eq_false_iff_not, Decidable.not_not, Int.not_lt, Int.not_le, Int.natCast_inj, Bool.and_eq_true, Bool.or_eq_true, Bool.not_not, ne_eq] at hsp)))
    | (refine Awp.exit ?_; simp only [blockQ, thenQ, scopeQ, ↓reduceIte, Nat.reduceEqDiff])
    | (refine viaK ‹_› ?_)
    | (simp only [thenQ_normal, blockQ_normal])))
  all_goals (try (focus (refine Awp.ret ?_; apply ret_of (.inl rfl); rfl; (simp (disch := omega) only [outXs, outX, outC, outL, lk, ↓reduceIte, Nat.reduceEqDiff, List.length_map, List.length_nil, List.length_replicate, List.length_cons, List.length_take, List.length_drop, List.length_append, ite_eq, Option.map_some, Bool.false_eq_true]; rfl); (focus simp [ownsX, ownsC]); simp [laxR, laxX, laxC, rB, rN, rO, *] <;> (intros; omega); done)))
  all_goals (exfalso; omega)
theorem con6 (m : List Int) (a : Int) (l : List Int) : Con Try.prog 6 [sN .u64 m, vN .i64 a, sN .u64 l] [rB true] := by
  by_cases h : chk (m.length : Int) = 0 ∧ 0 ≤ a ∧ l.length ≤ 100 ∧ (l.length : Int) ≤ m.length - a
  · exact law6 m l a h.1 (chk_len h.1) h.2
  · exact bad6 m l a chk_len h
end Go.Proofs.Ythknepamlbicmaa
