/-
  The contracts of the program's functions, data in, data out. Conditions: those in the statements.
-/
import Derived.Test.YthknepamlbicmaaR8
namespace Go.Proofs.Ythknepamlbicmaa
set_option linter.all false
open Go Go.Proofs.Ythknepamlbicmaa.Eng Go.RowKit
def c7 : SC :=
  .seq
  (.reg
    [.mk (some 4) (.assign (.const (.bool false))) none])
  (.seq
    (.seq
      (.reg
        [.mk (some 13) (.move (.tmp 0)) none,
          .mk (some 14)
            (.call (.mk (.value (.func 23)) #[.tmp 13] #[23])) none,
          .mk (some 15)
            (.binOp .neq 3 (.tmp 14) (.const (.int .i64 0)) 3)
            none,
          .mk (some 16) (.move (.tmp 15)) none,
          .mk (some 17) (.move (.tmp 0)) (some (16, false)),
          .mk (some 18)
            (.call (.mk (.builtin .len) #[.tmp 17] #[23]))
            (some (16, false)),
          .mk (some 19) (.move (.tmp 1)) (some (16, false)),
          .mk (some 20)
            (.call (.mk (.builtin .len) #[.tmp 19] #[23]))
            (some (16, false)),
          .mk (some 21) (.binOp .neq 3 (.tmp 18) (.tmp 20) 3)
            (some (16, false)),
          .mk (some 22)
            (.pick (.tmp 16) (.const (.bool true)) (.tmp 21))
            none])
      (.cond (.tmp 22)
        (.seq
          (.reg
            [.mk (some 23) (.call (.mk (.value (.func 17)) #[] #[]))
                none,
              .mk (some 4) (.assign (.tmp 23)) none])
          .ret)
        .skip))
    (.seq
      (.reg
        [.mk (some 25) (.move (.tmp 0)) none,
          .mk (some 26) (.move (.tmp 1)) none,
          .mk (some 27)
            (.call
              (.mk (.value (.func 14)) #[.tmp 25, .tmp 26] #[23, 23]))
            none,
          .mk (some 24) (.move (.tmp 27)) none,
          .mk (some 28) (.extract (.tmp 24) 0) none,
          .mk (some 29) (.extract (.tmp 24) 1) none,
          .mk (some 5) (.assign (.tmp 28)) none,
          .mk (some 6) (.assign (.tmp 29)) none])
      (.seq
        (.reg
          [.mk (some 31) (.move (.tmp 1)) none,
            .mk (some 32) (.move (.tmp 0)) none,
            .mk (some 33)
              (.call
                (.mk (.value (.func 14)) #[.tmp 31, .tmp 32] #[23, 23]))
              none,
            .mk (some 30) (.move (.tmp 33)) none,
            .mk (some 34) (.extract (.tmp 30) 0) none,
            .mk (some 35) (.extract (.tmp 30) 1) none,
            .mk (some 7) (.assign (.tmp 34)) none,
            .mk (some 8) (.assign (.tmp 35)) none])
        (.seq
          (.seq
            (.reg
              [.mk (some 36) (.move (.tmp 6)) none,
                .mk (some 37)
                  (.binOp .neq 24 (.tmp 36) (.const (.int .i64 0))
                    24)
                  none,
                .mk (some 38) (.move (.tmp 37)) none,
                .mk (some 39) (.move (.tmp 8)) (some (38, false)),
                .mk (some 40)
                  (.binOp .neq 24 (.tmp 39) (.const (.int .i64 0))
                    24)
                  (some (38, false)),
                .mk (some 41)
                  (.pick (.tmp 38) (.const (.bool true)) (.tmp 40))
                  none,
                .mk (some 42) (.move (.tmp 41)) none,
                .mk (some 43) (.move (.tmp 5)) (some (42, false)),
                .mk (some 44) (.move (.tmp 7)) (some (42, false)),
                .mk (some 45)
                  (.call
                    (.mk (.value (.func 26)) #[.tmp 43, .tmp 44]
                      #[22, 22]))
                  (some (42, false)),
                .mk (some 46) (.unOp .not 4 (.tmp 45))
                  (some (42, false)),
                .mk (some 47)
                  (.pick (.tmp 42) (.const (.bool true)) (.tmp 46))
                  none,
                .mk (some 48) (.move (.tmp 47)) none,
                .mk (some 49) (.move (.tmp 5)) (some (48, false)),
                .mk (some 50)
                  (.call (.mk (.builtin .len) #[.tmp 49] #[22]))
                  (some (48, false)),
                .mk (some 51)
                  (.binOp .eql 3 (.tmp 50) (.const (.int .i64 0)) 3)
                  (some (48, false)),
                .mk (some 52) (.move (.tmp 0)) (some (48, false)),
                .mk (some 53) (.move (.tmp 1)) (some (48, false)),
                .mk (some 54)
                  (.call
                    (.mk (.value (.func 16)) #[.tmp 52, .tmp 53]
                      #[23, 23]))
                  (some (48, false)),
                .mk (some 55) (.binOp .neq 4 (.tmp 51) (.tmp 54) 4)
                  (some (48, false)),
                .mk (some 56)
                  (.pick (.tmp 48) (.const (.bool true)) (.tmp 55))
                  none])
            (.cond (.tmp 56)
              (.seq
                (.reg
                  [.mk (some 4) (.assign (.const (.bool false)))
                      none])
                .ret)
              .skip))
          (.seq
            (.seq
              (.reg
                [.mk (some 57) (.move (.tmp 5)) none,
                  .mk (some 58)
                    (.call (.mk (.builtin .len) #[.tmp 57] #[22])) none,
                  .mk (some 59)
                    (.binOp .gtr 3 (.tmp 58) (.const (.int .i64 40))
                      3)
                    none])
              (.cond (.tmp 59)
                (.seq
                  (.reg
                    [.mk (some 60)
                        (.call (.mk (.value (.func 17)) #[] #[])) none,
                      .mk (some 4) (.assign (.tmp 60)) none])
                  .ret)
                .skip))
            (.seq
              (.reg
                [.mk (some 61) (.move (.tmp 0)) none,
                  .mk (some 62)
                    (.call (.mk (.value (.func 19)) #[.tmp 61] #[23]))
                    none,
                  .mk (some 9) (.assign (.tmp 62)) none])
              (.seq
                (.seq
                  (.reg
                    [.mk (some 10) (.assign (.const (.int .i64 0)))
                        none])
                  (.block 0
                    (.loop
                      (.seq
                        (.seq
                          (.reg
                            [.mk (some 63) (.move (.tmp 10)) none,
                              .mk (some 64) (.move (.tmp 5)) none,
                              .mk (some 65)
                                (.call (.mk (.builtin .len) #[.tmp 64] #[22]))
                                none,
                              .mk (some 66)
                                (.binOp .lss 3 (.tmp 63) (.tmp 65) 3) none])
                          (.cond (.tmp 66) .skip (.exit 0)))
                        (.seq
                          (.block 1
                            (.seq
                              (.seq
                                (.draw
                                  [.mk (some 69) (.move (.tmp 5)) none,
                                    .mk (some 70) (.move (.tmp 10)) none,
                                    .mk (some 71)
                                      (.indexAddr 22 (.tmp 69) (.tmp 70)) none,
                                    .mk (some 72) (.load 3 (.tmp 71)) none,
                                    .mk (some 73)
                                      (.binOp .lss 3 (.tmp 72)
                                        (.const (.int .i64 0)) 3)
                                      none,
                                    .mk (some 74) (.move (.tmp 73)) none,
                                    .mk (some 75) (.move (.tmp 5))
                                      (some (74, false)),
                                    .mk (some 76) (.move (.tmp 10))
                                      (some (74, false)),
                                    .mk (some 77)
                                      (.indexAddr 22 (.tmp 75) (.tmp 76))
                                      (some (74, false)),
                                    .mk (some 78) (.load 3 (.tmp 77))
                                      (some (74, false)),
                                    .mk (some 79) (.move (.tmp 1))
                                      (some (74, false)),
                                    .mk (some 80)
                                      (.call
                                        (.mk (.builtin .len) #[.tmp 79] #[23]))
                                      (some (74, false)),
                                    .mk (some 81)
                                      (.binOp .geq 3 (.tmp 78) (.tmp 80) 3)
                                      (some (74, false)),
                                    .mk (some 82)
                                      (.pick (.tmp 74) (.const (.bool true))
                                        (.tmp 81))
                                      none,
                                    .mk (some 83) (.move (.tmp 82)) none,
                                    .mk (some 84) (.move (.tmp 10))
                                      (some (83, false)),
                                    .mk (some 85)
                                      (.binOp .gtr 3 (.tmp 84)
                                        (.const (.int .i64 0)) 3)
                                      (some (83, false)),
                                    .mk (some 86) (.move (.tmp 85))
                                      (some (83, false)),
                                    .mk (some 87) (.move (.tmp 5))
                                      (some (86, true)),
                                    .mk (some 88) (.move (.tmp 10))
                                      (some (86, true)),
                                    .mk (some 89)
                                      (.binOp .sub 3 (.tmp 88)
                                        (.const (.int .i64 1)) 3)
                                      (some (86, true)),
                                    .mk (some 90)
                                      (.indexAddr 22 (.tmp 87) (.tmp 89))
                                      (some (86, true)),
                                    .mk (some 91) (.load 3 (.tmp 90))
                                      (some (86, true)),
                                    .mk (some 92) (.move (.tmp 5))
                                      (some (86, true)),
                                    .mk (some 93) (.move (.tmp 10))
                                      (some (86, true)),
                                    .mk (some 94)
                                      (.indexAddr 22 (.tmp 92) (.tmp 93))
                                      (some (86, true)),
                                    .mk (some 95) (.load 3 (.tmp 94))
                                      (some (86, true)),
                                    .mk (some 96)
                                      (.binOp .geq 3 (.tmp 91) (.tmp 95) 3)
                                      (some (86, true)),
                                    .mk (some 97)
                                      (.pick (.tmp 86) (.tmp 96)
                                        (.const (.bool false)))
                                      (some (83, false)),
                                    .mk (some 98)
                                      (.pick (.tmp 83) (.const (.bool true))
                                        (.tmp 97))
                                      none]
                                  [[], [],
                                    [0,
                                      1],
                                    [2],
                                    [3],
                                    [4],
                                    [5],
                                    [5],
                                    [6,
                                      7,
                                      5],
                                    [8,
                                      5],
                                    [5],
                                    [10,
                                      5],
                                    [9,
                                      11,
                                      5],
                                    [5,
                                      12],
                                    [13,
                                      5],
                                    [14],
                                    [15,
                                      14],
                                    [16,
                                      14,
                                      14],
                                    [17],
                                    [17],
                                    [19,
                                      17],
                                    [18,
                                      20,
                                      17],
                                    [21,
                                      17],
                                    [17],
                                    [17],
                                    [23,
                                      24,
                                      17],
                                    [25,
                                      17],
                                    [22,
                                      26,
                                      17],
                                    [17,
                                      27,
                                      14],
                                    [14,
                                      28]])
                                (.cond (.tmp 98)
                                  (.seq
                                    (.reg
                                      [.mk (some 4)
                                          (.assign (.const (.bool false))) none])
                                    .ret)
                                  .skip))
                              (.seq
                                (.draw
                                  [.mk (some 100) (.move (.tmp 9)) none,
                                    .mk (some 101) (.move (.tmp 5)) none,
                                    .mk (some 102) (.move (.tmp 10)) none,
                                    .mk (some 103)
                                      (.indexAddr 22 (.tmp 101) (.tmp 102)) none,
                                    .mk (some 104) (.load 3 (.tmp 103)) none,
                                    .mk (some 105) (.move (.tmp 1)) none,
                                    .mk (some 106) (.move (.tmp 5)) none,
                                    .mk (some 107) (.move (.tmp 10)) none,
                                    .mk (some 108)
                                      (.indexAddr 22 (.tmp 106) (.tmp 107)) none,
                                    .mk (some 109) (.load 3 (.tmp 108)) none,
                                    .mk (some 110) (.move (.tmp 5)) none,
                                    .mk (some 111) (.move (.tmp 10)) none,
                                    .mk (some 112)
                                      (.indexAddr 22 (.tmp 110) (.tmp 111)) none,
                                    .mk (some 113) (.load 3 (.tmp 112)) none,
                                    .mk (some 114)
                                      (.binOp .add 3 (.tmp 113)
                                        (.const (.int .i64 1)) 3)
                                      none,
                                    .mk (some 115)
                                      (.slice 23 (.tmp 105) (some (.tmp 109))
                                        (some (.tmp 114)) none)
                                      none,
                                    .mk (some 116)
                                      (.call
                                        (.mk (.value (.func 12))
                                          #[.tmp 100, .tmp 104, .tmp 115] #[23, 3, 23]))
                                      none,
                                    .mk (some 99) (.move (.tmp 116)) none,
                                    .mk (some 117) (.extract (.tmp 99) 0) none,
                                    .mk (some 118) (.extract (.tmp 99) 1) none,
                                    .mk (some 11) (.assign (.tmp 117)) none,
                                    .mk (some 12) (.assign (.tmp 118)) none]
                                  [[], [], [],
                                    [1,
                                      2],
                                    [3], [], [], [],
                                    [6,
                                      7],
                                    [8], [], [],
                                    [10,
                                      11],
                                    [12],
                                    [13],
                                    [5,
                                      9,
                                      14],
                                    [0,
                                      4,
                                      15],
                                    [16],
                                    [17],
                                    [17],
                                    [18,
                                      16,
                                      0,
                                      1,
                                      2,
                                      3,
                                      4,
                                      5,
                                      6,
                                      7,
                                      8,
                                      9,
                                      10,
                                      11,
                                      12,
                                      13,
                                      14,
                                      15,
                                      16,
                                      17,
                                      18],
                                    [19,
                                      20,
                                      0,
                                      1,
                                      2,
                                      3,
                                      4,
                                      5,
                                      6,
                                      7,
                                      8,
                                      9,
                                      10,
                                      11,
                                      12,
                                      13,
                                      14,
                                      15,
                                      16,
                                      17,
                                      18,
                                      19,
                                      20]])
                                (.seq
                                  (.seq
                                    (.reg
                                      [.mk (some 119) (.move (.tmp 12)) none,
                                        .mk (some 120)
                                          (.binOp .neq 24 (.tmp 119)
                                            (.const (.int .i64 0)) 24)
                                          none])
                                    (.cond (.tmp 120)
                                      (.seq
                                        (.reg
                                          [.mk (some 4)
                                              (.assign (.const (.bool false))) none])
                                        .ret)
                                      .skip))
                                  (.reg
                                    [.mk (some 121) (.move (.tmp 11)) none,
                                      .mk (some 9) (.assign (.tmp 121)) none])))))
                          (.reg
                            [.mk (some 67) (.move (.tmp 10)) none,
                              .mk (some 68)
                                (.binOp .add 3 (.tmp 67)
                                  (.const (.int .i64 1)) 3)
                                none,
                              .mk (some 10) (.assign (.tmp 68)) none]))))))
                (.seq
                  (.reg
                    [.mk (some 122) (.move (.tmp 9)) none,
                      .mk (some 123) (.move (.tmp 1)) none,
                      .mk (some 124)
                        (.call
                          (.mk (.value (.func 16)) #[.tmp 122, .tmp 123]
                            #[23, 23]))
                        none,
                      .mk (some 125) (.move (.tmp 124)) none,
                      .mk (some 126)
                        (.call (.mk (.value (.func 17)) #[] #[]))
                        (some (125, true)),
                      .mk (some 127)
                        (.pick (.tmp 125) (.tmp 126)
                          (.const (.bool false)))
                        none,
                      .mk (some 4) (.assign (.tmp 127)) none])
                  .ret))))))))
theorem s7 : Try.f7.body.bind slim = some c7 := by kernel_rfl
theorem n7 : Try.f7.ntmps = 128 := rfl
theorem r7 : Try.f7.results.toList = [ResultVar.tmp 4] := rfl

theorem toNatPred {i : Nat} : ((i : Int) - 1).toNat = i - 1 := by omega
theorem decLtT {a b : Int} (h : a < b) : decide (a < b) = true := decide_eq_true h
theorem flat2 (k : IntKind) (l : List Int) (k' : IntKind) (x : Int) : Flat [rO k l, rN k' x] := by
  intro y hy
  simp only [List.mem_cons, List.not_mem_nil, or_false] at hy
  rcases hy with rfl | rfl
  · intro e he d hd
    obtain ⟨n, _, rfl⟩ := List.mem_map.1 he
    simp only [numD, List.mem_singleton] at hd
    subst hd
    trivial
  · trivial
theorem diffUpto_mem {a b : List Int} : ∀ {n : Nat} {x : Int}, x ∈ diffUpto a b n ↔ ∃ j : Nat, j < n ∧ x = j ∧ ¬ a.getD j 0 = b.getD j 0
  | 0, x => by simp [diffUpto]
  | n + 1, x => by
    by_cases h : a.getD n 0 = b.getD n 0
    · rw [diffUpto_eq h, diffUpto_mem]
      constructor
      · rintro ⟨j, h1, h2⟩; exact ⟨j, by omega, h2⟩
      · rintro ⟨j, h1, h2, h3⟩
        refine ⟨j, ?_, h2, h3⟩
        rcases Nat.lt_succ_iff_lt_or_eq.1 h1 with h' | rfl
        · exact h'
        · exact absurd h h3
    · rw [diffUpto_ne h, List.mem_append, diffUpto_mem]
      constructor
      · rintro (⟨j, h1, h2⟩ | h2)
        · exact ⟨j, by omega, h2⟩
        · exact ⟨n, by omega, by simpa using h2, h⟩
      · rintro ⟨j, h1, h2, h3⟩
        rcases Nat.lt_succ_iff_lt_or_eq.1 h1 with h' | rfl
        · exact .inl ⟨j, h', h2, h3⟩
        · exact .inr (by simpa using h2)
theorem diffUpto_comm (a b : List Int) : ∀ n, diffUpto a b n = diffUpto b a n
  | 0 => rfl
  | n + 1 => by
    by_cases h : a.getD n 0 = b.getD n 0
    · rw [diffUpto_eq h, diffUpto_eq h.symm, diffUpto_comm a b n]
    · rw [diffUpto_ne h, diffUpto_ne (fun e => h e.symm), diffUpto_comm a b n]
theorem diffUpto_sorted (a b : List Int) : ∀ n, (diffUpto a b n).Pairwise (· < ·)
  | 0 => List.Pairwise.nil
  | n + 1 => by
    by_cases h : a.getD n 0 = b.getD n 0
    · rw [diffUpto_eq h]; exact diffUpto_sorted a b n
    · rw [diffUpto_ne h, List.pairwise_append]
      refine ⟨diffUpto_sorted a b n, List.pairwise_singleton _ _, fun x hx y hy => ?_⟩
      obtain ⟨j, h1, rfl, _⟩ := diffUpto_mem.1 hx
      rw [List.mem_singleton.1 hy]
      omega
def Q (a b : List Int) (p : Nat) : List Int := b.take p ++ a.drop p
theorem Q_length {a b : List Int} (h : a.length = b.length) {p : Nat} (hp : p ≤ a.length) : (Q a b p).length = a.length := by
  simp [Q]
  omega
theorem Q_getD {a b : List Int} (h : a.length = b.length) {p : Nat} (hp : p ≤ a.length) (j : Nat) : (Q a b p).getD j 0 = if j < p then b.getD j 0 else a.getD j 0 := by
  simp only [Q, List.getD, List.getElem?_append, List.length_take, List.getElem?_take, List.getElem?_drop]
  have : min p b.length = p := by omega
  rw [this]
  by_cases h1 : j < p
  · simp [h1]
  · simp only [h1, if_false]
    congr 2
    omega
theorem Q_agree {a b : List Int} (h : a.length = b.length) {p q : Nat} (hpq : p ≤ q) (hq : q ≤ a.length) (hag : ∀ j, p ≤ j → j < q → a.getD j 0 = b.getD j 0) : Q a b p = Q a b q := by
  refine list_ext0 (by rw [Q_length h (by omega), Q_length h hq]) fun j _ => ?_
  rw [Q_getD h (by omega), Q_getD h hq]
  by_cases h1 : j < p
  · rw [if_pos h1, if_pos (by omega)]
  · rw [if_neg h1]
    by_cases h2 : j < q
    · rw [if_pos h2]; exact hag j (by omega) h2
    · rw [if_neg h2]
theorem putQ {a b : List Int} (h : a.length = b.length) (hc : chk (a.length : Int) = 0) {p : Nat} (hp : p < a.length) : putL (Q a b p) (p : Int) ((b.drop p).take 1) = Q a b (p + 1) := by
  have hl := Q_length h (Nat.le_of_lt hp)
  have h1 : ((b.drop p).take 1).length = 1 := by simp; omega
  rw [putL_is ⟨by rw [hl]; exact hc, by omega, by rw [h1, hl]; omega⟩, h1, Int.toNat_natCast]
  have e : (b.take p).length = p := by simp; omega
  unfold Q
  rw [List.take_append_of_le_length (by omega), List.take_of_length_le (by omega), List.take_add, List.append_assoc]
  congr 2
  rw [List.drop_append, e, List.drop_eq_nil_of_le (by omega), List.nil_append, List.drop_drop]
  congr 1
  omega
section
variable {a b D : List Int} {N : Nat}
def pos (D : List Int) (N i : Nat) : Nat := if i < D.length then (D.getD i 0).toNat else N
structure IsD (a b D : List Int) (N : Nat) : Prop where
  mem : ∀ x, x ∈ D ↔ ∃ j : Nat, j < N ∧ x = j ∧ ¬ a.getD j 0 = b.getD j 0
  lt : ∀ i j, i < j → j < D.length → D.getD i 0 < D.getD j 0
theorem isD (a b : List Int) (N : Nat) : IsD a b (diffUpto a b N) N := by
  refine ⟨fun x => diffUpto_mem, fun i j hij hj => ?_⟩
  have h := List.pairwise_iff_getElem.1 (diffUpto_sorted a b N) i j (by omega) hj hij
  simpa [List.getD, hj, show i < (diffUpto a b N).length by omega] using h
theorem IsD.at (h : IsD a b D N) {i : Nat} (hi : i < D.length) : 0 ≤ D.getD i 0 ∧ D.getD i 0 < N := by
  have : D.getD i 0 ∈ D := by simp [List.getD, hi]
  obtain ⟨j, h1, h2, _⟩ := (h.mem _).1 this
  omega
theorem IsD.pos_le (h : IsD a b D N) (i : Nat) : pos D N i ≤ N := by
  unfold pos
  split
  · rename_i hi; have := h.at hi; omega
  · exact Nat.le_refl _
theorem IsD.agree (h : IsD a b D N) {i j : Nat} (hb : ∀ k, k < i → k < D.length → D.getD k 0 < j) (hj : j < pos D N i) : a.getD j 0 = b.getD j 0 := by
  by_cases hd : a.getD j 0 = b.getD j 0
  · exact hd
  · have hjN : j < N := Nat.lt_of_lt_of_le hj (h.pos_le i)
    have hm := (h.mem (j : Int)).2 ⟨j, hjN, rfl, hd⟩
    obtain ⟨k, hk, hkj⟩ := List.mem_iff_getElem.1 hm
    have hg : D.getD k 0 = j := by simp [List.getD, hk, hkj]
    have hik : i ≤ k := by
      rcases Nat.lt_or_ge k i with h1 | h1
      · have := hb k h1 hk; omega
      · exact h1
    have hi : i < D.length := by omega
    unfold pos at hj
    rw [if_pos hi] at hj
    rcases Nat.lt_or_ge i k with h1 | h1
    · have := h.lt i k h1 hk; have := h.at hi; omega
    · have : i = k := by omega
      subst this; omega
def R (a b D : List Int) (N i : Nat) : List Int := Q a b (pos D N i)
theorem IsD.R0 (h : IsD a b D N) (hl : a.length = b.length) (hN : a.length = N) : R a b D N 0 = a := by
  have := Q_agree hl (Nat.zero_le (pos D N 0)) (by rw [hN]; exact h.pos_le 0) fun j _ hj => h.agree (i := 0) (fun k hk _ => absurd hk (by omega)) hj
  unfold R
  rw [← this]
  simp [Q]
theorem IsD.Rend (h : IsD a b D N) (hl : a.length = b.length) (hN : a.length = N) {i : Nat} (hi : D.length ≤ i) : R a b D N i = b := by
  unfold R pos
  rw [if_neg (by omega)]
  unfold Q
  rw [List.take_of_length_le (by omega), List.drop_eq_nil_of_le (by omega), List.append_nil]
theorem IsD.Rlen (h : IsD a b D N) (hl : a.length = b.length) (hN : a.length = N) (i : Nat) : (R a b D N i).length = N := by
  unfold R
  rw [Q_length hl (by rw [hN]; exact h.pos_le i), hN]
theorem IsD.Rput (h : IsD a b D N) (hl : a.length = b.length) (hN : a.length = N) (hc : chk (a.length : Int) = 0) {i : Nat} (hi : i < D.length) : putL (R a b D N i) (D.getD i 0) ((b.drop (D.getD i 0).toNat).take 1) = R a b D N (i + 1) := by
  have hat := h.at hi
  have e : ((D.getD i 0).toNat : Int) = D.getD i 0 := by omega
  have hp : pos D N i = (D.getD i 0).toNat := by unfold pos; rw [if_pos hi]
  have h1 := putQ hl hc (p := (D.getD i 0).toNat) (by omega)
  rw [e] at h1
  unfold R
  rw [hp, h1]
  refine Q_agree hl ?_ (by rw [hN]; exact h.pos_le _) fun j hj hj' => h.agree (i := i + 1) (fun k hk hkl => ?_) hj'
  · unfold pos
    split
    · rename_i h2; have := h.lt i (i + 1) (by omega) h2; omega
    · omega
  · rcases Nat.lt_or_ge k i with h2 | h2
    · have := h.lt k i h2 hi; omega
    · have : k = i := by omega
      subst this; omega
end
set_option maxHeartbeats 1000000 in
set_option maxRecDepth 10000 in
theorem law7 (a b : List Int) (hc : chk (a.length : Int) = 0) (hl : a.length ≤ 2048) (hab : a.length = b.length) : Con Try.prog 7 [sN .u64 a, sN .u64 b] [rB true] := by
  have hI := isD a b a.length
  have hDl := diffUpto_len a b a.length
  have h1 : Con Try.prog 14 [sN .u64 a, sN .u64 b] [rO .i64 (diffUpto a b a.length), rN .i64 0] := by
    have h := con14 a b (by omega) (by omega)
    have e1 : diffL a b = diffUpto a b a.length := by unfold diffL; rw [if_pos ⟨hc, by rw [← hab]; exact hc, by rw [hab]⟩]
    have e2 : diffE a b = 0 := by unfold diffE; rw [if_pos ⟨hc, by rw [← hab]; exact hc⟩, if_pos (by rw [hab])]
    rw [e1, e2] at h
    exact h
  have h2 : Con Try.prog 14 [sN .u64 b, sN .u64 a] [rO .i64 (diffUpto a b a.length), rN .i64 0] := by
    have h := con14 b a (by omega) (by omega)
    have e1 : diffL b a = diffUpto a b a.length := by unfold diffL; rw [if_pos ⟨by rw [← hab]; exact hc, hc, by rw [hab]⟩, diffUpto_comm, hab]
    have e2 : diffE b a = 0 := by unfold diffE; rw [if_pos ⟨by rw [← hab]; exact hc, hc⟩, if_pos (by rw [hab])]
    rw [e1, e2] at h
    exact h
  generalize diffUpto a b a.length = D at hI hDl h1 h2
  have h3 : Con Try.prog 26 [sN .i64 D, sN .i64 D] [rB true] := by
    have h := con26 D D (by omega)
    rw [decide_eq_true rfl] at h
    exact h
  have hRl := hI.Rlen hab rfl
  have hR0 := hI.R0 hab rfl
  have hq : (decide ((D.length : Int) = 0) == decide (a = b)) = true := by
    refine beqDec ⟨fun h => ?_, fun h => ?_⟩
    · rw [← hR0]; exact hI.Rend hab rfl (by omega)
    · rcases Nat.eq_zero_or_pos D.length with h0 | h0
      · omega
      · exfalso
        have hm : D.getD 0 0 ∈ D := by simp [List.getD, h0]
        obtain ⟨j, _, _, hj⟩ := (hI.mem _).1 hm
        exact hj (by rw [h])
  have h12 : ∀ i, i < D.length → Con Try.prog 12 [sN .u64 (R a b D a.length i), vN .i64 (D.getD i 0), sN .u64 ((b.drop (D.getD i 0).toNat).take 1)] [rO .u64 (R a b D a.length (i + 1)), rN .i64 0] := fun i hi => by
    have hat := hI.at hi
    have h1 : ((b.drop (D.getD i 0).toNat).take 1).length = 1 := by rw [List.length_take, List.length_drop]; omega
    have h := con12 (R a b D a.length i) (D.getD i 0) ((b.drop (D.getD i 0).toNat).take 1) (by rw [hRl]; omega) (by omega) (by omega)
    rw [hI.Rput hab rfl hc hi, getE0 ⟨by rw [hRl]; exact hc, hat.1, by omega, by rw [hRl, h1]; omega⟩] at h
    exact h
  have h16 : ∀ i, D.length ≤ i → Con Try.prog 16 [sN .u64 (R a b D a.length i), sN .u64 b] [rB true] := fun i hi => by
    have h := con16 (R a b D a.length i) b (by rw [hRl]; omega)
    rw [hI.Rend hab rfl hi, decide_eq_true rfl] at h
    rw [hI.Rend hab rfl hi]
    exact h
  have h4 := con16 a b (by omega)
  have h7 := con23 a
  rw [hc] at h7
  have h19 := con19 a (by omega)
  refine con_of_awp hmix Try.func7 s7 rfl (by rw [n7]; simp) r7 n7 ?_
  simp only [Eng.start, startFr, inX, sN, vN, c7]
  (repeat' (first
    | (apply RegA.op (hd := rfl); (first | exact trivial | rfl | exact congrArg some ‹_› | (simp (disch := omega) only [boolV, lk, ↓reduceIte, Nat.reduceEqDiff, decide_true, decide_false]; done)); (simp (disch := omega) only [binX, List.replicate_succ, List.set_cons_zero, List.set_cons_succ, List.drop_replicate, Nat.sub_self, List.length_replicate, true_or, or_true, or_false, List.replicate_zero, List.nil_append, List.append_nil, maxLen, List.length_append, List.length_take, List.length_drop, Nat.min_self, List.take_length, Option.getD_some, Option.getD_none, Option.isSome_some, Option.isSome_none, forall_const, Bool.false_eq_true, false_implies, imp_self, implies_true, decide_true, decide_false, dropMap, takeMap, effect, callEff, evO, evP, evL, argL, argX, dataL, plain, plainC, plainL, lk, one, vv, one1, isNil, binV, unV, cvV, load1, store1, fieldOf, cellsOf, cellsAt, asVal, shift, partOf, dataC, elemsC, app1, cop1, len1, mslice1, bslice1, rowsA, build1, fillA, idx1, index1, slice1, optInt, addrAt, cutC, putAt, allD, dv, spl, boolV, Option.map_some, Option.bind_some, Option.map_none, Option.bind_none, ↓reduceIte, Bool.not_true, Bool.not_false, Bool.false_eq_true, and_true, true_and, Option.some.injEq, List.length_map, Nat.reduceEqDiff, Nat.reduceLeDiff, Nat.reduceAdd, Int.reduceLT, Int.reduceLE, Int.reduceToNat, Int.toNat_natCast, List.length_cons, List.length_nil, List.take_succ_cons, List.take_zero, List.drop_zero, List.map_cons, List.map_nil, Nat.zero_add, Nat.le_refl, List.getD_cons_zero, List.getD_cons_succ, bt4, ti3, ti23, ti34, getD_num, ite_and, ite_le, ite_lt, ite_eq, ite_lei, ite_lti, ite_nei, IntWalk.i64_in, ti22, tdiv8, tmod8, takeAll, takeDropAll, toNatAdd, toNatSub, decLtF, decLeF, hq]; first | rfl | done); simp (disch := omega) only [List.length_replicate, List.length_map, Nat.reduceBEq, Bool.not_false, Bool.not_true, ↓reduceIte, Bool.false_eq_true, BEq.rfl, put1, skip1, frOf, know, vv, one, del, decide_true, decide_false, List.filter_cons, List.filter_nil, List.nil_append, List.cons_append, Nat.reduceAdd, Nat.add_zero, decLtF, decLeF])
    | (apply RegA.call (hd := rfl) (fz := true) (hfz := .inl rfl); (first | exact trivial | rfl | exact congrArg some ‹_› | (simp (disch := omega) only [boolV, lk, ↓reduceIte, Nat.reduceEqDiff, decide_true, decide_false]; done)); (simp (disch := omega) only [binX, List.replicate_succ, List.set_cons_zero, List.set_cons_succ, List.drop_replicate, Nat.sub_self, List.length_replicate, true_or, or_true, or_false, List.replicate_zero, List.nil_append, List.append_nil, maxLen, List.length_append, List.length_take, List.length_drop, Nat.min_self, List.take_length, Option.getD_some, Option.getD_none, Option.isSome_some, Option.isSome_none, forall_const, Bool.false_eq_true, false_implies, imp_self, implies_true, decide_true, decide_false, dropMap, takeMap, effect, callEff, evO, evP, evL, argL, argX, dataL, plain, plainC, plainL, lk, one, vv, one1, isNil, binV, unV, cvV, load1, store1, fieldOf, cellsOf, cellsAt, asVal, shift, partOf, dataC, elemsC, app1, cop1, len1, mslice1, bslice1, rowsA, build1, fillA, idx1, index1, slice1, optInt, addrAt, cutC, putAt, allD, dv, spl, boolV, Option.map_some, Option.bind_some, Option.map_none, Option.bind_none, ↓reduceIte, Bool.not_true, Bool.not_false, Bool.false_eq_true, and_true, true_and, Option.some.injEq, List.length_map, Nat.reduceEqDiff, Nat.reduceLeDiff, Nat.reduceAdd, Int.reduceLT, Int.reduceLE, Int.reduceToNat, Int.toNat_natCast, List.length_cons, List.length_nil, List.take_succ_cons, List.take_zero, List.drop_zero, List.map_cons, List.map_nil, Nat.zero_add, Nat.le_refl, List.getD_cons_zero, List.getD_cons_succ, bt4, ti3, ti23, ti34, getD_num, ite_and, ite_le, ite_lt, ite_eq, ite_lei, ite_lti, ite_nei, IntWalk.i64_in, ti22, tdiv8, tmod8, takeAll, takeDropAll, toNatAdd, toNatSub, decLtF, decLeF, hq]; first | rfl | done); (simp (disch := omega) only [binX, List.replicate_succ, List.set_cons_zero, List.set_cons_succ, List.drop_replicate, Nat.sub_self, List.length_replicate, true_or, or_true, or_false, List.replicate_zero, List.nil_append, List.append_nil, maxLen, List.length_append, List.length_take, List.length_drop, Nat.min_self, List.take_length, Option.getD_some, Option.getD_none, Option.isSome_some, Option.isSome_none, forall_const, Bool.false_eq_true, false_implies, imp_self, implies_true, decide_true, decide_false, dropMap, takeMap, effect, callEff, evO, evP, evL, argL, argX, dataL, plain, plainC, plainL, lk, one, vv, one1, isNil, binV, unV, cvV, load1, store1, fieldOf, cellsOf, cellsAt, asVal, shift, partOf, dataC, elemsC, app1, cop1, len1, mslice1, bslice1, rowsA, build1, fillA, idx1, index1, slice1, optInt, addrAt, cutC, putAt, allD, dv, spl, boolV, Option.map_some, Option.bind_some, Option.map_none, Option.bind_none, ↓reduceIte, Bool.not_true, Bool.not_false, Bool.false_eq_true, and_true, true_and, Option.some.injEq, List.length_map, Nat.reduceEqDiff, Nat.reduceLeDiff, Nat.reduceAdd, Int.reduceLT, Int.reduceLE, Int.reduceToNat, Int.toNat_natCast, List.length_cons, List.length_nil, List.take_succ_cons, List.take_zero, List.drop_zero, List.map_cons, List.map_nil, Nat.zero_add, Nat.le_refl, List.getD_cons_zero, List.getD_cons_succ, bt4, ti3, ti23, ti34, getD_num, ite_and, ite_le, ite_lt, ite_eq, ite_lei, ite_lti, ite_nei, IntWalk.i64_in, ti22, tdiv8, tmod8, takeAll, takeDropAll, toNatAdd, toNatSub, decLtF, decLeF, hq]; first | rfl | done); (exact h7); simp (disch := omega) only [List.length_replicate, List.length_map, Nat.reduceBEq, Bool.not_false, Bool.not_true, ↓reduceIte, Bool.false_eq_true, BEq.rfl, put1, skip1, frOf, know, vv, one, del, decide_true, decide_false, List.filter_cons, List.filter_nil, List.nil_append, List.cons_append, Nat.reduceAdd, Nat.add_zero, decLtF, decLeF]; simp only [callHp, frz, rB, rN, rO, unV', unX, unXs, unC, List.flatMap_cons, List.flatMap_nil, idsX, idsC, List.append_nil, ↓reduceIte, List.nil_append, List.cons_append, lk, Nat.reduceEqDiff, Nat.reduceAdd, List.length_map, List.length_cons, List.length_nil])
    | (apply RegA.call (hd := rfl) (fz := true) (hfz := .inl rfl); (first | exact trivial | rfl | exact congrArg some ‹_› | (simp (disch := omega) only [boolV, lk, ↓reduceIte, Nat.reduceEqDiff, decide_true, decide_false]; done)); (simp (disch := omega) only [binX, List.replicate_succ, List.set_cons_zero, List.set_cons_succ, List.drop_replicate, Nat.sub_self, List.length_replicate, true_or, or_true, or_false, List.replicate_zero, List.nil_append, List.append_nil, maxLen, List.length_append, List.length_take, List.length_drop, Nat.min_self, List.take_length, Option.getD_some, Option.getD_none, Option.isSome_some, Option.isSome_none, forall_const, Bool.false_eq_true, false_implies, imp_self, implies_true, decide_true, decide_false, dropMap, takeMap, effect, callEff, evO, evP, evL, argL, argX, dataL, plain, plainC, plainL, lk, one, vv, one1, isNil, binV, unV, cvV, load1, store1, fieldOf, cellsOf, cellsAt, asVal, shift, partOf, dataC, elemsC, app1, cop1, len1, mslice1, bslice1, rowsA, build1, fillA, idx1, index1, slice1, optInt, addrAt, cutC, putAt, allD, dv, spl, boolV, Option.map_some, Option.bind_some, Option.map_none, Option.bind_none, ↓reduceIte, Bool.not_true, Bool.not_false, Bool.false_eq_true, and_true, true_and, Option.some.injEq, List.length_map, Nat.reduceEqDiff, Nat.reduceLeDiff, Nat.reduceAdd, Int.reduceLT, Int.reduceLE, Int.reduceToNat, Int.toNat_natCast, List.length_cons, List.length_nil, List.take_succ_cons, List.take_zero, List.drop_zero, List.map_cons, List.map_nil, Nat.zero_add, Nat.le_refl, List.getD_cons_zero, List.getD_cons_succ, bt4, ti3, ti23, ti34, getD_num, ite_and, ite_le, ite_lt, ite_eq, ite_lei, ite_lti, ite_nei, IntWalk.i64_in, ti22, tdiv8, tmod8, takeAll, takeDropAll, toNatAdd, toNatSub, decLtF, decLeF, hq]; first | rfl | done); (simp (disch := omega) only [binX, List.replicate_succ, List.set_cons_zero, List.set_cons_succ, List.drop_replicate, Nat.sub_self, List.length_replicate, true_or, or_true, or_false, List.replicate_zero, List.nil_append, List.append_nil, maxLen, List.length_append, List.length_take, List.length_drop, Nat.min_self, List.take_length, Option.getD_some, Option.getD_none, Option.isSome_some, Option.isSome_none, forall_const, Bool.false_eq_true, false_implies, imp_self, implies_true, decide_true, decide_false, dropMap, takeMap, effect, callEff, evO, evP, evL, argL, argX, dataL, plain, plainC, plainL, lk, one, vv, one1, isNil, binV, unV, cvV, load1, store1, fieldOf, cellsOf, cellsAt, asVal, shift, partOf, dataC, elemsC, app1, cop1, len1, mslice1, bslice1, rowsA, build1, fillA, idx1, index1, slice1, optInt, addrAt, cutC, putAt, allD, dv, spl, boolV, Option.map_some, Option.bind_some, Option.map_none, Option.bind_none, ↓reduceIte, Bool.not_true, Bool.not_false, Bool.false_eq_true, and_true, true_and, Option.some.injEq, List.length_map, Nat.reduceEqDiff, Nat.reduceLeDiff, Nat.reduceAdd, Int.reduceLT, Int.reduceLE, Int.reduceToNat, Int.toNat_natCast, List.length_cons, List.length_nil, List.take_succ_cons, List.take_zero, List.drop_zero, List.map_cons, List.map_nil, Nat.zero_add, Nat.le_refl, List.getD_cons_zero, List.getD_cons_succ, bt4, ti3, ti23, ti34, getD_num, ite_and, ite_le, ite_lt, ite_eq, ite_lei, ite_lti, ite_nei, IntWalk.i64_in, ti22, tdiv8, tmod8, takeAll, takeDropAll, toNatAdd, toNatSub, decLtF, decLeF, hq]; first | rfl | done); (exact h1); simp (disch := omega) only [List.length_replicate, List.length_map, Nat.reduceBEq, Bool.not_false, Bool.not_true, ↓reduceIte, Bool.false_eq_true, BEq.rfl, put1, skip1, frOf, know, vv, one, del, decide_true, decide_false, List.filter_cons, List.filter_nil, List.nil_append, List.cons_append, Nat.reduceAdd, Nat.add_zero, decLtF, decLeF]; simp only [callHp, frz, rB, rN, rO, unV', unX, unXs, unC, List.flatMap_cons, List.flatMap_nil, idsX, idsC, List.append_nil, ↓reduceIte, List.nil_append, List.cons_append, lk, Nat.reduceEqDiff, Nat.reduceAdd, List.length_map, List.length_cons, List.length_nil])
    | (apply RegA.call (hd := rfl) (fz := true) (hfz := .inl rfl); (first | exact trivial | rfl | exact congrArg some ‹_› | (simp (disch := omega) only [boolV, lk, ↓reduceIte, Nat.reduceEqDiff, decide_true, decide_false]; done)); (simp (disch := omega) only [binX, List.replicate_succ, List.set_cons_zero, List.set_cons_succ, List.drop_replicate, Nat.sub_self, List.length_replicate, true_or, or_true, or_false, List.replicate_zero, List.nil_append, List.append_nil, maxLen, List.length_append, List.length_take, List.length_drop, Nat.min_self, List.take_length, Option.getD_some, Option.getD_none, Option.isSome_some, Option.isSome_none, forall_const, Bool.false_eq_true, false_implies, imp_self, implies_true, decide_true, decide_false, dropMap, takeMap, effect, callEff, evO, evP, evL, argL, argX, dataL, plain, plainC, plainL, lk, one, vv, one1, isNil, binV, unV, cvV, load1, store1, fieldOf, cellsOf, cellsAt, asVal, shift, partOf, dataC, elemsC, app1, cop1, len1, mslice1, bslice1, rowsA, build1, fillA, idx1, index1, slice1, optInt, addrAt, cutC, putAt, allD, dv, spl, boolV, Option.map_some, Option.bind_some, Option.map_none, Option.bind_none, ↓reduceIte, Bool.not_true, Bool.not_false, Bool.false_eq_true, and_true, true_and, Option.some.injEq, List.length_map, Nat.reduceEqDiff, Nat.reduceLeDiff, Nat.reduceAdd, Int.reduceLT, Int.reduceLE, Int.reduceToNat, Int.toNat_natCast, List.length_cons, List.length_nil, List.take_succ_cons, List.take_zero, List.drop_zero, List.map_cons, List.map_nil, Nat.zero_add, Nat.le_refl, List.getD_cons_zero, List.getD_cons_succ, bt4, ti3, ti23, ti34, getD_num, ite_and, ite_le, ite_lt, ite_eq, ite_lei, ite_lti, ite_nei, IntWalk.i64_in, ti22, tdiv8, tmod8, takeAll, takeDropAll, toNatAdd, toNatSub, decLtF, decLeF, hq]; first | rfl | done); (simp (disch := omega) only [binX, List.replicate_succ, List.set_cons_zero, List.set_cons_succ, List.drop_replicate, Nat.sub_self, List.length_replicate, true_or, or_true, or_false, List.replicate_zero, List.nil_append, List.append_nil, maxLen, List.length_append, List.length_take, List.length_drop, Nat.min_self, List.take_length, Option.getD_some, Option.getD_none, Option.isSome_some, Option.isSome_none, forall_const, Bool.false_eq_true, false_implies, imp_self, implies_true, decide_true, decide_false, dropMap, takeMap, effect, callEff, evO, evP, evL, argL, argX, dataL, plain, plainC, plainL, lk, one, vv, one1, isNil, binV, unV, cvV, load1, store1, fieldOf, cellsOf, cellsAt, asVal, shift, partOf, dataC, elemsC, app1, cop1, len1, mslice1, bslice1, rowsA, build1, fillA, idx1, index1, slice1, optInt, addrAt, cutC, putAt, allD, dv, spl, boolV, Option.map_some, Option.bind_some, Option.map_none, Option.bind_none, ↓reduceIte, Bool.not_true, Bool.not_false, Bool.false_eq_true, and_true, true_and, Option.some.injEq, List.length_map, Nat.reduceEqDiff, Nat.reduceLeDiff, Nat.reduceAdd, Int.reduceLT, Int.reduceLE, Int.reduceToNat, Int.toNat_natCast, List.length_cons, List.length_nil, List.take_succ_cons, List.take_zero, List.drop_zero, List.map_cons, List.map_nil, Nat.zero_add, Nat.le_refl, List.getD_cons_zero, List.getD_cons_succ, bt4, ti3, ti23, ti34, getD_num, ite_and, ite_le, ite_lt, ite_eq, ite_lei, ite_lti, ite_nei, IntWalk.i64_in, ti22, tdiv8, tmod8, takeAll, takeDropAll, toNatAdd, toNatSub, decLtF, decLeF, hq]; first | rfl | done); (exact h2); simp (disch := omega) only [List.length_replicate, List.length_map, Nat.reduceBEq, Bool.not_false, Bool.not_true, ↓reduceIte, Bool.false_eq_true, BEq.rfl, put1, skip1, frOf, know, vv, one, del, decide_true, decide_false, List.filter_cons, List.filter_nil, List.nil_append, List.cons_append, Nat.reduceAdd, Nat.add_zero, decLtF, decLeF]; simp only [callHp, frz, rB, rN, rO, unV', unX, unXs, unC, List.flatMap_cons, List.flatMap_nil, idsX, idsC, List.append_nil, ↓reduceIte, List.nil_append, List.cons_append, lk, Nat.reduceEqDiff, Nat.reduceAdd, List.length_map, List.length_cons, List.length_nil])
    | (apply RegA.call (hd := rfl) (fz := true) (hfz := .inl rfl); (first | exact trivial | rfl | exact congrArg some ‹_› | (simp (disch := omega) only [boolV, lk, ↓reduceIte, Nat.reduceEqDiff, decide_true, decide_false]; done)); (simp (disch := omega) only [binX, List.replicate_succ, List.set_cons_zero, List.set_cons_succ, List.drop_replicate, Nat.sub_self, List.length_replicate, true_or, or_true, or_false, List.replicate_zero, List.nil_append, List.append_nil, maxLen, List.length_append, List.length_take, List.length_drop, Nat.min_self, List.take_length, Option.getD_some, Option.getD_none, Option.isSome_some, Option.isSome_none, forall_const, Bool.false_eq_true, false_implies, imp_self, implies_true, decide_true, decide_false, dropMap, takeMap, effect, callEff, evO, evP, evL, argL, argX, dataL, plain, plainC, plainL, lk, one, vv, one1, isNil, binV, unV, cvV, load1, store1, fieldOf, cellsOf, cellsAt, asVal, shift, partOf, dataC, elemsC, app1, cop1, len1, mslice1, bslice1, rowsA, build1, fillA, idx1, index1, slice1, optInt, addrAt, cutC, putAt, allD, dv, spl, boolV, Option.map_some, Option.bind_some, Option.map_none, Option.bind_none, ↓reduceIte, Bool.not_true, Bool.not_false, Bool.false_eq_true, and_true, true_and, Option.some.injEq, List.length_map, Nat.reduceEqDiff, Nat.reduceLeDiff, Nat.reduceAdd, Int.reduceLT, Int.reduceLE, Int.reduceToNat, Int.toNat_natCast, List.length_cons, List.length_nil, List.take_succ_cons, List.take_zero, List.drop_zero, List.map_cons, List.map_nil, Nat.zero_add, Nat.le_refl, List.getD_cons_zero, List.getD_cons_succ, bt4, ti3, ti23, ti34, getD_num, ite_and, ite_le, ite_lt, ite_eq, ite_lei, ite_lti, ite_nei, IntWalk.i64_in, ti22, tdiv8, tmod8, takeAll, takeDropAll, toNatAdd, toNatSub, decLtF, decLeF, hq]; first | rfl | done); (simp (disch := omega) only [binX, List.replicate_succ, List.set_cons_zero, List.set_cons_succ, List.drop_replicate, Nat.sub_self, List.length_replicate, true_or, or_true, or_false, List.replicate_zero, List.nil_append, List.append_nil, maxLen, List.length_append, List.length_take, List.length_drop, Nat.min_self, List.take_length, Option.getD_some, Option.getD_none, Option.isSome_some, Option.isSome_none, forall_const, Bool.false_eq_true, false_implies, imp_self, implies_true, decide_true, decide_false, dropMap, takeMap, effect, callEff, evO, evP, evL, argL, argX, dataL, plain, plainC, plainL, lk, one, vv, one1, isNil, binV, unV, cvV, load1, store1, fieldOf, cellsOf, cellsAt, asVal, shift, partOf, dataC, elemsC, app1, cop1, len1, mslice1, bslice1, rowsA, build1, fillA, idx1, index1, slice1, optInt, addrAt, cutC, putAt, allD, dv, spl, boolV, Option.map_some, Option.bind_some, Option.map_none, Option.bind_none, ↓reduceIte, Bool.not_true, Bool.not_false, Bool.false_eq_true, and_true, true_and, Option.some.injEq, List.length_map, Nat.reduceEqDiff, Nat.reduceLeDiff, Nat.reduceAdd, Int.reduceLT, Int.reduceLE, Int.reduceToNat, Int.toNat_natCast, List.length_cons, List.length_nil, List.take_succ_cons, List.take_zero, List.drop_zero, List.map_cons, List.map_nil, Nat.zero_add, Nat.le_refl, List.getD_cons_zero, List.getD_cons_succ, bt4, ti3, ti23, ti34, getD_num, ite_and, ite_le, ite_lt, ite_eq, ite_lei, ite_lti, ite_nei, IntWalk.i64_in, ti22, tdiv8, tmod8, takeAll, takeDropAll, toNatAdd, toNatSub, decLtF, decLeF, hq]; first | rfl | done); (exact h3); simp (disch := omega) only [List.length_replicate, List.length_map, Nat.reduceBEq, Bool.not_false, Bool.not_true, ↓reduceIte, Bool.false_eq_true, BEq.rfl, put1, skip1, frOf, know, vv, one, del, decide_true, decide_false, List.filter_cons, List.filter_nil, List.nil_append, List.cons_append, Nat.reduceAdd, Nat.add_zero, decLtF, decLeF]; simp only [callHp, frz, rB, rN, rO, unV', unX, unXs, unC, List.flatMap_cons, List.flatMap_nil, idsX, idsC, List.append_nil, ↓reduceIte, List.nil_append, List.cons_append, lk, Nat.reduceEqDiff, Nat.reduceAdd, List.length_map, List.length_cons, List.length_nil])
    | (apply RegA.call (hd := rfl) (fz := true) (hfz := .inl rfl); (first | exact trivial | rfl | exact congrArg some ‹_› | (simp (disch := omega) only [boolV, lk, ↓reduceIte, Nat.reduceEqDiff, decide_true, decide_false]; done)); (simp (disch := omega) only [binX, List.replicate_succ, List.set_cons_zero, List.set_cons_succ, List.drop_replicate, Nat.sub_self, List.length_replicate, true_or, or_true, or_false, List.replicate_zero, List.nil_append, List.append_nil, maxLen, List.length_append, List.length_take, List.length_drop, Nat.min_self, List.take_length, Option.getD_some, Option.getD_none, Option.isSome_some, Option.isSome_none, forall_const, Bool.false_eq_true, false_implies, imp_self, implies_true, decide_true, decide_false, dropMap, takeMap, effect, callEff, evO, evP, evL, argL, argX, dataL, plain, plainC, plainL, lk, one, vv, one1, isNil, binV, unV, cvV, load1, store1, fieldOf, cellsOf, cellsAt, asVal, shift, partOf, dataC, elemsC, app1, cop1, len1, mslice1, bslice1, rowsA, build1, fillA, idx1, index1, slice1, optInt, addrAt, cutC, putAt, allD, dv, spl, boolV, Option.map_some, Option.bind_some, Option.map_none, Option.bind_none, ↓reduceIte, Bool.not_true, Bool.not_false, Bool.false_eq_true, and_true, true_and, Option.some.injEq, List.length_map, Nat.reduceEqDiff, Nat.reduceLeDiff, Nat.reduceAdd, Int.reduceLT, Int.reduceLE, Int.reduceToNat, Int.toNat_natCast, List.length_cons, List.length_nil, List.take_succ_cons, List.take_zero, List.drop_zero, List.map_cons, List.map_nil, Nat.zero_add, Nat.le_refl, List.getD_cons_zero, List.getD_cons_succ, bt4, ti3, ti23, ti34, getD_num, ite_and, ite_le, ite_lt, ite_eq, ite_lei, ite_lti, ite_nei, IntWalk.i64_in, ti22, tdiv8, tmod8, takeAll, takeDropAll, toNatAdd, toNatSub, decLtF, decLeF, hq]; first | rfl | done); (simp (disch := omega) only [binX, List.replicate_succ, List.set_cons_zero, List.set_cons_succ, List.drop_replicate, Nat.sub_self, List.length_replicate, true_or, or_true, or_false, List.replicate_zero, List.nil_append, List.append_nil, maxLen, List.length_append, List.length_take, List.length_drop, Nat.min_self, List.take_length, Option.getD_some, Option.getD_none, Option.isSome_some, Option.isSome_none, forall_const, Bool.false_eq_true, false_implies, imp_self, implies_true, decide_true, decide_false, dropMap, takeMap, effect, callEff, evO, evP, evL, argL, argX, dataL, plain, plainC, plainL, lk, one, vv, one1, isNil, binV, unV, cvV, load1, store1, fieldOf, cellsOf, cellsAt, asVal, shift, partOf, dataC, elemsC, app1, cop1, len1, mslice1, bslice1, rowsA, build1, fillA, idx1, index1, slice1, optInt, addrAt, cutC, putAt, allD, dv, spl, boolV, Option.map_some, Option.bind_some, Option.map_none, Option.bind_none, ↓reduceIte, Bool.not_true, Bool.not_false, Bool.false_eq_true, and_true, true_and, Option.some.injEq, List.length_map, Nat.reduceEqDiff, Nat.reduceLeDiff, Nat.reduceAdd, Int.reduceLT, Int.reduceLE, Int.reduceToNat, Int.toNat_natCast, List.length_cons, List.length_nil, List.take_succ_cons, List.take_zero, List.drop_zero, List.map_cons, List.map_nil, Nat.zero_add, Nat.le_refl, List.getD_cons_zero, List.getD_cons_succ, bt4, ti3, ti23, ti34, getD_num, ite_and, ite_le, ite_lt, ite_eq, ite_lei, ite_lti, ite_nei, IntWalk.i64_in, ti22, tdiv8, tmod8, takeAll, takeDropAll, toNatAdd, toNatSub, decLtF, decLeF, hq]; first | rfl | done); (exact h4); simp (disch := omega) only [List.length_replicate, List.length_map, Nat.reduceBEq, Bool.not_false, Bool.not_true, ↓reduceIte, Bool.false_eq_true, BEq.rfl, put1, skip1, frOf, know, vv, one, del, decide_true, decide_false, List.filter_cons, List.filter_nil, List.nil_append, List.cons_append, Nat.reduceAdd, Nat.add_zero, decLtF, decLeF]; simp only [callHp, frz, rB, rN, rO, unV', unX, unXs, unC, List.flatMap_cons, List.flatMap_nil, idsX, idsC, List.append_nil, ↓reduceIte, List.nil_append, List.cons_append, lk, Nat.reduceEqDiff, Nat.reduceAdd, List.length_map, List.length_cons, List.length_nil])
    | (apply RegA.call (hd := rfl) (fz := true) (hfz := .inl rfl); (first | exact trivial | rfl | exact congrArg some ‹_› | (simp (disch := omega) only [boolV, lk, ↓reduceIte, Nat.reduceEqDiff, decide_true, decide_false]; done)); (simp (disch := omega) only [binX, List.replicate_succ, List.set_cons_zero, List.set_cons_succ, List.drop_replicate, Nat.sub_self, List.length_replicate, true_or, or_true, or_false, List.replicate_zero, List.nil_append, List.append_nil, maxLen, List.length_append, List.length_take, List.length_drop, Nat.min_self, List.take_length, Option.getD_some, Option.getD_none, Option.isSome_some, Option.isSome_none, forall_const, Bool.false_eq_true, false_implies, imp_self, implies_true, decide_true, decide_false, dropMap, takeMap, effect, callEff, evO, evP, evL, argL, argX, dataL, plain, plainC, plainL, lk, one, vv, one1, isNil, binV, unV, cvV, load1, store1, fieldOf, cellsOf, cellsAt, asVal, shift, partOf, dataC, elemsC, app1, cop1, len1, mslice1, bslice1, rowsA, build1, fillA, idx1, index1, slice1, optInt, addrAt, cutC, putAt, allD, dv, spl, boolV, Option.map_some, Option.bind_some, Option.map_none, Option.bind_none, ↓reduceIte, Bool.not_true, Bool.not_false, Bool.false_eq_true, and_true, true_and, Option.some.injEq, List.length_map, Nat.reduceEqDiff, Nat.reduceLeDiff, Nat.reduceAdd, Int.reduceLT, Int.reduceLE, Int.reduceToNat, Int.toNat_natCast, List.length_cons, List.length_nil, List.take_succ_cons, List.take_zero, List.drop_zero, List.map_cons, List.map_nil, Nat.zero_add, Nat.le_refl, List.getD_cons_zero, List.getD_cons_succ, bt4, ti3, ti23, ti34, getD_num, ite_and, ite_le, ite_lt, ite_eq, ite_lei, ite_lti, ite_nei, IntWalk.i64_in, ti22, tdiv8, tmod8, takeAll, takeDropAll, toNatAdd, toNatSub, decLtF, decLeF, hq]; first | rfl | done); (simp (disch := omega) only [binX, List.replicate_succ, List.set_cons_zero, List.set_cons_succ, List.drop_replicate, Nat.sub_self, List.length_replicate, true_or, or_true, or_false, List.replicate_zero, List.nil_append, List.append_nil, maxLen, List.length_append, List.length_take, List.length_drop, Nat.min_self, List.take_length, Option.getD_some, Option.getD_none, Option.isSome_some, Option.isSome_none, forall_const, Bool.false_eq_true, false_implies, imp_self, implies_true, decide_true, decide_false, dropMap, takeMap, effect, callEff, evO, evP, evL, argL, argX, dataL, plain, plainC, plainL, lk, one, vv, one1, isNil, binV, unV, cvV, load1, store1, fieldOf, cellsOf, cellsAt, asVal, shift, partOf, dataC, elemsC, app1, cop1, len1, mslice1, bslice1, rowsA, build1, fillA, idx1, index1, slice1, optInt, addrAt, cutC, putAt, allD, dv, spl, boolV, Option.map_some, Option.bind_some, Option.map_none, Option.bind_none, ↓reduceIte, Bool.not_true, Bool.not_false, Bool.false_eq_true, and_true, true_and, Option.some.injEq, List.length_map, Nat.reduceEqDiff, Nat.reduceLeDiff, Nat.reduceAdd, Int.reduceLT, Int.reduceLE, Int.reduceToNat, Int.toNat_natCast, List.length_cons, List.length_nil, List.take_succ_cons, List.take_zero, List.drop_zero, List.map_cons, List.map_nil, Nat.zero_add, Nat.le_refl, List.getD_cons_zero, List.getD_cons_succ, bt4, ti3, ti23, ti34, getD_num, ite_and, ite_le, ite_lt, ite_eq, ite_lei, ite_lti, ite_nei, IntWalk.i64_in, ti22, tdiv8, tmod8, takeAll, takeDropAll, toNatAdd, toNatSub, decLtF, decLeF, hq]; first | rfl | done); (exact con17); simp (disch := omega) only [List.length_replicate, List.length_map, Nat.reduceBEq, Bool.not_false, Bool.not_true, ↓reduceIte, Bool.false_eq_true, BEq.rfl, put1, skip1, frOf, know, vv, one, del, decide_true, decide_false, List.filter_cons, List.filter_nil, List.nil_append, List.cons_append, Nat.reduceAdd, Nat.add_zero, decLtF, decLeF]; simp only [callHp, frz, rB, rN, rO, unV', unX, unXs, unC, List.flatMap_cons, List.flatMap_nil, idsX, idsC, List.append_nil, ↓reduceIte, List.nil_append, List.cons_append, lk, Nat.reduceEqDiff, Nat.reduceAdd, List.length_map, List.length_cons, List.length_nil])
    | (apply RegA.call (hd := rfl) (fz := true) (hfz := .inl rfl); (first | exact trivial | rfl | exact congrArg some ‹_› | (simp (disch := omega) only [boolV, lk, ↓reduceIte, Nat.reduceEqDiff, decide_true, decide_false]; done)); (simp (disch := omega) only [binX, List.replicate_succ, List.set_cons_zero, List.set_cons_succ, List.drop_replicate, Nat.sub_self, List.length_replicate, true_or, or_true, or_false, List.replicate_zero, List.nil_append, List.append_nil, maxLen, List.length_append, List.length_take, List.length_drop, Nat.min_self, List.take_length, Option.getD_some, Option.getD_none, Option.isSome_some, Option.isSome_none, forall_const, Bool.false_eq_true, false_implies, imp_self, implies_true, decide_true, decide_false, dropMap, takeMap, effect, callEff, evO, evP, evL, argL, argX, dataL, plain, plainC, plainL, lk, one, vv, one1, isNil, binV, unV, cvV, load1, store1, fieldOf, cellsOf, cellsAt, asVal, shift, partOf, dataC, elemsC, app1, cop1, len1, mslice1, bslice1, rowsA, build1, fillA, idx1, index1, slice1, optInt, addrAt, cutC, putAt, allD, dv, spl, boolV, Option.map_some, Option.bind_some, Option.map_none, Option.bind_none, ↓reduceIte, Bool.not_true, Bool.not_false, Bool.false_eq_true, and_true, true_and, Option.some.injEq, List.length_map, Nat.reduceEqDiff, Nat.reduceLeDiff, Nat.reduceAdd, Int.reduceLT, Int.reduceLE, Int.reduceToNat, Int.toNat_natCast, List.length_cons, List.length_nil, List.take_succ_cons, List.take_zero, List.drop_zero, List.map_cons, List.map_nil, Nat.zero_add, Nat.le_refl, List.getD_cons_zero, List.getD_cons_succ, bt4, ti3, ti23, ti34, getD_num, ite_and, ite_le, ite_lt, ite_eq, ite_lei, ite_lti, ite_nei, IntWalk.i64_in, ti22, tdiv8, tmod8, takeAll, takeDropAll, toNatAdd, toNatSub, decLtF, decLeF, hq]; first | rfl | done); (simp (disch := omega) only [binX, List.replicate_succ, List.set_cons_zero, List.set_cons_succ, List.drop_replicate, Nat.sub_self, List.length_replicate, true_or, or_true, or_false, List.replicate_zero, List.nil_append, List.append_nil, maxLen, List.length_append, List.length_take, List.length_drop, Nat.min_self, List.take_length, Option.getD_some, Option.getD_none, Option.isSome_some, Option.isSome_none, forall_const, Bool.false_eq_true, false_implies, imp_self, implies_true, decide_true, decide_false, dropMap, takeMap, effect, callEff, evO, evP, evL, argL, argX, dataL, plain, plainC, plainL, lk, one, vv, one1, isNil, binV, unV, cvV, load1, store1, fieldOf, cellsOf, cellsAt, asVal, shift, partOf, dataC, elemsC, app1, cop1, len1, mslice1, bslice1, rowsA, build1, fillA, idx1, index1, slice1, optInt, addrAt, cutC, putAt, allD, dv, spl, boolV, Option.map_some, Option.bind_some, Option.map_none, Option.bind_none, ↓reduceIte, Bool.not_true, Bool.not_false, Bool.false_eq_true, and_true, true_and, Option.some.injEq, List.length_map, Nat.reduceEqDiff, Nat.reduceLeDiff, Nat.reduceAdd, Int.reduceLT, Int.reduceLE, Int.reduceToNat, Int.toNat_natCast, List.length_cons, List.length_nil, List.take_succ_cons, List.take_zero, List.drop_zero, List.map_cons, List.map_nil, Nat.zero_add, Nat.le_refl, List.getD_cons_zero, List.getD_cons_succ, bt4, ti3, ti23, ti34, getD_num, ite_and, ite_le, ite_lt, ite_eq, ite_lei, ite_lti, ite_nei, IntWalk.i64_in, ti22, tdiv8, tmod8, takeAll, takeDropAll, toNatAdd, toNatSub, decLtF, decLeF, hq]; first | rfl | done); (exact h19); simp (disch := omega) only [List.length_replicate, List.length_map, Nat.reduceBEq, Bool.not_false, Bool.not_true, ↓reduceIte, Bool.false_eq_true, BEq.rfl, put1, skip1, frOf, know, vv, one, del, decide_true, decide_false, List.filter_cons, List.filter_nil, List.nil_append, List.cons_append, Nat.reduceAdd, Nat.add_zero, decLtF, decLeF]; simp only [callHp, frz, rB, rN, rO, unV', unX, unXs, unC, List.flatMap_cons, List.flatMap_nil, idsX, idsC, List.append_nil, ↓reduceIte, List.nil_append, List.cons_append, lk, Nat.reduceEqDiff, Nat.reduceAdd, List.length_map, List.length_cons, List.length_nil])
    | (refine RegA.off rfl rfl ?_; simp (disch := omega) only [List.length_replicate, List.length_map, Nat.reduceBEq, Bool.not_false, Bool.not_true, ↓reduceIte, Bool.false_eq_true, BEq.rfl, put1, skip1, frOf, know, vv, one, del, decide_true, decide_false, List.filter_cons, List.filter_nil, List.nil_append, List.cons_append, Nat.reduceAdd, Nat.add_zero, decLtF, decLeF])
    | (refine RegA.split rfl ?_ ?_ <;> (intro hsp; (try simp only [Bool.not_eq_true', Bool.not_eq_false', decide_eq_true_eq, decide_eq_false_iff_not, Decidable.not_not, Int.not_lt, Int.not_le, Int.natCast_inj, Bool.and_eq_true, Bool.or_eq_true, Bool.not_not, ne_eq] at hsp); simp (disch := omega) only [List.length_replicate, List.length_map, Nat.reduceBEq, Bool.not_false, Bool.not_true, ↓reduceIte, Bool.false_eq_true, BEq.rfl, put1, skip1, frOf, know, vv, one, del, decide_true, decide_false, List.filter_cons, List.filter_nil, List.nil_append, List.cons_append, Nat.reduceAdd, Nat.add_zero, decLtF, decLeF]))
    | (apply DrawA.op' (hd := rfl); (simp only [List.length_cons, List.length_nil, Nat.reduceMul, Nat.reduceAdd]; rfl); (simp only [Bool.not_false, Bool.not_true, Eng.mk, Eng.put1, Eng.skip1, frOf, vv, one, del, List.filter_cons, List.filter_nil, List.nil_append, List.cons_append, Nat.reduceAdd, Nat.reduceMul, Nat.add_zero, List.length_nil, List.length_cons, List.getD_cons_zero, List.getD_cons_succ, List.contains_cons, List.contains_nil, Nat.reduceBEq, BEq.rfl, Bool.or_false, Bool.false_or, Bool.or_true, Bool.true_or, Bool.false_eq_true, ↓reduceIte, if_false, if_true, allIn, List.range, List.range.loop]; rfl); (first | exact trivial | rfl | exact congrArg some ‹_› | (simp (disch := omega) only [boolV, lk, ↓reduceIte, Nat.reduceEqDiff, decide_true, decide_false]; done)); (simp (disch := omega) only [binX, List.replicate_succ, List.set_cons_zero, List.set_cons_succ, List.drop_replicate, Nat.sub_self, List.length_replicate, true_or, or_true, or_false, List.replicate_zero, List.nil_append, List.append_nil, maxLen, List.length_append, List.length_take, List.length_drop, Nat.min_self, List.take_length, Option.getD_some, Option.getD_none, Option.isSome_some, Option.isSome_none, forall_const, Bool.false_eq_true, false_implies, imp_self, implies_true, decide_true, decide_false, dropMap, takeMap, effect, callEff, evO, evP, evL, argL, argX, dataL, plain, plainC, plainL, lk, one, vv, one1, isNil, binV, unV, cvV, load1, store1, fieldOf, cellsOf, cellsAt, asVal, shift, partOf, dataC, elemsC, app1, cop1, len1, mslice1, bslice1, rowsA, build1, fillA, idx1, index1, slice1, optInt, addrAt, cutC, putAt, allD, dv, spl, boolV, Option.map_some, Option.bind_some, Option.map_none, Option.bind_none, ↓reduceIte, Bool.not_true, Bool.not_false, Bool.false_eq_true, and_true, true_and, Option.some.injEq, List.length_map, Nat.reduceEqDiff, Nat.reduceLeDiff, Nat.reduceAdd, Int.reduceLT, Int.reduceLE, Int.reduceToNat, Int.toNat_natCast, List.length_cons, List.length_nil, List.take_succ_cons, List.take_zero, List.drop_zero, List.map_cons, List.map_nil, Nat.zero_add, Nat.le_refl, List.getD_cons_zero, List.getD_cons_succ, bt4, ti3, ti23, ti34, getD_num, ite_and, ite_le, ite_lt, ite_eq, ite_lei, ite_lti, ite_nei, IntWalk.i64_in, ti22, tdiv8, tmod8, takeAll, takeDropAll, toNatAdd, toNatSub, decLtF, decLeF, hq]; first | rfl | done); rfl; rfl; simp only [List.nil_append, List.cons_append])
    | (apply DrawA.off' (hd := rfl); (simp only [Bool.not_false, Bool.not_true, Eng.mk, Eng.put1, Eng.skip1, frOf, vv, one, del, List.filter_cons, List.filter_nil, List.nil_append, List.cons_append, Nat.reduceAdd, Nat.reduceMul, Nat.add_zero, List.length_nil, List.length_cons, List.getD_cons_zero, List.getD_cons_succ, List.contains_cons, List.contains_nil, Nat.reduceBEq, BEq.rfl, Bool.or_false, Bool.false_or, Bool.or_true, Bool.true_or, Bool.false_eq_true, ↓reduceIte, if_false, if_true, allIn, List.range, List.range.loop]; rfl); (first | rfl | (simp (disch := omega) only [boolV, lk, ↓reduceIte, Nat.reduceEqDiff, Bool.not_true, Bool.not_false, decide_true, decide_false, bt4, ti3, ti23, ti34, getD_num, ite_and, ite_le, ite_lt, ite_eq, ite_lei, ite_lti, ite_nei, IntWalk.i64_in, ti22, tdiv8, tmod8, takeAll, takeDropAll, toNatAdd, toNatSub, decLtF, decLeF, hq]; done)); simp only [List.nil_append, List.cons_append])
    | (apply DrawA.nil'; (simp only [List.length_cons, List.length_nil, Nat.reduceMul, Nat.reduceAdd]; rfl); (simp only [Bool.not_false, Bool.not_true, mkAll, Eng.put1, Eng.skip1, frOf, vv, one, del, List.filter_cons, List.filter_nil, List.nil_append, List.cons_append, Nat.reduceAdd, Nat.reduceMul, Nat.add_zero, List.length_nil, List.length_cons, List.getD_cons_zero, List.getD_cons_succ, List.contains_cons, List.contains_nil, Nat.reduceBEq, BEq.rfl, Bool.or_false, Bool.false_or, Bool.or_true, Bool.true_or, Bool.false_eq_true, ↓reduceIte, if_false, if_true, allIn, List.range, List.range.loop]; rfl); assumption)
    | (refine RegA.done ‹_› ?_)
    | (refine awp_seq fun K hK => ?_)
    | (refine Awp.reg ?_)
    | (refine Awp.draw' (A := [[], [], [0, 1], [2, 0, 1], [3, 2, 0, 1], [4, 3, 2, 0, 1], [5, 4, 3, 2, 0, 1], [5, 4, 3, 2, 0, 1], [6, 7, 5, 4, 3, 2, 0, 1], [8, 5, 6, 7, 4, 3, 2, 0, 1], [5, 4, 3, 2, 0, 1], [10, 5, 4, 3, 2, 0, 1], [9, 11, 5, 8, 6, 7, 4, 3, 2, 0, 1, 10], [5, 12, 4, 3, 2, 0, 1, 9, 11, 8, 6, 7, 10], [13, 5, 12, 4, 3, 2, 0, 1, 9, 11, 8, 6, 7, 10], [14, 13, 5, 12, 4, 3, 2, 0, 1, 9, 11, 8, 6, 7, 10], [15, 14, 13, 5, 12, 4, 3, 2, 0, 1, 9, 11, 8, 6, 7, 10], [16, 14, 15, 13, 5, 12, 4, 3, 2, 0, 1, 9, 11, 8, 6, 7, 10], [17, 16, 14, 15, 13, 5, 12, 4, 3, 2, 0, 1, 9, 11, 8, 6, 7, 10], [17, 16, 14, 15, 13, 5, 12, 4, 3, 2, 0, 1, 9, 11, 8, 6, 7, 10], [19, 17, 16, 14, 15, 13, 5, 12, 4, 3, 2, 0, 1, 9, 11, 8, 6, 7, 10], [18, 20, 17, 16, 14, 15, 13, 5, 12, 4, 3, 2, 0, 1, 9, 11, 8, 6, 7, 10, 19], [21, 17, 18, 20, 16, 14, 15, 13, 5, 12, 4, 3, 2, 0, 1, 9, 11, 8, 6, 7, 10, 19], [17, 16, 14, 15, 13, 5, 12, 4, 3, 2, 0, 1, 9, 11, 8, 6, 7, 10], [17, 16, 14, 15, 13, 5, 12, 4, 3, 2, 0, 1, 9, 11, 8, 6, 7, 10], [23, 24, 17, 16, 14, 15, 13, 5, 12, 4, 3, 2, 0, 1, 9, 11, 8, 6, 7, 10], [25, 17, 23, 24, 16, 14, 15, 13, 5, 12, 4, 3, 2, 0, 1, 9, 11, 8, 6, 7, 10], [22, 26, 17, 21, 18, 20, 16, 14, 15, 13, 5, 12, 4, 3, 2, 0, 1, 9, 11, 8, 6, 7, 10, 19, 25, 23, 24], [17, 27, 14, 16, 15, 13, 5, 12, 4, 3, 2, 0, 1, 9, 11, 8, 6, 7, 10, 22, 26, 21, 18, 20, 19, 25, 23, 24], [14, 28, 13, 5, 12, 4, 3, 2, 0, 1, 9, 11, 8, 6, 7, 10, 17, 27, 16, 15, 22, 26, 21, 18, 20, 19, 25, 23, 24]]) rfl rfl rfl ?_)
    | (refine Awp.draw' (A := [[], [], [], [1, 2], [3, 1, 2], [], [], [], [6, 7], [8, 6, 7], [], [], [10, 11], [12, 10, 11], [13, 12, 10, 11], [5, 9, 14, 8, 6, 7, 13, 12, 10, 11], [0, 4, 15, 3, 1, 2, 5, 9, 14, 8, 6, 7, 13, 12, 10, 11], [16, 0, 4, 15, 3, 1, 2, 5, 9, 14, 8, 6, 7, 13, 12, 10, 11], [17, 16, 0, 4, 15, 3, 1, 2, 5, 9, 14, 8, 6, 7, 13, 12, 10, 11], [17, 16, 0, 4, 15, 3, 1, 2, 5, 9, 14, 8, 6, 7, 13, 12, 10, 11], [18, 16, 0, 1, 2, 3, 4, 5, 6, 7, 8, 9, 10, 11, 12, 13, 14, 15, 17], [19, 20, 0, 1, 2, 3, 4, 5, 6, 7, 8, 9, 10, 11, 12, 13, 14, 15, 16, 17, 18]]) rfl rfl rfl ?_)
    | (refine Awp.skip ?_)
    | (refine Awp.block ?_)
    | (refine Awp.scope ?_)
    | (refine Awp.ct rfl ?_)
    | (refine Awp.cf rfl ?_)
    | (refine Awp.ct (congrArg some (congrArg Value.bool ?_)) ?_; focus (simp (disch := omega) only [decide_eq_true_eq, decide_eq_false_iff_not, Bool.not_eq_true', Bool.not_eq_false', decide_true, decide_false, Bool.not_true, Bool.not_false, bt4, ti3, ti23, ti34, getD_num, ite_and, ite_le, ite_lt, ite_eq, ite_lei, ite_lti, ite_nei, IntWalk.i64_in, ti22, tdiv8, tmod8, takeAll, takeDropAll, toNatAdd, toNatSub, decLtF, decLeF, hq]; done))
    | (refine Awp.cf (congrArg some (congrArg Value.bool ?_)) ?_; focus (simp (disch := omega) only [decide_eq_true_eq, decide_eq_false_iff_not, Bool.not_eq_true', Bool.not_eq_false', decide_true, decide_false, Bool.not_true, Bool.not_false, bt4, ti3, ti23, ti34, getD_num, ite_and, ite_le, ite_lt, ite_eq, ite_lei, ite_lti, ite_nei, IntWalk.i64_in, ti22, tdiv8, tmod8, takeAll, takeDropAll, toNatAdd, toNatSub, decLtF, decLeF, hq]; done))
    | (refine Awp.cond rfl ?_ ?_ <;> (intro hsp; (try simp only [Bool.not_eq_true', Bool.not_eq_false', decide_eq_true_eq, decide_eq_false_iff_not, Decidable.not_not, Int.not_lt, Int.not_le, Int.natCast_inj, Bool.and_eq_true, Bool.or_eq_true, Bool.not_not, ne_eq] at hsp)))
    | (refine Awp.exit ?_; simp only [blockQ, thenQ, scopeQ, ↓reduceIte, Nat.reduceEqDiff])
    | (refine viaK ‹_› ?_)
    | (simp only [thenQ_normal, blockQ_normal])))
  all_goals (try (focus (refine Awp.ret ?_; apply ret_of (.inl rfl); rfl; (simp (disch := omega) only [outXs, outX, outC, outL, lk, ↓reduceIte, Nat.reduceEqDiff, List.length_map, List.length_nil, List.length_replicate, List.length_cons, List.length_take, List.length_drop, List.length_append, ite_eq, Option.map_some, Bool.false_eq_true]; rfl); (focus simp [ownsX, ownsC]); simp [laxR, laxX, laxC, rB, rN, rO, *] <;> (intros; omega); done)))
  · refine Awp.loop (α := {i : Nat // i ≤ D.length}) (fun i => { fr := [(10, vv (.int .i64 (i.1 : Int))), (5, .x (.one (.own 0 D.length))), (9, .x (.one (.own 1 a.length))), (1, .x (.one (.d (.sl 1 (b.map (numD .u64))))))], hp := [(0, .row 1 (D.map (numD .i64)) true), (1, .row 1 ((R a b D a.length i.1).map (numD .u64)) false)], nx := 2, nt := 128 }) (fun i => D.length - i.1) ⟨0, by omega⟩ [(0, 0), (1, 2)] ?_ ?_
    · simp only [Wk, frIn, hpIn, lk, renV, renX, renC, belV, belX, belC, belL, ↓reduceIte, Nat.reduceEqDiff, and_self, and_true, true_and]; simp [vv, one, renV, renX, renC, belV, belX, belC, rho, renO, belO, lk, hR0]
    · rintro ⟨i, hi⟩
      have hi' : i ≤ D.length := hi
      have hat : i < D.length → 0 ≤ D.getD i 0 ∧ D.getD i 0 < a.length := fun h => hI.at h
      have hlt : (0 < i ∧ i < D.length) → D.getD (i - 1) 0 < D.getD i 0 := fun h => hI.lt (i - 1) i (by omega) h.2
      simp only [vv, one]
      rcases Nat.eq_zero_or_pos i with hz | hz
      · (repeat' (first
    | (apply RegA.op (hd := rfl); (first | exact trivial | rfl | exact congrArg some ‹_› | (simp (disch := omega) only [boolV, lk, ↓reduceIte, Nat.reduceEqDiff, decide_true, decide_false]; done)); (simp (disch := omega) only [binX, List.replicate_succ, List.set_cons_zero, List.set_cons_succ, List.drop_replicate, Nat.sub_self, List.length_replicate, true_or, or_true, or_false, List.replicate_zero, List.nil_append, List.append_nil, maxLen, List.length_append, List.length_take, List.length_drop, Nat.min_self, List.take_length, Option.getD_some, Option.getD_none, Option.isSome_some, Option.isSome_none, forall_const, Bool.false_eq_true, false_implies, imp_self, implies_true, decide_true, decide_false, dropMap, takeMap, effect, callEff, evO, evP, evL, argL, argX, dataL, plain, plainC, plainL, lk, one, vv, one1, isNil, binV, unV, cvV, load1, store1, fieldOf, cellsOf, cellsAt, asVal, shift, partOf, dataC, elemsC, app1, cop1, len1, mslice1, bslice1, rowsA, build1, fillA, idx1, index1, slice1, optInt, addrAt, cutC, putAt, allD, dv, spl, boolV, Option.map_some, Option.bind_some, Option.map_none, Option.bind_none, ↓reduceIte, Bool.not_true, Bool.not_false, Bool.false_eq_true, and_true, true_and, Option.some.injEq, List.length_map, Nat.reduceEqDiff, Nat.reduceLeDiff, Nat.reduceAdd, Int.reduceLT, Int.reduceLE, Int.reduceToNat, Int.toNat_natCast, List.length_cons, List.length_nil, List.take_succ_cons, List.take_zero, List.drop_zero, List.map_cons, List.map_nil, Nat.zero_add, Nat.le_refl, List.getD_cons_zero, List.getD_cons_succ, bt4, ti3, ti23, ti34, getD_num, ite_and, ite_le, ite_lt, ite_eq, ite_lei, ite_lti, ite_nei, IntWalk.i64_in, ti22, tdiv8, tmod8, takeAll, takeDropAll, toNatAdd, toNatSub, toNatPred, decLtF, decLeF, decLtT, hRl]; first | rfl | done); simp (disch := omega) only [List.length_replicate, List.length_map, Nat.reduceBEq, Bool.not_false, Bool.not_true, ↓reduceIte, Bool.false_eq_true, BEq.rfl, put1, skip1, frOf, know, vv, one, del, decide_true, decide_false, List.filter_cons, List.filter_nil, List.nil_append, List.cons_append, Nat.reduceAdd, Nat.add_zero, decLtF, decLeF, decLtT, hRl])
    | (apply RegA.call (hd := rfl) (fz := true) (hfz := .inl rfl); (first | exact trivial | rfl | exact congrArg some ‹_› | (simp (disch := omega) only [boolV, lk, ↓reduceIte, Nat.reduceEqDiff, decide_true, decide_false]; done)); (simp (disch := omega) only [binX, List.replicate_succ, List.set_cons_zero, List.set_cons_succ, List.drop_replicate, Nat.sub_self, List.length_replicate, true_or, or_true, or_false, List.replicate_zero, List.nil_append, List.append_nil, maxLen, List.length_append, List.length_take, List.length_drop, Nat.min_self, List.take_length, Option.getD_some, Option.getD_none, Option.isSome_some, Option.isSome_none, forall_const, Bool.false_eq_true, false_implies, imp_self, implies_true, decide_true, decide_false, dropMap, takeMap, effect, callEff, evO, evP, evL, argL, argX, dataL, plain, plainC, plainL, lk, one, vv, one1, isNil, binV, unV, cvV, load1, store1, fieldOf, cellsOf, cellsAt, asVal, shift, partOf, dataC, elemsC, app1, cop1, len1, mslice1, bslice1, rowsA, build1, fillA, idx1, index1, slice1, optInt, addrAt, cutC, putAt, allD, dv, spl, boolV, Option.map_some, Option.bind_some, Option.map_none, Option.bind_none, ↓reduceIte, Bool.not_true, Bool.not_false, Bool.false_eq_true, and_true, true_and, Option.some.injEq, List.length_map, Nat.reduceEqDiff, Nat.reduceLeDiff, Nat.reduceAdd, Int.reduceLT, Int.reduceLE, Int.reduceToNat, Int.toNat_natCast, List.length_cons, List.length_nil, List.take_succ_cons, List.take_zero, List.drop_zero, List.map_cons, List.map_nil, Nat.zero_add, Nat.le_refl, List.getD_cons_zero, List.getD_cons_succ, bt4, ti3, ti23, ti34, getD_num, ite_and, ite_le, ite_lt, ite_eq, ite_lei, ite_lti, ite_nei, IntWalk.i64_in, ti22, tdiv8, tmod8, takeAll, takeDropAll, toNatAdd, toNatSub, toNatPred, decLtF, decLeF, decLtT, hRl]; first | rfl | done); (simp (disch := omega) only [binX, List.replicate_succ, List.set_cons_zero, List.set_cons_succ, List.drop_replicate, Nat.sub_self, List.length_replicate, true_or, or_true, or_false, List.replicate_zero, List.nil_append, List.append_nil, maxLen, List.length_append, List.length_take, List.length_drop, Nat.min_self, List.take_length, Option.getD_some, Option.getD_none, Option.isSome_some, Option.isSome_none, forall_const, Bool.false_eq_true, false_implies, imp_self, implies_true, decide_true, decide_false, dropMap, takeMap, effect, callEff, evO, evP, evL, argL, argX, dataL, plain, plainC, plainL, lk, one, vv, one1, isNil, binV, unV, cvV, load1, store1, fieldOf, cellsOf, cellsAt, asVal, shift, partOf, dataC, elemsC, app1, cop1, len1, mslice1, bslice1, rowsA, build1, fillA, idx1, index1, slice1, optInt, addrAt, cutC, putAt, allD, dv, spl, boolV, Option.map_some, Option.bind_some, Option.map_none, Option.bind_none, ↓reduceIte, Bool.not_true, Bool.not_false, Bool.false_eq_true, and_true, true_and, Option.some.injEq, List.length_map, Nat.reduceEqDiff, Nat.reduceLeDiff, Nat.reduceAdd, Int.reduceLT, Int.reduceLE, Int.reduceToNat, Int.toNat_natCast, List.length_cons, List.length_nil, List.take_succ_cons, List.take_zero, List.drop_zero, List.map_cons, List.map_nil, Nat.zero_add, Nat.le_refl, List.getD_cons_zero, List.getD_cons_succ, bt4, ti3, ti23, ti34, getD_num, ite_and, ite_le, ite_lt, ite_eq, ite_lei, ite_lti, ite_nei, IntWalk.i64_in, ti22, tdiv8, tmod8, takeAll, takeDropAll, toNatAdd, toNatSub, toNatPred, decLtF, decLeF, decLtT, hRl]; first | rfl | done); (exact con17); simp (disch := omega) only [List.length_replicate, List.length_map, Nat.reduceBEq, Bool.not_false, Bool.not_true, ↓reduceIte, Bool.false_eq_true, BEq.rfl, put1, skip1, frOf, know, vv, one, del, decide_true, decide_false, List.filter_cons, List.filter_nil, List.nil_append, List.cons_append, Nat.reduceAdd, Nat.add_zero, decLtF, decLeF, decLtT, hRl]; simp only [callHp, frz, rB, rN, rO, unV', unX, unXs, unC, List.flatMap_cons, List.flatMap_nil, idsX, idsC, List.append_nil, ↓reduceIte, List.nil_append, List.cons_append, lk, Nat.reduceEqDiff, Nat.reduceAdd, List.length_map, List.length_cons, List.length_nil])
    | (apply RegA.call (hd := rfl) (fz := true) (hfz := .inl rfl); (first | exact trivial | rfl | exact congrArg some ‹_› | (simp (disch := omega) only [boolV, lk, ↓reduceIte, Nat.reduceEqDiff, decide_true, decide_false]; done)); (simp (disch := omega) only [binX, List.replicate_succ, List.set_cons_zero, List.set_cons_succ, List.drop_replicate, Nat.sub_self, List.length_replicate, true_or, or_true, or_false, List.replicate_zero, List.nil_append, List.append_nil, maxLen, List.length_append, List.length_take, List.length_drop, Nat.min_self, List.take_length, Option.getD_some, Option.getD_none, Option.isSome_some, Option.isSome_none, forall_const, Bool.false_eq_true, false_implies, imp_self, implies_true, decide_true, decide_false, dropMap, takeMap, effect, callEff, evO, evP, evL, argL, argX, dataL, plain, plainC, plainL, lk, one, vv, one1, isNil, binV, unV, cvV, load1, store1, fieldOf, cellsOf, cellsAt, asVal, shift, partOf, dataC, elemsC, app1, cop1, len1, mslice1, bslice1, rowsA, build1, fillA, idx1, index1, slice1, optInt, addrAt, cutC, putAt, allD, dv, spl, boolV, Option.map_some, Option.bind_some, Option.map_none, Option.bind_none, ↓reduceIte, Bool.not_true, Bool.not_false, Bool.false_eq_true, and_true, true_and, Option.some.injEq, List.length_map, Nat.reduceEqDiff, Nat.reduceLeDiff, Nat.reduceAdd, Int.reduceLT, Int.reduceLE, Int.reduceToNat, Int.toNat_natCast, List.length_cons, List.length_nil, List.take_succ_cons, List.take_zero, List.drop_zero, List.map_cons, List.map_nil, Nat.zero_add, Nat.le_refl, List.getD_cons_zero, List.getD_cons_succ, bt4, ti3, ti23, ti34, getD_num, ite_and, ite_le, ite_lt, ite_eq, ite_lei, ite_lti, ite_nei, IntWalk.i64_in, ti22, tdiv8, tmod8, takeAll, takeDropAll, toNatAdd, toNatSub, toNatPred, decLtF, decLeF, decLtT, hRl]; first | rfl | done); (simp (disch := omega) only [binX, List.replicate_succ, List.set_cons_zero, List.set_cons_succ, List.drop_replicate, Nat.sub_self, List.length_replicate, true_or, or_true, or_false, List.replicate_zero, List.nil_append, List.append_nil, maxLen, List.length_append, List.length_take, List.length_drop, Nat.min_self, List.take_length, Option.getD_some, Option.getD_none, Option.isSome_some, Option.isSome_none, forall_const, Bool.false_eq_true, false_implies, imp_self, implies_true, decide_true, decide_false, dropMap, takeMap, effect, callEff, evO, evP, evL, argL, argX, dataL, plain, plainC, plainL, lk, one, vv, one1, isNil, binV, unV, cvV, load1, store1, fieldOf, cellsOf, cellsAt, asVal, shift, partOf, dataC, elemsC, app1, cop1, len1, mslice1, bslice1, rowsA, build1, fillA, idx1, index1, slice1, optInt, addrAt, cutC, putAt, allD, dv, spl, boolV, Option.map_some, Option.bind_some, Option.map_none, Option.bind_none, ↓reduceIte, Bool.not_true, Bool.not_false, Bool.false_eq_true, and_true, true_and, Option.some.injEq, List.length_map, Nat.reduceEqDiff, Nat.reduceLeDiff, Nat.reduceAdd, Int.reduceLT, Int.reduceLE, Int.reduceToNat, Int.toNat_natCast, List.length_cons, List.length_nil, List.take_succ_cons, List.take_zero, List.drop_zero, List.map_cons, List.map_nil, Nat.zero_add, Nat.le_refl, List.getD_cons_zero, List.getD_cons_succ, bt4, ti3, ti23, ti34, getD_num, ite_and, ite_le, ite_lt, ite_eq, ite_lei, ite_lti, ite_nei, IntWalk.i64_in, ti22, tdiv8, tmod8, takeAll, takeDropAll, toNatAdd, toNatSub, toNatPred, decLtF, decLeF, decLtT, hRl]; first | rfl | done); (exact h16 i (by omega)); simp (disch := omega) only [List.length_replicate, List.length_map, Nat.reduceBEq, Bool.not_false, Bool.not_true, ↓reduceIte, Bool.false_eq_true, BEq.rfl, put1, skip1, frOf, know, vv, one, del, decide_true, decide_false, List.filter_cons, List.filter_nil, List.nil_append, List.cons_append, Nat.reduceAdd, Nat.add_zero, decLtF, decLeF, decLtT, hRl]; simp only [callHp, frz, rB, rN, rO, unV', unX, unXs, unC, List.flatMap_cons, List.flatMap_nil, idsX, idsC, List.append_nil, ↓reduceIte, List.nil_append, List.cons_append, lk, Nat.reduceEqDiff, Nat.reduceAdd, List.length_map, List.length_cons, List.length_nil])
    | (refine RegA.off rfl rfl ?_; simp (disch := omega) only [List.length_replicate, List.length_map, Nat.reduceBEq, Bool.not_false, Bool.not_true, ↓reduceIte, Bool.false_eq_true, BEq.rfl, put1, skip1, frOf, know, vv, one, del, decide_true, decide_false, List.filter_cons, List.filter_nil, List.nil_append, List.cons_append, Nat.reduceAdd, Nat.add_zero, decLtF, decLeF, decLtT, hRl])
    | (refine RegA.split rfl ?_ ?_ <;> (intro hsp; (try simp only [Bool.not_eq_true', Bool.not_eq_false', decide_eq_true_eq, decide_eq_false_iff_not, Decidable.not_not, Int.not_lt, Int.not_le, Int.natCast_inj, Bool.and_eq_true, Bool.or_eq_true, Bool.not_not, ne_eq] at hsp); simp (disch := omega) only [List.length_replicate, List.length_map, Nat.reduceBEq, Bool.not_false, Bool.not_true, ↓reduceIte, Bool.false_eq_true, BEq.rfl, put1, skip1, frOf, know, vv, one, del, decide_true, decide_false, List.filter_cons, List.filter_nil, List.nil_append, List.cons_append, Nat.reduceAdd, Nat.add_zero, decLtF, decLeF, decLtT, hRl]))
    | (apply DrawA.op' (hd := rfl); (simp only [List.length_cons, List.length_nil, Nat.reduceMul, Nat.reduceAdd]; rfl); (simp only [Bool.not_false, Bool.not_true, Eng.mk, Eng.put1, Eng.skip1, frOf, vv, one, del, List.filter_cons, List.filter_nil, List.nil_append, List.cons_append, Nat.reduceAdd, Nat.reduceMul, Nat.add_zero, List.length_nil, List.length_cons, List.getD_cons_zero, List.getD_cons_succ, List.contains_cons, List.contains_nil, Nat.reduceBEq, BEq.rfl, Bool.or_false, Bool.false_or, Bool.or_true, Bool.true_or, Bool.false_eq_true, ↓reduceIte, if_false, if_true, allIn, List.range, List.range.loop]; rfl); (first | exact trivial | rfl | exact congrArg some ‹_› | (simp (disch := omega) only [boolV, lk, ↓reduceIte, Nat.reduceEqDiff, decide_true, decide_false]; done)); (simp (disch := omega) only [binX, List.replicate_succ, List.set_cons_zero, List.set_cons_succ, List.drop_replicate, Nat.sub_self, List.length_replicate, true_or, or_true, or_false, List.replicate_zero, List.nil_append, List.append_nil, maxLen, List.length_append, List.length_take, List.length_drop, Nat.min_self, List.take_length, Option.getD_some, Option.getD_none, Option.isSome_some, Option.isSome_none, forall_const, Bool.false_eq_true, false_implies, imp_self, implies_true, decide_true, decide_false, dropMap, takeMap, effect, callEff, evO, evP, evL, argL, argX, dataL, plain, plainC, plainL, lk, one, vv, one1, isNil, binV, unV, cvV, load1, store1, fieldOf, cellsOf, cellsAt, asVal, shift, partOf, dataC, elemsC, app1, cop1, len1, mslice1, bslice1, rowsA, build1, fillA, idx1, index1, slice1, optInt, addrAt, cutC, putAt, allD, dv, spl, boolV, Option.map_some, Option.bind_some, Option.map_none, Option.bind_none, ↓reduceIte, Bool.not_true, Bool.not_false, Bool.false_eq_true, and_true, true_and, Option.some.injEq, List.length_map, Nat.reduceEqDiff, Nat.reduceLeDiff, Nat.reduceAdd, Int.reduceLT, Int.reduceLE, Int.reduceToNat, Int.toNat_natCast, List.length_cons, List.length_nil, List.take_succ_cons, List.take_zero, List.drop_zero, List.map_cons, List.map_nil, Nat.zero_add, Nat.le_refl, List.getD_cons_zero, List.getD_cons_succ, bt4, ti3, ti23, ti34, getD_num, ite_and, ite_le, ite_lt, ite_eq, ite_lei, ite_lti, ite_nei, IntWalk.i64_in, ti22, tdiv8, tmod8, takeAll, takeDropAll, toNatAdd, toNatSub, toNatPred, decLtF, decLeF, decLtT, hRl]; first | rfl | done); rfl; rfl; simp only [List.nil_append, List.cons_append])
    | (apply DrawA.call' (hd := rfl); (simp only [List.length_cons, List.length_nil, Nat.reduceMul, Nat.reduceAdd]; rfl); (simp only [Bool.not_false, Bool.not_true, Eng.mk, Eng.put1, Eng.skip1, frOf, vv, one, del, List.filter_cons, List.filter_nil, List.nil_append, List.cons_append, Nat.reduceAdd, Nat.reduceMul, Nat.add_zero, List.length_nil, List.length_cons, List.getD_cons_zero, List.getD_cons_succ, List.contains_cons, List.contains_nil, Nat.reduceBEq, BEq.rfl, Bool.or_false, Bool.false_or, Bool.or_true, Bool.true_or, Bool.false_eq_true, ↓reduceIte, if_false, if_true, allIn, List.range, List.range.loop]; rfl); (first | exact trivial | rfl | exact congrArg some ‹_›); (simp (disch := omega) only [binX, List.replicate_succ, List.set_cons_zero, List.set_cons_succ, List.drop_replicate, Nat.sub_self, List.length_replicate, true_or, or_true, or_false, List.replicate_zero, List.nil_append, List.append_nil, maxLen, List.length_append, List.length_take, List.length_drop, Nat.min_self, List.take_length, Option.getD_some, Option.getD_none, Option.isSome_some, Option.isSome_none, forall_const, Bool.false_eq_true, false_implies, imp_self, implies_true, decide_true, decide_false, dropMap, takeMap, effect, callEff, evO, evP, evL, argL, argX, dataL, plain, plainC, plainL, lk, one, vv, one1, isNil, binV, unV, cvV, load1, store1, fieldOf, cellsOf, cellsAt, asVal, shift, partOf, dataC, elemsC, app1, cop1, len1, mslice1, bslice1, rowsA, build1, fillA, idx1, index1, slice1, optInt, addrAt, cutC, putAt, allD, dv, spl, boolV, Option.map_some, Option.bind_some, Option.map_none, Option.bind_none, ↓reduceIte, Bool.not_true, Bool.not_false, Bool.false_eq_true, and_true, true_and, Option.some.injEq, List.length_map, Nat.reduceEqDiff, Nat.reduceLeDiff, Nat.reduceAdd, Int.reduceLT, Int.reduceLE, Int.reduceToNat, Int.toNat_natCast, List.length_cons, List.length_nil, List.take_succ_cons, List.take_zero, List.drop_zero, List.map_cons, List.map_nil, Nat.zero_add, Nat.le_refl, List.getD_cons_zero, List.getD_cons_succ, bt4, ti3, ti23, ti34, getD_num, ite_and, ite_le, ite_lt, ite_eq, ite_lei, ite_lti, ite_nei, IntWalk.i64_in, ti22, tdiv8, tmod8, takeAll, takeDropAll, toNatAdd, toNatSub, toNatPred, decLtF, decLeF, decLtT, hRl]; first | rfl | done); (simp (disch := omega) only [binX, List.replicate_succ, List.set_cons_zero, List.set_cons_succ, List.drop_replicate, Nat.sub_self, List.length_replicate, true_or, or_true, or_false, List.replicate_zero, List.nil_append, List.append_nil, maxLen, List.length_append, List.length_take, List.length_drop, Nat.min_self, List.take_length, Option.getD_some, Option.getD_none, Option.isSome_some, Option.isSome_none, forall_const, Bool.false_eq_true, false_implies, imp_self, implies_true, decide_true, decide_false, dropMap, takeMap, effect, callEff, evO, evP, evL, argL, argX, dataL, plain, plainC, plainL, lk, one, vv, one1, isNil, binV, unV, cvV, load1, store1, fieldOf, cellsOf, cellsAt, asVal, shift, partOf, dataC, elemsC, app1, cop1, len1, mslice1, bslice1, rowsA, build1, fillA, idx1, index1, slice1, optInt, addrAt, cutC, putAt, allD, dv, spl, boolV, Option.map_some, Option.bind_some, Option.map_none, Option.bind_none, ↓reduceIte, Bool.not_true, Bool.not_false, Bool.false_eq_true, and_true, true_and, Option.some.injEq, List.length_map, Nat.reduceEqDiff, Nat.reduceLeDiff, Nat.reduceAdd, Int.reduceLT, Int.reduceLE, Int.reduceToNat, Int.toNat_natCast, List.length_cons, List.length_nil, List.take_succ_cons, List.take_zero, List.drop_zero, List.map_cons, List.map_nil, Nat.zero_add, Nat.le_refl, List.getD_cons_zero, List.getD_cons_succ, bt4, ti3, ti23, ti34, getD_num, ite_and, ite_le, ite_lt, ite_eq, ite_lei, ite_lti, ite_nei, IntWalk.i64_in, ti22, tdiv8, tmod8, takeAll, takeDropAll, toNatAdd, toNatSub, toNatPred, decLtF, decLeF, decLtT, hRl]; first | rfl | done); (exact h12 i (by omega)); (exact (.inr (flat2 _ _ _ _))); rfl; rfl; simp (disch := omega) only [rB, rN, rO, unV', unX, unXs, unC, List.append_nil, List.nil_append, List.cons_append, Nat.reduceAdd, Nat.reduceSub, List.length_map, decLtF, decLeF, decLtT, hRl])
    | (apply DrawA.off' (hd := rfl); (simp only [Bool.not_false, Bool.not_true, Eng.mk, Eng.put1, Eng.skip1, frOf, vv, one, del, List.filter_cons, List.filter_nil, List.nil_append, List.cons_append, Nat.reduceAdd, Nat.reduceMul, Nat.add_zero, List.length_nil, List.length_cons, List.getD_cons_zero, List.getD_cons_succ, List.contains_cons, List.contains_nil, Nat.reduceBEq, BEq.rfl, Bool.or_false, Bool.false_or, Bool.or_true, Bool.true_or, Bool.false_eq_true, ↓reduceIte, if_false, if_true, allIn, List.range, List.range.loop]; rfl); (first | rfl | (simp (disch := omega) only [boolV, lk, ↓reduceIte, Nat.reduceEqDiff, Bool.not_true, Bool.not_false, decide_true, decide_false, bt4, ti3, ti23, ti34, getD_num, ite_and, ite_le, ite_lt, ite_eq, ite_lei, ite_lti, ite_nei, IntWalk.i64_in, ti22, tdiv8, tmod8, takeAll, takeDropAll, toNatAdd, toNatSub, toNatPred, decLtF, decLeF, decLtT, hRl]; done)); simp only [List.nil_append, List.cons_append])
    | (apply DrawA.nil'; (simp only [List.length_cons, List.length_nil, Nat.reduceMul, Nat.reduceAdd]; rfl); (simp only [Bool.not_false, Bool.not_true, mkAll, Eng.put1, Eng.skip1, frOf, vv, one, del, List.filter_cons, List.filter_nil, List.nil_append, List.cons_append, Nat.reduceAdd, Nat.reduceMul, Nat.add_zero, List.length_nil, List.length_cons, List.getD_cons_zero, List.getD_cons_succ, List.contains_cons, List.contains_nil, Nat.reduceBEq, BEq.rfl, Bool.or_false, Bool.false_or, Bool.or_true, Bool.true_or, Bool.false_eq_true, ↓reduceIte, if_false, if_true, allIn, List.range, List.range.loop]; rfl); assumption)
    | (refine RegA.done ‹_› ?_)
    | (refine awp_seq fun K hK => ?_)
    | (refine Awp.reg ?_)
    | (refine Awp.draw' (A := [[], [], [0, 1], [2, 0, 1], [3, 2, 0, 1], [4, 3, 2, 0, 1], [5, 4, 3, 2, 0, 1], [5, 4, 3, 2, 0, 1], [6, 7, 5, 4, 3, 2, 0, 1], [8, 5, 6, 7, 4, 3, 2, 0, 1], [5, 4, 3, 2, 0, 1], [10, 5, 4, 3, 2, 0, 1], [9, 11, 5, 8, 6, 7, 4, 3, 2, 0, 1, 10], [5, 12, 4, 3, 2, 0, 1, 9, 11, 8, 6, 7, 10], [13, 5, 12, 4, 3, 2, 0, 1, 9, 11, 8, 6, 7, 10], [14, 13, 5, 12, 4, 3, 2, 0, 1, 9, 11, 8, 6, 7, 10], [15, 14, 13, 5, 12, 4, 3, 2, 0, 1, 9, 11, 8, 6, 7, 10], [16, 14, 15, 13, 5, 12, 4, 3, 2, 0, 1, 9, 11, 8, 6, 7, 10], [17, 16, 14, 15, 13, 5, 12, 4, 3, 2, 0, 1, 9, 11, 8, 6, 7, 10], [17, 16, 14, 15, 13, 5, 12, 4, 3, 2, 0, 1, 9, 11, 8, 6, 7, 10], [19, 17, 16, 14, 15, 13, 5, 12, 4, 3, 2, 0, 1, 9, 11, 8, 6, 7, 10], [18, 20, 17, 16, 14, 15, 13, 5, 12, 4, 3, 2, 0, 1, 9, 11, 8, 6, 7, 10, 19], [21, 17, 18, 20, 16, 14, 15, 13, 5, 12, 4, 3, 2, 0, 1, 9, 11, 8, 6, 7, 10, 19], [17, 16, 14, 15, 13, 5, 12, 4, 3, 2, 0, 1, 9, 11, 8, 6, 7, 10], [17, 16, 14, 15, 13, 5, 12, 4, 3, 2, 0, 1, 9, 11, 8, 6, 7, 10], [23, 24, 17, 16, 14, 15, 13, 5, 12, 4, 3, 2, 0, 1, 9, 11, 8, 6, 7, 10], [25, 17, 23, 24, 16, 14, 15, 13, 5, 12, 4, 3, 2, 0, 1, 9, 11, 8, 6, 7, 10], [22, 26, 17, 21, 18, 20, 16, 14, 15, 13, 5, 12, 4, 3, 2, 0, 1, 9, 11, 8, 6, 7, 10, 19, 25, 23, 24], [17, 27, 14, 16, 15, 13, 5, 12, 4, 3, 2, 0, 1, 9, 11, 8, 6, 7, 10, 22, 26, 21, 18, 20, 19, 25, 23, 24], [14, 28, 13, 5, 12, 4, 3, 2, 0, 1, 9, 11, 8, 6, 7, 10, 17, 27, 16, 15, 22, 26, 21, 18, 20, 19, 25, 23, 24]]) rfl rfl rfl ?_)
    | (refine Awp.draw' (A := [[], [], [], [1, 2], [3, 1, 2], [], [], [], [6, 7], [8, 6, 7], [], [], [10, 11], [12, 10, 11], [13, 12, 10, 11], [5, 9, 14, 8, 6, 7, 13, 12, 10, 11], [0, 4, 15, 3, 1, 2, 5, 9, 14, 8, 6, 7, 13, 12, 10, 11], [16, 0, 4, 15, 3, 1, 2, 5, 9, 14, 8, 6, 7, 13, 12, 10, 11], [17, 16, 0, 4, 15, 3, 1, 2, 5, 9, 14, 8, 6, 7, 13, 12, 10, 11], [17, 16, 0, 4, 15, 3, 1, 2, 5, 9, 14, 8, 6, 7, 13, 12, 10, 11], [18, 16, 0, 1, 2, 3, 4, 5, 6, 7, 8, 9, 10, 11, 12, 13, 14, 15, 17], [19, 20, 0, 1, 2, 3, 4, 5, 6, 7, 8, 9, 10, 11, 12, 13, 14, 15, 16, 17, 18]]) rfl rfl rfl ?_)
    | (refine Awp.skip ?_)
    | (refine Awp.block ?_)
    | (refine Awp.scope ?_)
    | (refine Awp.ct rfl ?_)
    | (refine Awp.cf rfl ?_)
    | (refine Awp.ct (congrArg some (congrArg Value.bool ?_)) ?_; focus (simp (disch := omega) only [decide_eq_true_eq, decide_eq_false_iff_not, Bool.not_eq_true', Bool.not_eq_false', decide_true, decide_false, Bool.not_true, Bool.not_false, bt4, ti3, ti23, ti34, getD_num, ite_and, ite_le, ite_lt, ite_eq, ite_lei, ite_lti, ite_nei, IntWalk.i64_in, ti22, tdiv8, tmod8, takeAll, takeDropAll, toNatAdd, toNatSub, toNatPred, decLtF, decLeF, decLtT, hRl]; done))
    | (refine Awp.cf (congrArg some (congrArg Value.bool ?_)) ?_; focus (simp (disch := omega) only [decide_eq_true_eq, decide_eq_false_iff_not, Bool.not_eq_true', Bool.not_eq_false', decide_true, decide_false, Bool.not_true, Bool.not_false, bt4, ti3, ti23, ti34, getD_num, ite_and, ite_le, ite_lt, ite_eq, ite_lei, ite_lti, ite_nei, IntWalk.i64_in, ti22, tdiv8, tmod8, takeAll, takeDropAll, toNatAdd, toNatSub, toNatPred, decLtF, decLeF, decLtT, hRl]; done))
    | (refine Awp.cond rfl ?_ ?_ <;> (intro hsp; (try simp only [Bool.not_eq_true', Bool.not_eq_false', decide_eq_true_eq, decide_eq_false_iff_not, Decidable.not_not, Int.not_lt, Int.not_le, Int.natCast_inj, Bool.and_eq_true, Bool.or_eq_true, Bool.not_not, ne_eq] at hsp)))
    | (refine Awp.exit ?_; simp only [blockQ, thenQ, scopeQ, ↓reduceIte, Nat.reduceEqDiff])
    | (refine viaK ‹_› ?_)
    | (simp only [thenQ_normal, blockQ_normal])))
        · refine RegA.nil ⟨⟨i + 1, by omega⟩, [(0, 0), (1, 738)], ?_, ?_⟩
          · simp only [Wk, frIn, hpIn, lk, renV, renX, renC, belV, belX, belC, belL, ↓reduceIte, Nat.reduceEqDiff, and_self, and_true, true_and]; simp [vv, one, renV, renX, renC, belV, belX, belC, rho, renO, belO, lk]
          · simp only []; omega
        · (refine Awp.ret ?_; apply ret_of (.inl rfl); rfl; (simp (disch := omega) only [outXs, outX, outC, outL, lk, ↓reduceIte, Nat.reduceEqDiff, List.length_map, List.length_nil, List.length_replicate, List.length_cons, List.length_take, List.length_drop, List.length_append, ite_eq, Option.map_some, Bool.false_eq_true]; rfl); (focus simp [ownsX, ownsC]); simp [laxR, laxX, laxC, rB, rN, rO, *] <;> (intros; omega))
      · (repeat' (first
    | (apply RegA.op (hd := rfl); (first | exact trivial | rfl | exact congrArg some ‹_› | (simp (disch := omega) only [boolV, lk, ↓reduceIte, Nat.reduceEqDiff, decide_true, decide_false]; done)); (simp (disch := omega) only [binX, List.replicate_succ, List.set_cons_zero, List.set_cons_succ, List.drop_replicate, Nat.sub_self, List.length_replicate, true_or, or_true, or_false, List.replicate_zero, List.nil_append, List.append_nil, maxLen, List.length_append, List.length_take, List.length_drop, Nat.min_self, List.take_length, Option.getD_some, Option.getD_none, Option.isSome_some, Option.isSome_none, forall_const, Bool.false_eq_true, false_implies, imp_self, implies_true, decide_true, decide_false, dropMap, takeMap, effect, callEff, evO, evP, evL, argL, argX, dataL, plain, plainC, plainL, lk, one, vv, one1, isNil, binV, unV, cvV, load1, store1, fieldOf, cellsOf, cellsAt, asVal, shift, partOf, dataC, elemsC, app1, cop1, len1, mslice1, bslice1, rowsA, build1, fillA, idx1, index1, slice1, optInt, addrAt, cutC, putAt, allD, dv, spl, boolV, Option.map_some, Option.bind_some, Option.map_none, Option.bind_none, ↓reduceIte, Bool.not_true, Bool.not_false, Bool.false_eq_true, and_true, true_and, Option.some.injEq, List.length_map, Nat.reduceEqDiff, Nat.reduceLeDiff, Nat.reduceAdd, Int.reduceLT, Int.reduceLE, Int.reduceToNat, Int.toNat_natCast, List.length_cons, List.length_nil, List.take_succ_cons, List.take_zero, List.drop_zero, List.map_cons, List.map_nil, Nat.zero_add, Nat.le_refl, List.getD_cons_zero, List.getD_cons_succ, bt4, ti3, ti23, ti34, getD_num, ite_and, ite_le, ite_lt, ite_eq, ite_lei, ite_lti, ite_nei, IntWalk.i64_in, ti22, tdiv8, tmod8, takeAll, takeDropAll, toNatAdd, toNatSub, toNatPred, decLtF, decLeF, decLtT, hRl]; first | rfl | done); simp (disch := omega) only [List.length_replicate, List.length_map, Nat.reduceBEq, Bool.not_false, Bool.not_true, ↓reduceIte, Bool.false_eq_true, BEq.rfl, put1, skip1, frOf, know, vv, one, del, decide_true, decide_false, List.filter_cons, List.filter_nil, List.nil_append, List.cons_append, Nat.reduceAdd, Nat.add_zero, decLtF, decLeF, decLtT, hRl])
    | (apply RegA.call (hd := rfl) (fz := true) (hfz := .inl rfl); (first | exact trivial | rfl | exact congrArg some ‹_› | (simp (disch := omega) only [boolV, lk, ↓reduceIte, Nat.reduceEqDiff, decide_true, decide_false]; done)); (simp (disch := omega) only [binX, List.replicate_succ, List.set_cons_zero, List.set_cons_succ, List.drop_replicate, Nat.sub_self, List.length_replicate, true_or, or_true, or_false, List.replicate_zero, List.nil_append, List.append_nil, maxLen, List.length_append, List.length_take, List.length_drop, Nat.min_self, List.take_length, Option.getD_some, Option.getD_none, Option.isSome_some, Option.isSome_none, forall_const, Bool.false_eq_true, false_implies, imp_self, implies_true, decide_true, decide_false, dropMap, takeMap, effect, callEff, evO, evP, evL, argL, argX, dataL, plain, plainC, plainL, lk, one, vv, one1, isNil, binV, unV, cvV, load1, store1, fieldOf, cellsOf, cellsAt, asVal, shift, partOf, dataC, elemsC, app1, cop1, len1, mslice1, bslice1, rowsA, build1, fillA, idx1, index1, slice1, optInt, addrAt, cutC, putAt, allD, dv, spl, boolV, Option.map_some, Option.bind_some, Option.map_none, Option.bind_none, ↓reduceIte, Bool.not_true, Bool.not_false, Bool.false_eq_true, and_true, true_and, Option.some.injEq, List.length_map, Nat.reduceEqDiff, Nat.reduceLeDiff, Nat.reduceAdd, Int.reduceLT, Int.reduceLE, Int.reduceToNat, Int.toNat_natCast, List.length_cons, List.length_nil, List.take_succ_cons, List.take_zero, List.drop_zero, List.map_cons, List.map_nil, Nat.zero_add, Nat.le_refl, List.getD_cons_zero, List.getD_cons_succ, bt4, ti3, ti23, ti34, getD_num, ite_and, ite_le, ite_lt, ite_eq, ite_lei, ite_lti, ite_nei, IntWalk.i64_in, ti22, tdiv8, tmod8, takeAll, takeDropAll, toNatAdd, toNatSub, toNatPred, decLtF, decLeF, decLtT, hRl]; first | rfl | done); (simp (disch := omega) only [binX, List.replicate_succ, List.set_cons_zero, List.set_cons_succ, List.drop_replicate, Nat.sub_self, List.length_replicate, true_or, or_true, or_false, List.replicate_zero, List.nil_append, List.append_nil, maxLen, List.length_append, List.length_take, List.length_drop, Nat.min_self, List.take_length, Option.getD_some, Option.getD_none, Option.isSome_some, Option.isSome_none, forall_const, Bool.false_eq_true, false_implies, imp_self, implies_true, decide_true, decide_false, dropMap, takeMap, effect, callEff, evO, evP, evL, argL, argX, dataL, plain, plainC, plainL, lk, one, vv, one1, isNil, binV, unV, cvV, load1, store1, fieldOf, cellsOf, cellsAt, asVal, shift, partOf, dataC, elemsC, app1, cop1, len1, mslice1, bslice1, rowsA, build1, fillA, idx1, index1, slice1, optInt, addrAt, cutC, putAt, allD, dv, spl, boolV, Option.map_some, Option.bind_some, Option.map_none, Option.bind_none, ↓reduceIte, Bool.not_true, Bool.not_false, Bool.false_eq_true, and_true, true_and, Option.some.injEq, List.length_map, Nat.reduceEqDiff, Nat.reduceLeDiff, Nat.reduceAdd, Int.reduceLT, Int.reduceLE, Int.reduceToNat, Int.toNat_natCast, List.length_cons, List.length_nil, List.take_succ_cons, List.take_zero, List.drop_zero, List.map_cons, List.map_nil, Nat.zero_add, Nat.le_refl, List.getD_cons_zero, List.getD_cons_succ, bt4, ti3, ti23, ti34, getD_num, ite_and, ite_le, ite_lt, ite_eq, ite_lei, ite_lti, ite_nei, IntWalk.i64_in, ti22, tdiv8, tmod8, takeAll, takeDropAll, toNatAdd, toNatSub, toNatPred, decLtF, decLeF, decLtT, hRl]; first | rfl | done); (exact con17); simp (disch := omega) only [List.length_replicate, List.length_map, Nat.reduceBEq, Bool.not_false, Bool.not_true, ↓reduceIte, Bool.false_eq_true, BEq.rfl, put1, skip1, frOf, know, vv, one, del, decide_true, decide_false, List.filter_cons, List.filter_nil, List.nil_append, List.cons_append, Nat.reduceAdd, Nat.add_zero, decLtF, decLeF, decLtT, hRl]; simp only [callHp, frz, rB, rN, rO, unV', unX, unXs, unC, List.flatMap_cons, List.flatMap_nil, idsX, idsC, List.append_nil, ↓reduceIte, List.nil_append, List.cons_append, lk, Nat.reduceEqDiff, Nat.reduceAdd, List.length_map, List.length_cons, List.length_nil])
    | (apply RegA.call (hd := rfl) (fz := true) (hfz := .inl rfl); (first | exact trivial | rfl | exact congrArg some ‹_› | (simp (disch := omega) only [boolV, lk, ↓reduceIte, Nat.reduceEqDiff, decide_true, decide_false]; done)); (simp (disch := omega) only [binX, List.replicate_succ, List.set_cons_zero, List.set_cons_succ, List.drop_replicate, Nat.sub_self, List.length_replicate, true_or, or_true, or_false, List.replicate_zero, List.nil_append, List.append_nil, maxLen, List.length_append, List.length_take, List.length_drop, Nat.min_self, List.take_length, Option.getD_some, Option.getD_none, Option.isSome_some, Option.isSome_none, forall_const, Bool.false_eq_true, false_implies, imp_self, implies_true, decide_true, decide_false, dropMap, takeMap, effect, callEff, evO, evP, evL, argL, argX, dataL, plain, plainC, plainL, lk, one, vv, one1, isNil, binV, unV, cvV, load1, store1, fieldOf, cellsOf, cellsAt, asVal, shift, partOf, dataC, elemsC, app1, cop1, len1, mslice1, bslice1, rowsA, build1, fillA, idx1, index1, slice1, optInt, addrAt, cutC, putAt, allD, dv, spl, boolV, Option.map_some, Option.bind_some, Option.map_none, Option.bind_none, ↓reduceIte, Bool.not_true, Bool.not_false, Bool.false_eq_true, and_true, true_and, Option.some.injEq, List.length_map, Nat.reduceEqDiff, Nat.reduceLeDiff, Nat.reduceAdd, Int.reduceLT, Int.reduceLE, Int.reduceToNat, Int.toNat_natCast, List.length_cons, List.length_nil, List.take_succ_cons, List.take_zero, List.drop_zero, List.map_cons, List.map_nil, Nat.zero_add, Nat.le_refl, List.getD_cons_zero, List.getD_cons_succ, bt4, ti3, ti23, ti34, getD_num, ite_and, ite_le, ite_lt, ite_eq, ite_lei, ite_lti, ite_nei, IntWalk.i64_in, ti22, tdiv8, tmod8, takeAll, takeDropAll, toNatAdd, toNatSub, toNatPred, decLtF, decLeF, decLtT, hRl]; first | rfl | done); (simp (disch := omega) only [binX, List.replicate_succ, List.set_cons_zero, List.set_cons_succ, List.drop_replicate, Nat.sub_self, List.length_replicate, true_or, or_true, or_false, List.replicate_zero, List.nil_append, List.append_nil, maxLen, List.length_append, List.length_take, List.length_drop, Nat.min_self, List.take_length, Option.getD_some, Option.getD_none, Option.isSome_some, Option.isSome_none, forall_const, Bool.false_eq_true, false_implies, imp_self, implies_true, decide_true, decide_false, dropMap, takeMap, effect, callEff, evO, evP, evL, argL, argX, dataL, plain, plainC, plainL, lk, one, vv, one1, isNil, binV, unV, cvV, load1, store1, fieldOf, cellsOf, cellsAt, asVal, shift, partOf, dataC, elemsC, app1, cop1, len1, mslice1, bslice1, rowsA, build1, fillA, idx1, index1, slice1, optInt, addrAt, cutC, putAt, allD, dv, spl, boolV, Option.map_some, Option.bind_some, Option.map_none, Option.bind_none, ↓reduceIte, Bool.not_true, Bool.not_false, Bool.false_eq_true, and_true, true_and, Option.some.injEq, List.length_map, Nat.reduceEqDiff, Nat.reduceLeDiff, Nat.reduceAdd, Int.reduceLT, Int.reduceLE, Int.reduceToNat, Int.toNat_natCast, List.length_cons, List.length_nil, List.take_succ_cons, List.take_zero, List.drop_zero, List.map_cons, List.map_nil, Nat.zero_add, Nat.le_refl, List.getD_cons_zero, List.getD_cons_succ, bt4, ti3, ti23, ti34, getD_num, ite_and, ite_le, ite_lt, ite_eq, ite_lei, ite_lti, ite_nei, IntWalk.i64_in, ti22, tdiv8, tmod8, takeAll, takeDropAll, toNatAdd, toNatSub, toNatPred, decLtF, decLeF, decLtT, hRl]; first | rfl | done); (exact h16 i (by omega)); simp (disch := omega) only [List.length_replicate, List.length_map, Nat.reduceBEq, Bool.not_false, Bool.not_true, ↓reduceIte, Bool.false_eq_true, BEq.rfl, put1, skip1, frOf, know, vv, one, del, decide_true, decide_false, List.filter_cons, List.filter_nil, List.nil_append, List.cons_append, Nat.reduceAdd, Nat.add_zero, decLtF, decLeF, decLtT, hRl]; simp only [callHp, frz, rB, rN, rO, unV', unX, unXs, unC, List.flatMap_cons, List.flatMap_nil, idsX, idsC, List.append_nil, ↓reduceIte, List.nil_append, List.cons_append, lk, Nat.reduceEqDiff, Nat.reduceAdd, List.length_map, List.length_cons, List.length_nil])
    | (refine RegA.off rfl rfl ?_; simp (disch := omega) only [List.length_replicate, List.length_map, Nat.reduceBEq, Bool.not_false, Bool.not_true, ↓reduceIte, Bool.false_eq_true, BEq.rfl, put1, skip1, frOf, know, vv, one, del, decide_true, decide_false, List.filter_cons, List.filter_nil, List.nil_append, List.cons_append, Nat.reduceAdd, Nat.add_zero, decLtF, decLeF, decLtT, hRl])
    | (refine RegA.split rfl ?_ ?_ <;> (intro hsp; (try simp only [Bool.not_eq_true', Bool.not_eq_false', decide_eq_true_eq, decide_eq_false_iff_not, Decidable.not_not, Int.not_lt, Int.not_le, Int.natCast_inj, Bool.and_eq_true, Bool.or_eq_true, Bool.not_not, ne_eq] at hsp); simp (disch := omega) only [List.length_replicate, List.length_map, Nat.reduceBEq, Bool.not_false, Bool.not_true, ↓reduceIte, Bool.false_eq_true, BEq.rfl, put1, skip1, frOf, know, vv, one, del, decide_true, decide_false, List.filter_cons, List.filter_nil, List.nil_append, List.cons_append, Nat.reduceAdd, Nat.add_zero, decLtF, decLeF, decLtT, hRl]))
    | (apply DrawA.op' (hd := rfl); (simp only [List.length_cons, List.length_nil, Nat.reduceMul, Nat.reduceAdd]; rfl); (simp only [Bool.not_false, Bool.not_true, Eng.mk, Eng.put1, Eng.skip1, frOf, vv, one, del, List.filter_cons, List.filter_nil, List.nil_append, List.cons_append, Nat.reduceAdd, Nat.reduceMul, Nat.add_zero, List.length_nil, List.length_cons, List.getD_cons_zero, List.getD_cons_succ, List.contains_cons, List.contains_nil, Nat.reduceBEq, BEq.rfl, Bool.or_false, Bool.false_or, Bool.or_true, Bool.true_or, Bool.false_eq_true, ↓reduceIte, if_false, if_true, allIn, List.range, List.range.loop]; rfl); (first | exact trivial | rfl | exact congrArg some ‹_› | (simp (disch := omega) only [boolV, lk, ↓reduceIte, Nat.reduceEqDiff, decide_true, decide_false]; done)); (simp (disch := omega) only [binX, List.replicate_succ, List.set_cons_zero, List.set_cons_succ, List.drop_replicate, Nat.sub_self, List.length_replicate, true_or, or_true, or_false, List.replicate_zero, List.nil_append, List.append_nil, maxLen, List.length_append, List.length_take, List.length_drop, Nat.min_self, List.take_length, Option.getD_some, Option.getD_none, Option.isSome_some, Option.isSome_none, forall_const, Bool.false_eq_true, false_implies, imp_self, implies_true, decide_true, decide_false, dropMap, takeMap, effect, callEff, evO, evP, evL, argL, argX, dataL, plain, plainC, plainL, lk, one, vv, one1, isNil, binV, unV, cvV, load1, store1, fieldOf, cellsOf, cellsAt, asVal, shift, partOf, dataC, elemsC, app1, cop1, len1, mslice1, bslice1, rowsA, build1, fillA, idx1, index1, slice1, optInt, addrAt, cutC, putAt, allD, dv, spl, boolV, Option.map_some, Option.bind_some, Option.map_none, Option.bind_none, ↓reduceIte, Bool.not_true, Bool.not_false, Bool.false_eq_true, and_true, true_and, Option.some.injEq, List.length_map, Nat.reduceEqDiff, Nat.reduceLeDiff, Nat.reduceAdd, Int.reduceLT, Int.reduceLE, Int.reduceToNat, Int.toNat_natCast, List.length_cons, List.length_nil, List.take_succ_cons, List.take_zero, List.drop_zero, List.map_cons, List.map_nil, Nat.zero_add, Nat.le_refl, List.getD_cons_zero, List.getD_cons_succ, bt4, ti3, ti23, ti34, getD_num, ite_and, ite_le, ite_lt, ite_eq, ite_lei, ite_lti, ite_nei, IntWalk.i64_in, ti22, tdiv8, tmod8, takeAll, takeDropAll, toNatAdd, toNatSub, toNatPred, decLtF, decLeF, decLtT, hRl]; first | rfl | done); rfl; rfl; simp only [List.nil_append, List.cons_append])
    | (apply DrawA.call' (hd := rfl); (simp only [List.length_cons, List.length_nil, Nat.reduceMul, Nat.reduceAdd]; rfl); (simp only [Bool.not_false, Bool.not_true, Eng.mk, Eng.put1, Eng.skip1, frOf, vv, one, del, List.filter_cons, List.filter_nil, List.nil_append, List.cons_append, Nat.reduceAdd, Nat.reduceMul, Nat.add_zero, List.length_nil, List.length_cons, List.getD_cons_zero, List.getD_cons_succ, List.contains_cons, List.contains_nil, Nat.reduceBEq, BEq.rfl, Bool.or_false, Bool.false_or, Bool.or_true, Bool.true_or, Bool.false_eq_true, ↓reduceIte, if_false, if_true, allIn, List.range, List.range.loop]; rfl); (first | exact trivial | rfl | exact congrArg some ‹_›); (simp (disch := omega) only [binX, List.replicate_succ, List.set_cons_zero, List.set_cons_succ, List.drop_replicate, Nat.sub_self, List.length_replicate, true_or, or_true, or_false, List.replicate_zero, List.nil_append, List.append_nil, maxLen, List.length_append, List.length_take, List.length_drop, Nat.min_self, List.take_length, Option.getD_some, Option.getD_none, Option.isSome_some, Option.isSome_none, forall_const, Bool.false_eq_true, false_implies, imp_self, implies_true, decide_true, decide_false, dropMap, takeMap, effect, callEff, evO, evP, evL, argL, argX, dataL, plain, plainC, plainL, lk, one, vv, one1, isNil, binV, unV, cvV, load1, store1, fieldOf, cellsOf, cellsAt, asVal, shift, partOf, dataC, elemsC, app1, cop1, len1, mslice1, bslice1, rowsA, build1, fillA, idx1, index1, slice1, optInt, addrAt, cutC, putAt, allD, dv, spl, boolV, Option.map_some, Option.bind_some, Option.map_none, Option.bind_none, ↓reduceIte, Bool.not_true, Bool.not_false, Bool.false_eq_true, and_true, true_and, Option.some.injEq, List.length_map, Nat.reduceEqDiff, Nat.reduceLeDiff, Nat.reduceAdd, Int.reduceLT, Int.reduceLE, Int.reduceToNat, Int.toNat_natCast, List.length_cons, List.length_nil, List.take_succ_cons, List.take_zero, List.drop_zero, List.map_cons, List.map_nil, Nat.zero_add, Nat.le_refl, List.getD_cons_zero, List.getD_cons_succ, bt4, ti3, ti23, ti34, getD_num, ite_and, ite_le, ite_lt, ite_eq, ite_lei, ite_lti, ite_nei, IntWalk.i64_in, ti22, tdiv8, tmod8, takeAll, takeDropAll, toNatAdd, toNatSub, toNatPred, decLtF, decLeF, decLtT, hRl]; first | rfl | done); (simp (disch := omega) only [binX, List.replicate_succ, List.set_cons_zero, List.set_cons_succ, List.drop_replicate, Nat.sub_self, List.length_replicate, true_or, or_true, or_false, List.replicate_zero, List.nil_append, List.append_nil, maxLen, List.length_append, List.length_take, List.length_drop, Nat.min_self, List.take_length, Option.getD_some, Option.getD_none, Option.isSome_some, Option.isSome_none, forall_const, Bool.false_eq_true, false_implies, imp_self, implies_true, decide_true, decide_false, dropMap, takeMap, effect, callEff, evO, evP, evL, argL, argX, dataL, plain, plainC, plainL, lk, one, vv, one1, isNil, binV, unV, cvV, load1, store1, fieldOf, cellsOf, cellsAt, asVal, shift, partOf, dataC, elemsC, app1, cop1, len1, mslice1, bslice1, rowsA, build1, fillA, idx1, index1, slice1, optInt, addrAt, cutC, putAt, allD, dv, spl, boolV, Option.map_some, Option.bind_some, Option.map_none, Option.bind_none, ↓reduceIte, Bool.not_true, Bool.not_false, Bool.false_eq_true, and_true, true_and, Option.some.injEq, List.length_map, Nat.reduceEqDiff, Nat.reduceLeDiff, Nat.reduceAdd, Int.reduceLT, Int.reduceLE, Int.reduceToNat, Int.toNat_natCast, List.length_cons, List.length_nil, List.take_succ_cons, List.take_zero, List.drop_zero, List.map_cons, List.map_nil, Nat.zero_add, Nat.le_refl, List.getD_cons_zero, List.getD_cons_succ, bt4, ti3, ti23, ti34, getD_num, ite_and, ite_le, ite_lt, ite_eq, ite_lei, ite_lti, ite_nei, IntWalk.i64_in, ti22, tdiv8, tmod8, takeAll, takeDropAll, toNatAdd, toNatSub, toNatPred, decLtF, decLeF, decLtT, hRl]; first | rfl | done); (exact h12 i (by omega)); (exact (.inr (flat2 _ _ _ _))); rfl; rfl; simp (disch := omega) only [rB, rN, rO, unV', unX, unXs, unC, List.append_nil, List.nil_append, List.cons_append, Nat.reduceAdd, Nat.reduceSub, List.length_map, decLtF, decLeF, decLtT, hRl])
    | (apply DrawA.off' (hd := rfl); (simp only [Bool.not_false, Bool.not_true, Eng.mk, Eng.put1, Eng.skip1, frOf, vv, one, del, List.filter_cons, List.filter_nil, List.nil_append, List.cons_append, Nat.reduceAdd, Nat.reduceMul, Nat.add_zero, List.length_nil, List.length_cons, List.getD_cons_zero, List.getD_cons_succ, List.contains_cons, List.contains_nil, Nat.reduceBEq, BEq.rfl, Bool.or_false, Bool.false_or, Bool.or_true, Bool.true_or, Bool.false_eq_true, ↓reduceIte, if_false, if_true, allIn, List.range, List.range.loop]; rfl); (first | rfl | (simp (disch := omega) only [boolV, lk, ↓reduceIte, Nat.reduceEqDiff, Bool.not_true, Bool.not_false, decide_true, decide_false, bt4, ti3, ti23, ti34, getD_num, ite_and, ite_le, ite_lt, ite_eq, ite_lei, ite_lti, ite_nei, IntWalk.i64_in, ti22, tdiv8, tmod8, takeAll, takeDropAll, toNatAdd, toNatSub, toNatPred, decLtF, decLeF, decLtT, hRl]; done)); simp only [List.nil_append, List.cons_append])
    | (apply DrawA.nil'; (simp only [List.length_cons, List.length_nil, Nat.reduceMul, Nat.reduceAdd]; rfl); (simp only [Bool.not_false, Bool.not_true, mkAll, Eng.put1, Eng.skip1, frOf, vv, one, del, List.filter_cons, List.filter_nil, List.nil_append, List.cons_append, Nat.reduceAdd, Nat.reduceMul, Nat.add_zero, List.length_nil, List.length_cons, List.getD_cons_zero, List.getD_cons_succ, List.contains_cons, List.contains_nil, Nat.reduceBEq, BEq.rfl, Bool.or_false, Bool.false_or, Bool.or_true, Bool.true_or, Bool.false_eq_true, ↓reduceIte, if_false, if_true, allIn, List.range, List.range.loop]; rfl); assumption)
    | (refine RegA.done ‹_› ?_)
    | (refine awp_seq fun K hK => ?_)
    | (refine Awp.reg ?_)
    | (refine Awp.draw' (A := [[], [], [0, 1], [2, 0, 1], [3, 2, 0, 1], [4, 3, 2, 0, 1], [5, 4, 3, 2, 0, 1], [5, 4, 3, 2, 0, 1], [6, 7, 5, 4, 3, 2, 0, 1], [8, 5, 6, 7, 4, 3, 2, 0, 1], [5, 4, 3, 2, 0, 1], [10, 5, 4, 3, 2, 0, 1], [9, 11, 5, 8, 6, 7, 4, 3, 2, 0, 1, 10], [5, 12, 4, 3, 2, 0, 1, 9, 11, 8, 6, 7, 10], [13, 5, 12, 4, 3, 2, 0, 1, 9, 11, 8, 6, 7, 10], [14, 13, 5, 12, 4, 3, 2, 0, 1, 9, 11, 8, 6, 7, 10], [15, 14, 13, 5, 12, 4, 3, 2, 0, 1, 9, 11, 8, 6, 7, 10], [16, 14, 15, 13, 5, 12, 4, 3, 2, 0, 1, 9, 11, 8, 6, 7, 10], [17, 16, 14, 15, 13, 5, 12, 4, 3, 2, 0, 1, 9, 11, 8, 6, 7, 10], [17, 16, 14, 15, 13, 5, 12, 4, 3, 2, 0, 1, 9, 11, 8, 6, 7, 10], [19, 17, 16, 14, 15, 13, 5, 12, 4, 3, 2, 0, 1, 9, 11, 8, 6, 7, 10], [18, 20, 17, 16, 14, 15, 13, 5, 12, 4, 3, 2, 0, 1, 9, 11, 8, 6, 7, 10, 19], [21, 17, 18, 20, 16, 14, 15, 13, 5, 12, 4, 3, 2, 0, 1, 9, 11, 8, 6, 7, 10, 19], [17, 16, 14, 15, 13, 5, 12, 4, 3, 2, 0, 1, 9, 11, 8, 6, 7, 10], [17, 16, 14, 15, 13, 5, 12, 4, 3, 2, 0, 1, 9, 11, 8, 6, 7, 10], [23, 24, 17, 16, 14, 15, 13, 5, 12, 4, 3, 2, 0, 1, 9, 11, 8, 6, 7, 10], [25, 17, 23, 24, 16, 14, 15, 13, 5, 12, 4, 3, 2, 0, 1, 9, 11, 8, 6, 7, 10], [22, 26, 17, 21, 18, 20, 16, 14, 15, 13, 5, 12, 4, 3, 2, 0, 1, 9, 11, 8, 6, 7, 10, 19, 25, 23, 24], [17, 27, 14, 16, 15, 13, 5, 12, 4, 3, 2, 0, 1, 9, 11, 8, 6, 7, 10, 22, 26, 21, 18, 20, 19, 25, 23, 24], [14, 28, 13, 5, 12, 4, 3, 2, 0, 1, 9, 11, 8, 6, 7, 10, 17, 27, 16, 15, 22, 26, 21, 18, 20, 19, 25, 23, 24]]) rfl rfl rfl ?_)
    | (refine Awp.draw' (A := [[], [], [], [1, 2], [3, 1, 2], [], [], [], [6, 7], [8, 6, 7], [], [], [10, 11], [12, 10, 11], [13, 12, 10, 11], [5, 9, 14, 8, 6, 7, 13, 12, 10, 11], [0, 4, 15, 3, 1, 2, 5, 9, 14, 8, 6, 7, 13, 12, 10, 11], [16, 0, 4, 15, 3, 1, 2, 5, 9, 14, 8, 6, 7, 13, 12, 10, 11], [17, 16, 0, 4, 15, 3, 1, 2, 5, 9, 14, 8, 6, 7, 13, 12, 10, 11], [17, 16, 0, 4, 15, 3, 1, 2, 5, 9, 14, 8, 6, 7, 13, 12, 10, 11], [18, 16, 0, 1, 2, 3, 4, 5, 6, 7, 8, 9, 10, 11, 12, 13, 14, 15, 17], [19, 20, 0, 1, 2, 3, 4, 5, 6, 7, 8, 9, 10, 11, 12, 13, 14, 15, 16, 17, 18]]) rfl rfl rfl ?_)
    | (refine Awp.skip ?_)
    | (refine Awp.block ?_)
    | (refine Awp.scope ?_)
    | (refine Awp.ct rfl ?_)
    | (refine Awp.cf rfl ?_)
    | (refine Awp.ct (congrArg some (congrArg Value.bool ?_)) ?_; focus (simp (disch := omega) only [decide_eq_true_eq, decide_eq_false_iff_not, Bool.not_eq_true', Bool.not_eq_false', decide_true, decide_false, Bool.not_true, Bool.not_false, bt4, ti3, ti23, ti34, getD_num, ite_and, ite_le, ite_lt, ite_eq, ite_lei, ite_lti, ite_nei, IntWalk.i64_in, ti22, tdiv8, tmod8, takeAll, takeDropAll, toNatAdd, toNatSub, toNatPred, decLtF, decLeF, decLtT, hRl]; done))
    | (refine Awp.cf (congrArg some (congrArg Value.bool ?_)) ?_; focus (simp (disch := omega) only [decide_eq_true_eq, decide_eq_false_iff_not, Bool.not_eq_true', Bool.not_eq_false', decide_true, decide_false, Bool.not_true, Bool.not_false, bt4, ti3, ti23, ti34, getD_num, ite_and, ite_le, ite_lt, ite_eq, ite_lei, ite_lti, ite_nei, IntWalk.i64_in, ti22, tdiv8, tmod8, takeAll, takeDropAll, toNatAdd, toNatSub, toNatPred, decLtF, decLeF, decLtT, hRl]; done))
    | (refine Awp.cond rfl ?_ ?_ <;> (intro hsp; (try simp only [Bool.not_eq_true', Bool.not_eq_false', decide_eq_true_eq, decide_eq_false_iff_not, Decidable.not_not, Int.not_lt, Int.not_le, Int.natCast_inj, Bool.and_eq_true, Bool.or_eq_true, Bool.not_not, ne_eq] at hsp)))
    | (refine Awp.exit ?_; simp only [blockQ, thenQ, scopeQ, ↓reduceIte, Nat.reduceEqDiff])
    | (refine viaK ‹_› ?_)
    | (simp only [thenQ_normal, blockQ_normal])))
        · refine RegA.nil ⟨⟨i + 1, by omega⟩, [(0, 0), (1, 738)], ?_, ?_⟩
          · simp only [Wk, frIn, hpIn, lk, renV, renX, renC, belV, belX, belC, belL, ↓reduceIte, Nat.reduceEqDiff, and_self, and_true, true_and]; simp [vv, one, renV, renX, renC, belV, belX, belC, rho, renO, belO, lk]
          · simp only []; omega
        · (refine Awp.ret ?_; apply ret_of (.inl rfl); rfl; (simp (disch := omega) only [outXs, outX, outC, outL, lk, ↓reduceIte, Nat.reduceEqDiff, List.length_map, List.length_nil, List.length_replicate, List.length_cons, List.length_take, List.length_drop, List.length_append, ite_eq, Option.map_some, Bool.false_eq_true]; rfl); (focus simp [ownsX, ownsC]); simp [laxR, laxX, laxC, rB, rN, rO, *] <;> (intros; omega))
set_option maxHeartbeats 1000000 in
set_option maxRecDepth 10000 in
theorem bad7 (a b : List Int) (h : ¬ (chk (a.length : Int) = 0 ∧ a.length = b.length)) : Con Try.prog 7 [sN .u64 a, sN .u64 b] [rB true] := by
  refine con_of_awp hmix Try.func7 s7 rfl (by rw [n7]; simp) r7 n7 ?_
  simp only [Eng.start, startFr, inX, sN, vN, c7]
  (repeat' (first
    | (apply RegA.op (hd := rfl); (first | exact trivial | rfl | exact congrArg some ‹_› | (simp (disch := omega) only [boolV, lk, ↓reduceIte, Nat.reduceEqDiff, decide_true, decide_false]; done)); (simp (disch := omega) only [binX, List.replicate_succ, List.set_cons_zero, List.set_cons_succ, List.drop_replicate, Nat.sub_self, List.length_replicate, true_or, or_true, or_false, List.replicate_zero, List.nil_append, List.append_nil, maxLen, List.length_append, List.length_take, List.length_drop, Nat.min_self, List.take_length, Option.getD_some, Option.getD_none, Option.isSome_some, Option.isSome_none, forall_const, Bool.false_eq_true, false_implies, imp_self, implies_true, decide_true, decide_false, dropMap, takeMap, effect, callEff, evO, evP, evL, argL, argX, dataL, plain, plainC, plainL, lk, one, vv, one1, isNil, binV, unV, cvV, load1, store1, fieldOf, cellsOf, cellsAt, asVal, shift, partOf, dataC, elemsC, app1, cop1, len1, mslice1, bslice1, rowsA, build1, fillA, idx1, index1, slice1, optInt, addrAt, cutC, putAt, allD, dv, spl, boolV, Option.map_some, Option.bind_some, Option.map_none, Option.bind_none, ↓reduceIte, Bool.not_true, Bool.not_false, Bool.false_eq_true, and_true, true_and, Option.some.injEq, List.length_map, Nat.reduceEqDiff, Nat.reduceLeDiff, Nat.reduceAdd, Int.reduceLT, Int.reduceLE, Int.reduceToNat, Int.toNat_natCast, List.length_cons, List.length_nil, List.take_succ_cons, List.take_zero, List.drop_zero, List.map_cons, List.map_nil, Nat.zero_add, Nat.le_refl, List.getD_cons_zero, List.getD_cons_succ, bt4, ti3, ti23, ti34, getD_num, ite_and, ite_le, ite_lt, ite_eq, ite_lei, ite_lti, ite_nei, IntWalk.i64_in, ti22, tdiv8, tmod8, takeAll, takeDropAll, toNatAdd, toNatSub]; first | rfl | done); simp (disch := omega) only [List.length_replicate, List.length_map, Nat.reduceBEq, Bool.not_false, Bool.not_true, ↓reduceIte, Bool.false_eq_true, BEq.rfl, put1, skip1, frOf, know, vv, one, del, decide_true, decide_false, List.filter_cons, List.filter_nil, List.nil_append, List.cons_append, Nat.reduceAdd, Nat.add_zero])
    | (apply RegA.call (hd := rfl) (fz := true) (hfz := .inl rfl); (first | exact trivial | rfl | exact congrArg some ‹_› | (simp (disch := omega) only [boolV, lk, ↓reduceIte, Nat.reduceEqDiff, decide_true, decide_false]; done)); (simp (disch := omega) only [binX, List.replicate_succ, List.set_cons_zero, List.set_cons_succ, List.drop_replicate, Nat.sub_self, List.length_replicate, true_or, or_true, or_false, List.replicate_zero, List.nil_append, List.append_nil, maxLen, List.length_append, List.length_take, List.length_drop, Nat.min_self, List.take_length, Option.getD_some, Option.getD_none, Option.isSome_some, Option.isSome_none, forall_const, Bool.false_eq_true, false_implies, imp_self, implies_true, decide_true, decide_false, dropMap, takeMap, effect, callEff, evO, evP, evL, argL, argX, dataL, plain, plainC, plainL, lk, one, vv, one1, isNil, binV, unV, cvV, load1, store1, fieldOf, cellsOf, cellsAt, asVal, shift, partOf, dataC, elemsC, app1, cop1, len1, mslice1, bslice1, rowsA, build1, fillA, idx1, index1, slice1, optInt, addrAt, cutC, putAt, allD, dv, spl, boolV, Option.map_some, Option.bind_some, Option.map_none, Option.bind_none, ↓reduceIte, Bool.not_true, Bool.not_false, Bool.false_eq_true, and_true, true_and, Option.some.injEq, List.length_map, Nat.reduceEqDiff, Nat.reduceLeDiff, Nat.reduceAdd, Int.reduceLT, Int.reduceLE, Int.reduceToNat, Int.toNat_natCast, List.length_cons, List.length_nil, List.take_succ_cons, List.take_zero, List.drop_zero, List.map_cons, List.map_nil, Nat.zero_add, Nat.le_refl, List.getD_cons_zero, List.getD_cons_succ, bt4, ti3, ti23, ti34, getD_num, ite_and, ite_le, ite_lt, ite_eq, ite_lei, ite_lti, ite_nei, IntWalk.i64_in, ti22, tdiv8, tmod8, takeAll, takeDropAll, toNatAdd, toNatSub]; first | rfl | done); (simp (disch := omega) only [binX, List.replicate_succ, List.set_cons_zero, List.set_cons_succ, List.drop_replicate, Nat.sub_self, List.length_replicate, true_or, or_true, or_false, List.replicate_zero, List.nil_append, List.append_nil, maxLen, List.length_append, List.length_take, List.length_drop, Nat.min_self, List.take_length, Option.getD_some, Option.getD_none, Option.isSome_some, Option.isSome_none, forall_const, Bool.false_eq_true, false_implies, imp_self, implies_true, decide_true, decide_false, dropMap, takeMap, effect, callEff, evO, evP, evL, argL, argX, dataL, plain, plainC, plainL, lk, one, vv, one1, isNil, binV, unV, cvV, load1, store1, fieldOf, cellsOf, cellsAt, asVal, shift, partOf, dataC, elemsC, app1, cop1, len1, mslice1, bslice1, rowsA, build1, fillA, idx1, index1, slice1, optInt, addrAt, cutC, putAt, allD, dv, spl, boolV, Option.map_some, Option.bind_some, Option.map_none, Option.bind_none, ↓reduceIte, Bool.not_true, Bool.not_false, Bool.false_eq_true, and_true, true_and, Option.some.injEq, List.length_map, Nat.reduceEqDiff, Nat.reduceLeDiff, Nat.reduceAdd, Int.reduceLT, Int.reduceLE, Int.reduceToNat, Int.toNat_natCast, List.length_cons, List.length_nil, List.take_succ_cons, List.take_zero, List.drop_zero, List.map_cons, List.map_nil, Nat.zero_add, Nat.le_refl, List.getD_cons_zero, List.getD_cons_succ, bt4, ti3, ti23, ti34, getD_num, ite_and, ite_le, ite_lt, ite_eq, ite_lei, ite_lti, ite_nei, IntWalk.i64_in, ti22, tdiv8, tmod8, takeAll, takeDropAll, toNatAdd, toNatSub]; first | rfl | done); (exact con23 _); simp (disch := omega) only [List.length_replicate, List.length_map, Nat.reduceBEq, Bool.not_false, Bool.not_true, ↓reduceIte, Bool.false_eq_true, BEq.rfl, put1, skip1, frOf, know, vv, one, del, decide_true, decide_false, List.filter_cons, List.filter_nil, List.nil_append, List.cons_append, Nat.reduceAdd, Nat.add_zero]; simp only [callHp, frz, rB, rN, rO, unV', unX, unXs, unC, List.flatMap_cons, List.flatMap_nil, idsX, idsC, List.append_nil, ↓reduceIte, List.nil_append, List.cons_append, lk, Nat.reduceEqDiff, Nat.reduceAdd, List.length_map, List.length_cons, List.length_nil])
    | (apply RegA.call (hd := rfl) (fz := true) (hfz := .inl rfl); (first | exact trivial | rfl | exact congrArg some ‹_› | (simp (disch := omega) only [boolV, lk, ↓reduceIte, Nat.reduceEqDiff, decide_true, decide_false]; done)); (simp (disch := omega) only [binX, List.replicate_succ, List.set_cons_zero, List.set_cons_succ, List.drop_replicate, Nat.sub_self, List.length_replicate, true_or, or_true, or_false, List.replicate_zero, List.nil_append, List.append_nil, maxLen, List.length_append, List.length_take, List.length_drop, Nat.min_self, List.take_length, Option.getD_some, Option.getD_none, Option.isSome_some, Option.isSome_none, forall_const, Bool.false_eq_true, false_implies, imp_self, implies_true, decide_true, decide_false, dropMap, takeMap, effect, callEff, evO, evP, evL, argL, argX, dataL, plain, plainC, plainL, lk, one, vv, one1, isNil, binV, unV, cvV, load1, store1, fieldOf, cellsOf, cellsAt, asVal, shift, partOf, dataC, elemsC, app1, cop1, len1, mslice1, bslice1, rowsA, build1, fillA, idx1, index1, slice1, optInt, addrAt, cutC, putAt, allD, dv, spl, boolV, Option.map_some, Option.bind_some, Option.map_none, Option.bind_none, ↓reduceIte, Bool.not_true, Bool.not_false, Bool.false_eq_true, and_true, true_and, Option.some.injEq, List.length_map, Nat.reduceEqDiff, Nat.reduceLeDiff, Nat.reduceAdd, Int.reduceLT, Int.reduceLE, Int.reduceToNat, Int.toNat_natCast, List.length_cons, List.length_nil, List.take_succ_cons, List.take_zero, List.drop_zero, List.map_cons, List.map_nil, Nat.zero_add, Nat.le_refl, List.getD_cons_zero, List.getD_cons_succ, bt4, ti3, ti23, ti34, getD_num, ite_and, ite_le, ite_lt, ite_eq, ite_lei, ite_lti, ite_nei, IntWalk.i64_in, ti22, tdiv8, tmod8, takeAll, takeDropAll, toNatAdd, toNatSub]; first | rfl | done); (simp (disch := omega) only [binX, List.replicate_succ, List.set_cons_zero, List.set_cons_succ, List.drop_replicate, Nat.sub_self, List.length_replicate, true_or, or_true, or_false, List.replicate_zero, List.nil_append, List.append_nil, maxLen, List.length_append, List.length_take, List.length_drop, Nat.min_self, List.take_length, Option.getD_some, Option.getD_none, Option.isSome_some, Option.isSome_none, forall_const, Bool.false_eq_true, false_implies, imp_self, implies_true, decide_true, decide_false, dropMap, takeMap, effect, callEff, evO, evP, evL, argL, argX, dataL, plain, plainC, plainL, lk, one, vv, one1, isNil, binV, unV, cvV, load1, store1, fieldOf, cellsOf, cellsAt, asVal, shift, partOf, dataC, elemsC, app1, cop1, len1, mslice1, bslice1, rowsA, build1, fillA, idx1, index1, slice1, optInt, addrAt, cutC, putAt, allD, dv, spl, boolV, Option.map_some, Option.bind_some, Option.map_none, Option.bind_none, ↓reduceIte, Bool.not_true, Bool.not_false, Bool.false_eq_true, and_true, true_and, Option.some.injEq, List.length_map, Nat.reduceEqDiff, Nat.reduceLeDiff, Nat.reduceAdd, Int.reduceLT, Int.reduceLE, Int.reduceToNat, Int.toNat_natCast, List.length_cons, List.length_nil, List.take_succ_cons, List.take_zero, List.drop_zero, List.map_cons, List.map_nil, Nat.zero_add, Nat.le_refl, List.getD_cons_zero, List.getD_cons_succ, bt4, ti3, ti23, ti34, getD_num, ite_and, ite_le, ite_lt, ite_eq, ite_lei, ite_lti, ite_nei, IntWalk.i64_in, ti22, tdiv8, tmod8, takeAll, takeDropAll, toNatAdd, toNatSub]; first | rfl | done); (exact con17); simp (disch := omega) only [List.length_replicate, List.length_map, Nat.reduceBEq, Bool.not_false, Bool.not_true, ↓reduceIte, Bool.false_eq_true, BEq.rfl, put1, skip1, frOf, know, vv, one, del, decide_true, decide_false, List.filter_cons, List.filter_nil, List.nil_append, List.cons_append, Nat.reduceAdd, Nat.add_zero]; simp only [callHp, frz, rB, rN, rO, unV', unX, unXs, unC, List.flatMap_cons, List.flatMap_nil, idsX, idsC, List.append_nil, ↓reduceIte, List.nil_append, List.cons_append, lk, Nat.reduceEqDiff, Nat.reduceAdd, List.length_map, List.length_cons, List.length_nil])
    | (refine RegA.off rfl rfl ?_; simp (disch := omega) only [List.length_replicate, List.length_map, Nat.reduceBEq, Bool.not_false, Bool.not_true, ↓reduceIte, Bool.false_eq_true, BEq.rfl, put1, skip1, frOf, know, vv, one, del, decide_true, decide_false, List.filter_cons, List.filter_nil, List.nil_append, List.cons_append, Nat.reduceAdd, Nat.add_zero])
    | (refine RegA.split rfl ?_ ?_ <;> (intro hsp; (try simp only [Bool.not_eq_true', Bool.not_eq_false', decide_eq_true_eq, decide_eq_false_iff_not, Decidable.not_not, Int.not_lt, Int.not_le, Int.natCast_inj, Bool.and_eq_true, Bool.or_eq_true, Bool.not_not, ne_eq] at hsp); simp (disch := omega) only [List.length_replicate, List.length_map, Nat.reduceBEq, Bool.not_false, Bool.not_true, ↓reduceIte, Bool.false_eq_true, BEq.rfl, put1, skip1, frOf, know, vv, one, del, decide_true, decide_false, List.filter_cons, List.filter_nil, List.nil_append, List.cons_append, Nat.reduceAdd, Nat.add_zero]))
    | (apply DrawA.op' (hd := rfl); (simp only [List.length_cons, List.length_nil, Nat.reduceMul, Nat.reduceAdd]; rfl); (simp only [Bool.not_false, Bool.not_true, Eng.mk, Eng.put1, Eng.skip1, frOf, vv, one, del, List.filter_cons, List.filter_nil, List.nil_append, List.cons_append, Nat.reduceAdd, Nat.reduceMul, Nat.add_zero, List.length_nil, List.length_cons, List.getD_cons_zero, List.getD_cons_succ, List.contains_cons, List.contains_nil, Nat.reduceBEq, BEq.rfl, Bool.or_false, Bool.false_or, Bool.or_true, Bool.true_or, Bool.false_eq_true, ↓reduceIte, if_false, if_true, allIn, List.range, List.range.loop]; rfl); (first | exact trivial | rfl | exact congrArg some ‹_› | (simp (disch := omega) only [boolV, lk, ↓reduceIte, Nat.reduceEqDiff, decide_true, decide_false]; done)); (simp (disch := omega) only [binX, List.replicate_succ, List.set_cons_zero, List.set_cons_succ, List.drop_replicate, Nat.sub_self, List.length_replicate, true_or, or_true, or_false, List.replicate_zero, List.nil_append, List.append_nil, maxLen, List.length_append, List.length_take, List.length_drop, Nat.min_self, List.take_length, Option.getD_some, Option.getD_none, Option.isSome_some, Option.isSome_none, forall_const, Bool.false_eq_true, false_implies, imp_self, implies_true, decide_true, decide_false, dropMap, takeMap, effect, callEff, evO, evP, evL, argL, argX, dataL, plain, plainC, plainL, lk, one, vv, one1, isNil, binV, unV, cvV, load1, store1, fieldOf, cellsOf, cellsAt, asVal, shift, partOf, dataC, elemsC, app1, cop1, len1, mslice1, bslice1, rowsA, build1, fillA, idx1, index1, slice1, optInt, addrAt, cutC, putAt, allD, dv, spl, boolV, Option.map_some, Option.bind_some, Option.map_none, Option.bind_none, ↓reduceIte, Bool.not_true, Bool.not_false, Bool.false_eq_true, and_true, true_and, Option.some.injEq, List.length_map, Nat.reduceEqDiff, Nat.reduceLeDiff, Nat.reduceAdd, Int.reduceLT, Int.reduceLE, Int.reduceToNat, Int.toNat_natCast, List.length_cons, List.length_nil, List.take_succ_cons, List.take_zero, List.drop_zero, List.map_cons, List.map_nil, Nat.zero_add, Nat.le_refl, List.getD_cons_zero, List.getD_cons_succ, bt4, ti3, ti23, ti34, getD_num, ite_and, ite_le, ite_lt, ite_eq, ite_lei, ite_lti, ite_nei, IntWalk.i64_in, ti22, tdiv8, tmod8, takeAll, takeDropAll, toNatAdd, toNatSub]; first | rfl | done); rfl; rfl; simp only [List.nil_append, List.cons_append])
    | (apply DrawA.off' (hd := rfl); (simp only [Bool.not_false, Bool.not_true, Eng.mk, Eng.put1, Eng.skip1, frOf, vv, one, del, List.filter_cons, List.filter_nil, List.nil_append, List.cons_append, Nat.reduceAdd, Nat.reduceMul, Nat.add_zero, List.length_nil, List.length_cons, List.getD_cons_zero, List.getD_cons_succ, List.contains_cons, List.contains_nil, Nat.reduceBEq, BEq.rfl, Bool.or_false, Bool.false_or, Bool.or_true, Bool.true_or, Bool.false_eq_true, ↓reduceIte, if_false, if_true, allIn, List.range, List.range.loop]; rfl); (first | rfl | (simp (disch := omega) only [boolV, lk, ↓reduceIte, Nat.reduceEqDiff, Bool.not_true, Bool.not_false, decide_true, decide_false, bt4, ti3, ti23, ti34, getD_num, ite_and, ite_le, ite_lt, ite_eq, ite_lei, ite_lti, ite_nei, IntWalk.i64_in, ti22, tdiv8, tmod8, takeAll, takeDropAll, toNatAdd, toNatSub]; done)); simp only [List.nil_append, List.cons_append])
    | (apply DrawA.nil'; (simp only [List.length_cons, List.length_nil, Nat.reduceMul, Nat.reduceAdd]; rfl); (simp only [Bool.not_false, Bool.not_true, mkAll, Eng.put1, Eng.skip1, frOf, vv, one, del, List.filter_cons, List.filter_nil, List.nil_append, List.cons_append, Nat.reduceAdd, Nat.reduceMul, Nat.add_zero, List.length_nil, List.length_cons, List.getD_cons_zero, List.getD_cons_succ, List.contains_cons, List.contains_nil, Nat.reduceBEq, BEq.rfl, Bool.or_false, Bool.false_or, Bool.or_true, Bool.true_or, Bool.false_eq_true, ↓reduceIte, if_false, if_true, allIn, List.range, List.range.loop]; rfl); assumption)
    | (refine RegA.done ‹_› ?_)
    | (refine awp_seq fun K hK => ?_)
    | (refine Awp.reg ?_)
    | (refine Awp.draw' (A := [[], [], [0, 1], [2, 0, 1], [3, 2, 0, 1], [4, 3, 2, 0, 1], [5, 4, 3, 2, 0, 1], [5, 4, 3, 2, 0, 1], [6, 7, 5, 4, 3, 2, 0, 1], [8, 5, 6, 7, 4, 3, 2, 0, 1], [5, 4, 3, 2, 0, 1], [10, 5, 4, 3, 2, 0, 1], [9, 11, 5, 8, 6, 7, 4, 3, 2, 0, 1, 10], [5, 12, 4, 3, 2, 0, 1, 9, 11, 8, 6, 7, 10], [13, 5, 12, 4, 3, 2, 0, 1, 9, 11, 8, 6, 7, 10], [14, 13, 5, 12, 4, 3, 2, 0, 1, 9, 11, 8, 6, 7, 10], [15, 14, 13, 5, 12, 4, 3, 2, 0, 1, 9, 11, 8, 6, 7, 10], [16, 14, 15, 13, 5, 12, 4, 3, 2, 0, 1, 9, 11, 8, 6, 7, 10], [17, 16, 14, 15, 13, 5, 12, 4, 3, 2, 0, 1, 9, 11, 8, 6, 7, 10], [17, 16, 14, 15, 13, 5, 12, 4, 3, 2, 0, 1, 9, 11, 8, 6, 7, 10], [19, 17, 16, 14, 15, 13, 5, 12, 4, 3, 2, 0, 1, 9, 11, 8, 6, 7, 10], [18, 20, 17, 16, 14, 15, 13, 5, 12, 4, 3, 2, 0, 1, 9, 11, 8, 6, 7, 10, 19], [21, 17, 18, 20, 16, 14, 15, 13, 5, 12, 4, 3, 2, 0, 1, 9, 11, 8, 6, 7, 10, 19], [17, 16, 14, 15, 13, 5, 12, 4, 3, 2, 0, 1, 9, 11, 8, 6, 7, 10], [17, 16, 14, 15, 13, 5, 12, 4, 3, 2, 0, 1, 9, 11, 8, 6, 7, 10], [23, 24, 17, 16, 14, 15, 13, 5, 12, 4, 3, 2, 0, 1, 9, 11, 8, 6, 7, 10], [25, 17, 23, 24, 16, 14, 15, 13, 5, 12, 4, 3, 2, 0, 1, 9, 11, 8, 6, 7, 10], [22, 26, 17, 21, 18, 20, 16, 14, 15, 13, 5, 12, 4, 3, 2, 0, 1, 9, 11, 8, 6, 7, 10, 19, 25, 23, 24], [17, 27, 14, 16, 15, 13, 5, 12, 4, 3, 2, 0, 1, 9, 11, 8, 6, 7, 10, 22, 26, 21, 18, 20, 19, 25, 23, 24], [14, 28, 13, 5, 12, 4, 3, 2, 0, 1, 9, 11, 8, 6, 7, 10, 17, 27, 16, 15, 22, 26, 21, 18, 20, 19, 25, 23, 24]]) rfl rfl rfl ?_)
    | (refine Awp.draw' (A := [[], [], [], [1, 2], [3, 1, 2], [], [], [], [6, 7], [8, 6, 7], [], [], [10, 11], [12, 10, 11], [13, 12, 10, 11], [5, 9, 14, 8, 6, 7, 13, 12, 10, 11], [0, 4, 15, 3, 1, 2, 5, 9, 14, 8, 6, 7, 13, 12, 10, 11], [16, 0, 4, 15, 3, 1, 2, 5, 9, 14, 8, 6, 7, 13, 12, 10, 11], [17, 16, 0, 4, 15, 3, 1, 2, 5, 9, 14, 8, 6, 7, 13, 12, 10, 11], [17, 16, 0, 4, 15, 3, 1, 2, 5, 9, 14, 8, 6, 7, 13, 12, 10, 11], [18, 16, 0, 1, 2, 3, 4, 5, 6, 7, 8, 9, 10, 11, 12, 13, 14, 15, 17], [19, 20, 0, 1, 2, 3, 4, 5, 6, 7, 8, 9, 10, 11, 12, 13, 14, 15, 16, 17, 18]]) rfl rfl rfl ?_)
    | (refine Awp.skip ?_)
    | (refine Awp.block ?_)
    | (refine Awp.scope ?_)
    | (refine Awp.ct rfl ?_)
    | (refine Awp.cf rfl ?_)
    | (refine Awp.ct (congrArg some (congrArg Value.bool ?_)) ?_; focus (simp (disch := omega) only [decide_eq_true_eq, decide_eq_false_iff_not, Bool.not_eq_true', Bool.not_eq_false', decide_true, decide_false, Bool.not_true, Bool.not_false, bt4, ti3, ti23, ti34, getD_num, ite_and, ite_le, ite_lt, ite_eq, ite_lei, ite_lti, ite_nei, IntWalk.i64_in, ti22, tdiv8, tmod8, takeAll, takeDropAll, toNatAdd, toNatSub]; done))
    | (refine Awp.cf (congrArg some (congrArg Value.bool ?_)) ?_; focus (simp (disch := omega) only [decide_eq_true_eq, decide_eq_false_iff_not, Bool.not_eq_true', Bool.not_eq_false', decide_true, decide_false, Bool.not_true, Bool.not_false, bt4, ti3, ti23, ti34, getD_num, ite_and, ite_le, ite_lt, ite_eq, ite_lei, ite_lti, ite_nei, IntWalk.i64_in, ti22, tdiv8, tmod8, takeAll, takeDropAll, toNatAdd, toNatSub]; done))
    | (refine Awp.cond rfl ?_ ?_ <;> (intro hsp; (try simp only [Bool.not_eq_true', Bool.not_eq_false', decide_eq_true_eq, decide_eq_false_iff_not, Decidable.not_not, Int.not_lt, Int.not_le, Int.natCast_inj, Bool.and_eq_true, Bool.or_eq_true, Bool.not_not, ne_eq] at hsp)))
    | (refine Awp.exit ?_; simp only [blockQ, thenQ, scopeQ, ↓reduceIte, Nat.reduceEqDiff])
    | (refine viaK ‹_› ?_)
    | (simp only [thenQ_normal, blockQ_normal])))
  all_goals (try (focus (refine Awp.ret ?_; apply ret_of (.inl rfl); rfl; (simp (disch := omega) only [outXs, outX, outC, outL, lk, ↓reduceIte, Nat.reduceEqDiff, List.length_map, List.length_nil, List.length_replicate, List.length_cons, List.length_take, List.length_drop, List.length_append, ite_eq, Option.map_some, Bool.false_eq_true]; rfl); (focus simp [ownsX, ownsC]); simp [laxR, laxX, laxC, rB, rN, rO, *] <;> (intros; omega); done)))
  all_goals (exfalso; omega)
theorem con7 (a b : List Int) : Con Try.prog 7 [sN .u64 a, sN .u64 b] [rB true] := by
  by_cases h : chk (a.length : Int) = 0 ∧ a.length = b.length
  · exact law7 a b h.1 (chk_len h.1) h.2
  · exact bad7 a b h
end Go.Proofs.Ythknepamlbicmaa
