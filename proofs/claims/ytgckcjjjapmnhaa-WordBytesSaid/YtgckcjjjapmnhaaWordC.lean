/-
  Contracts of package word and of its reference, over this translation.
-/
import Derived.Test.YtgckcjjjapmnhaaProg
import Derived.Test.YtgckcjjjapmnhaaBase
import Derived.Test.YtgckcjjjapmnhaaWordM
namespace Go.Proofs.Ytgckcjjjapmnhaa
open Go.ChangeShapes Go.WideShapes Go.ChangeAt Go.RowKit

theorem two_pow_cast (n : Nat) : ((2 : Int) ^ n) = ((2 ^ n : Nat) : Int) := by simp

/-! ### The program -/
def isF (f n : Int) : Bool := decide (0 ≤ f) && decide (f < 64) && decide (1 ≤ n) && decide (n ≤ 64 - f)
theorem isF_iff (f n : Int) : isF f n = true ↔ 0 ≤ f ∧ f < 64 ∧ 1 ≤ n ∧ n ≤ 64 - f := by
  unfold isF; simp [and_assoc]
theorem isField_any (f n : Int) (w : World) :
    Calls Try.prog 21 #[.int .i64 f, .int .i64 n] w fun e w' => e = .returned (.bool (isF f n)) ∧ w = w' := by
  go_enter Try.func21, Try.ntmps21
  go_wp2
  all_goals
    go_ret
    refine ⟨?_, rfl⟩
    congr 2
    unfold isF
    simp [*]
    try omega
theorem isField_as (f n : Int) (b : Bool) (h : isF f n = b) (w : World) :
    Calls Try.prog 21 #[.int .i64 f, .int .i64 n] w fun e w' => e = .returned (.bool b) ∧ w = w' := by
  have := isField_any f n w
  rwa [h] at this

def ones (n : Int) : Int := ((2 ^ n.toNat - 1 : Nat) : Int)
theorem ones_wrap (n : Nat) (h1 : 1 ≤ n) (h2 : n ≤ 64) : IntKind.u64.wrap (IntKind.u64.wrap (2 ^ n) - 1) = ones n := by
  have hp := Nat.two_pow_pos n
  unfold ones
  rw [two_pow_cast, u64_nat]
  by_cases h : n = 64
  · subst h
    simp [IntKind.wrap, IntKind.bits, IntKind.signed]
  · have h3 := two_pow_lt64 n (by omega)
    rw [Nat.mod_eq_of_lt h3, show ((2 ^ n : Nat) : Int) - 1 = ((2 ^ n - 1 : Nat) : Int) by omega, u64_keep _ (by unfold U64; omega)]
    rfl
theorem greatest_any (n : Int) (w : World) (h1 : 1 ≤ n) (h2 : n ≤ 64) :
    Calls Try.prog 22 #[.int .i64 n] w fun e w' => e = .returned (.int .u64 (ones n)) ∧ w' = w := by
  obtain ⟨n, rfl⟩ := Int.eq_ofNat_of_zero_le (show 0 ≤ n by omega)
  have hr := Lib.hid (ones_wrap n (by omega) (by omega))
  go_enter Try.func22, Try.ntmps22
  go_wp2
  go_ret
  exact ⟨congrArg (fun z => Ending.returned (.int .u64 z)) hr.out, rfl⟩

abbrev two (a b : Int) : Ending := .returned (.tuple #[.int .u64 a, .int .i64 b])
theorem two_congr {a b : Int} (h : a = b) (k : Int) : two a k = two b k := by rw [h]

theorem get_no (x f n : Int) (h : isF f n = false) (w : World) :
    Calls Try.prog 10 #[.int .u64 x, .int .i64 f, .int .i64 n] w fun e w' => e = two 0 2 ∧ w' = w := by
  have H := Lib.hid h
  clear h
  go_enter Try.func10, Try.ntmps10
  go_wp2_with (go_at_call 21; refine (isField_as _ _ _ H.out _).mono ?_; rintro e w' ⟨rfl, rfl⟩)
  go_ret2
  exact ⟨rfl, rfl⟩

theorem get_yes (x : Nat) (f n : Int) (hx : U64 x) (h : isF f n = true) (w : World) :
    Calls Try.prog 10 #[.int .u64 x, .int .i64 f, .int .i64 n] w fun e w' => e = two (getV x f.toNat n.toNat) 0 ∧ ∃ q, w' = w.drewN q := by
  have hf := (isF_iff f n).1 h
  obtain ⟨h1, h2, h3, h4⟩ := hf
  obtain ⟨n, rfl⟩ := Int.eq_ofNat_of_zero_le (show 0 ≤ n by omega)
  obtain ⟨f, rfl⟩ := Int.eq_ofNat_of_zero_le (show 0 ≤ f by omega)
  have H := Lib.hid h
  clear h
  have hr : bits BinOp.and IntKind.u64 ((x : Int) / 2 ^ f) (ones n) = ((getV x f n : Nat) : Int) := by
    have hb : x / 2 ^ f < 18446744073709551616 := Nat.lt_of_le_of_lt (Nat.div_le_self _ _) hx
    have ho : 2 ^ n - 1 < 18446744073709551616 := by have := two_pow_le64 n (by omega); have := Nat.two_pow_pos n; omega
    rw [two_pow_cast, show ((x : Int) / ((2 ^ f : Nat) : Int)) = ((x / 2 ^ f : Nat) : Int) from rfl]
    unfold ones
    rw [Int.toNat_natCast, u64_and_nat _ _ hb ho, get_and]
  go_enter Try.func10, Try.ntmps10
  go_wp2_with (go_at_call 21; refine (isField_as _ _ _ H.out _).mono ?_; rintro e w' ⟨rfl, rfl⟩)
  go_quiet ((go_at_call 22; exact Calls.quiet_of_same (greatest_any _ _ (by omega) (by omega))))
  go_wp2
  go_ret2
  exact ⟨rfl, _, rfl⟩

theorem set_no (x v f n : Int) (h : isF f n = false) (w : World) :
    Calls Try.prog 11 #[.int .u64 x, .int .i64 f, .int .i64 n, .int .u64 v] w fun e w' => e = two 0 2 ∧ w' = w := by
  have H := Lib.hid h
  clear h
  go_enter Try.func11, Try.ntmps11
  go_wp2_with (go_at_call 21; refine (isField_as _ _ _ H.out _).mono ?_; rintro e w' ⟨rfl, rfl⟩)
  go_ret2
  exact ⟨rfl, rfl⟩

theorem set_wide (x v : Nat) (f n : Int) (h : isF f n = true) (hv : 2 ^ n.toNat ≤ v) (w : World) :
    Calls Try.prog 11 #[.int .u64 x, .int .i64 f, .int .i64 n, .int .u64 v] w fun e w' => e = two 0 16 ∧ w' = w := by
  have hf := (isF_iff f n).1 h
  obtain ⟨h1, h2, h3, h4⟩ := hf
  obtain ⟨n, rfl⟩ := Int.eq_ofNat_of_zero_le (show 0 ≤ n by omega)
  have H := Lib.hid h
  clear h
  have hlt : ones n < (v : Int) := by
    unfold ones; rw [Int.toNat_natCast] at *; have := Nat.two_pow_pos n; omega
  go_enter Try.func11, Try.ntmps11
  go_wp2_with (first
    | (go_at_call 21; refine (isField_as _ _ _ H.out _).mono ?_; rintro e w' ⟨rfl, rfl⟩)
    | (go_at_call 22; refine (greatest_any _ _ (by omega) (by omega)).mono ?_; rintro e w' ⟨rfl, rfl⟩))
  go_ret2
  exact ⟨rfl, rfl⟩

theorem set_yes (x v : Nat) (f n : Int) (hx : U64 x) (h : isF f n = true) (hv : v < 2 ^ n.toNat) (w : World) :
    Calls Try.prog 11 #[.int .u64 x, .int .i64 f, .int .i64 n, .int .u64 v] w fun e w' => e = two (setV x f.toNat n.toNat v) 0 ∧ ∃ q, w' = w.drewN q := by
  have hf := (isF_iff f n).1 h
  obtain ⟨h1, h2, h3, h4⟩ := hf
  obtain ⟨n, rfl⟩ := Int.eq_ofNat_of_zero_le (show 0 ≤ n by omega)
  obtain ⟨f, rfl⟩ := Int.eq_ofNat_of_zero_le (show 0 ≤ f by omega)
  have H := Lib.hid h
  clear h
  have hle : (v : Int) ≤ ones n := by
    unfold ones; rw [Int.toNat_natCast] at *; have := Nat.two_pow_pos n; omega
  have hr : bits BinOp.or IntKind.u64 (bits BinOp.andNot IntKind.u64 (x : Int) (IntKind.u64.wrap (ones n * 2 ^ f))) (IntKind.u64.wrap ((v : Int) * 2 ^ f)) = ((setV x f n v : Nat) : Int) := by
    rw [Int.toNat_natCast] at hv
    unfold ones
    rw [Int.toNat_natCast, two_pow_cast, ← Int.natCast_mul, ← Int.natCast_mul, u64_nat, u64_nat,
      u64_andNot_nat _ _ hx (Nat.mod_lt _ (by omega)), u64_or_nat _ _ (Nat.lt_of_le_of_lt Nat.and_le_left hx) (Nat.mod_lt _ (by omega)),
      set_or x f n v hx (by omega) hv]
  go_enter Try.func11, Try.ntmps11
  go_wp2_with (first
    | (go_at_call 21; refine (isField_as _ _ _ H.out _).mono ?_; rintro e w' ⟨rfl, rfl⟩)
    | (go_at_call 22; refine (greatest_any _ _ (by omega) (by omega)).mono ?_; rintro e w' ⟨rfl, rfl⟩))
  go_quiet ((go_at_call 22; exact Calls.quiet_of_same (greatest_any _ _ (by omega) (by omega))))
  go_wp2
  go_ret2
  exact ⟨rfl, _, rfl⟩

/-! ### The reference -/
theorem refField_any (f n : Int) (w : World) :
    Calls Try.prog 19 #[.int .i64 f, .int .i64 n] w fun e w' => e = .returned (.bool (isF f n)) ∧ w' = w := by
  go_enter Try.func19, Try.ntmps19
  go_wp2
  all_goals
    go_ret
    refine ⟨?_, rfl⟩
    congr 2
    unfold isF
    simp [*]
    try omega
theorem refField_as (f n : Int) (b : Bool) (h : isF f n = b) (w : World) :
    Calls Try.prog 19 #[.int .i64 f, .int .i64 n] w fun e w' => e = .returned (.bool b) ∧ w' = w := by
  have := refField_any f n w
  rwa [h] at this

theorem quo2 (a : Nat) (h : U64 a) : IntKind.u64.wrap ((a : Int) / 2) = ((a / 2 : Nat) : Int) := by
  show IntKind.u64.wrap ((a / 2 : Nat) : Int) = _
  exact u64_keep _ (by unfold U64 at *; omega)
theorem refbit_any (x : Nat) (i : Int) (hx : U64 x) (h0 : 0 ≤ i) (h1 : i ≤ 128) (w : World) :
    Calls Try.prog 26 #[.int .u64 x, .int .i64 i] w fun e w' => e = .returned (.int .u64 (bitN x i.toNat)) ∧ w' = w := by
  obtain ⟨i, rfl⟩ := Int.eq_ofNat_of_zero_le h0
  rw [Int.toNat_natCast]
  go_enter Try.func26, Try.ntmps26
  go_wp2
  go_loop [0, 5] (fun v k => ∃ j : Nat, j ≤ i ∧ k = .int .i64 j ∧ v = .int .u64 (shrN x j)) (fun _ k => i - (intOf k).toNat)
  case atStart => exact ⟨0, by omega, rfl, by rw [shrN_zero]⟩
  case round =>
    obtain ⟨j, hj, rfl, rfl⟩ := hrel
    by_cases hlt : j < i
    · go_wp2
      go_round
      case rel => exact ⟨j + 1, by omega, by go_num, val_u64 (by rw [quo2 _ (Nat.lt_of_le_of_lt (shrN_le _ _) hx), shrN_succ])⟩
      case measure => simp [intOf]; omega
    · obtain rfl : j = i := by omega
      go_wp2
      go_ret
      exact ⟨rfl, rfl⟩

theorem refpower_any (i : Int) (h0 : 0 ≤ i) (h1 : i < 64) (w : World) :
    Calls Try.prog 27 #[.int .i64 i] w fun e w' => e = .returned (.int .u64 (p2 i.toNat)) ∧ w' = w := by
  obtain ⟨i, rfl⟩ := Int.eq_ofNat_of_zero_le h0
  rw [Int.toNat_natCast]
  go_enter Try.func27, Try.ntmps27
  go_wp2
  go_loop [3, 4] (fun v k => ∃ j : Nat, j ≤ i ∧ k = .int .i64 j ∧ v = .int .u64 (p2 j)) (fun _ k => i - (intOf k).toNat)
  case atStart => exact ⟨0, by omega, rfl, rfl⟩
  case round =>
    obtain ⟨j, hj, rfl, rfl⟩ := hrel
    by_cases hlt : j < i
    · go_wp2
      go_round
      case rel => exact ⟨j + 1, by omega, by go_num, val_u64 (by
        rw [show ((p2 j : Nat) : Int) * 2 = ((p2 j * 2 : Nat) : Int) by omega, p2_succ]; exact u64_keep _ (p2_lt _ (by omega)))⟩
      case measure => simp [intOf]; omega
    · obtain rfl : j = i := by omega
      go_wp2
      go_ret
      exact ⟨rfl, rfl⟩

theorem mul_bit (b p : Nat) (hb : b < 2) (hp : U64 p) : IntKind.u64.wrap ((b : Int) * (p : Int)) = ((b * p : Nat) : Int) := by
  rw [← Int.natCast_mul]
  refine u64_keep _ ?_
  have : b * p ≤ 1 * p := Nat.mul_le_mul_right _ (by omega)
  unfold U64 at *
  omega
set_option maxHeartbeats 400000 in
theorem refValue_any (x : Nat) (f n : Int) (hx : U64 x) (h0 : 0 ≤ f) (h1 : 1 ≤ n) (h2 : f + n ≤ 64) (w : World) :
    Calls Try.prog 23 #[.int .u64 x, .int .i64 f, .int .i64 n] w fun e w' => e = .returned (.int .u64 (getV x f.toNat n.toNat)) ∧ w' = w := by
  obtain ⟨f, rfl⟩ := Int.eq_ofNat_of_zero_le h0
  obtain ⟨n, rfl⟩ := Int.eq_ofNat_of_zero_le (show 0 ≤ n by omega)
  rw [Int.toNat_natCast, Int.toNat_natCast]
  go_enter Try.func23, Try.ntmps23
  go_wp2
  go_loop [7, 8] (fun v k => ∃ j : Nat, j ≤ n ∧ k = .int .i64 j ∧ v = .int .u64 (getV x f j)) (fun _ k => n - (intOf k).toNat)
  case atStart => exact ⟨0, by omega, rfl, by rw [getV_zero]; rfl⟩
  case round =>
    obtain ⟨j, hj, rfl, rfl⟩ := hrel
    by_cases hlt : j < n
    · go_wp2_with (first
        | (go_at_call 26; refine (refbit_any _ _ hx (by omega) (by omega) _).mono ?_; rintro e w' ⟨rfl, rfl⟩)
        | (go_at_call 27; refine (refpower_any _ (by omega) (by omega) _).mono ?_; rintro e w' ⟨rfl, rfl⟩))
      go_round
      case rel => exact ⟨j + 1, by omega, by go_num, val_u64 (by
        rw [mul_bit _ _ (bitN_lt _ _) (p2_lt _ (by omega))]
        exact add_keep _ _ _ (getV_step _ _ _) (getV_lt64 _ _ _ hx))⟩
      case measure => simp [intOf]; omega
    · obtain rfl : j = n := by omega
      go_wp2
      go_ret
      exact ⟨rfl, rfl⟩

set_option maxHeartbeats 400000 in
theorem refWith_any (x v : Nat) (f n : Int) (hx : U64 x) (hv : U64 v) (h0 : 0 ≤ f) (h1 : 1 ≤ n) (h2 : f + n ≤ 64) (w : World) :
    Calls Try.prog 25 #[.int .u64 x, .int .i64 f, .int .i64 n, .int .u64 v] w fun e w' => e = .returned (.int .u64 (setV x f.toNat n.toNat v)) ∧ w' = w := by
  obtain ⟨f, rfl⟩ := Int.eq_ofNat_of_zero_le h0
  obtain ⟨n, rfl⟩ := Int.eq_ofNat_of_zero_le (show 0 ≤ n by omega)
  rw [Int.toNat_natCast, Int.toNat_natCast]
  go_enter Try.func25, Try.ntmps25
  go_wp2
  go_loop [0, 9] (fun a k => ∃ j : Nat, j ≤ n ∧ k = .int .i64 j ∧ a = .int .u64 (setV x f j v)) (fun _ k => n - (intOf k).toNat)
  case atStart => exact ⟨0, by omega, rfl, by rw [setV_zero]⟩
  case round =>
    obtain ⟨j, hj, rfl, rfl⟩ := hrel
    by_cases hlt : j < n
    · have hs : U64 (setV x f j v) := setV_lt x f j v hx (by omega)
      have hs1 : U64 (setV x f (j + 1) v) := setV_lt x f (j + 1) v hx (by omega)
      have hp : U64 (p2 (f + j)) := p2_lt _ (by omega)
      go_wp2_with (first
        | (go_at_call_of 26 (Value.int .u64 (setV x f j v)); refine (refbit_any _ _ hs (by omega) (by omega) _).mono ?_; rintro e w' ⟨rfl, rfl⟩)
        | (go_at_call 26; refine (refbit_any _ _ hv (by omega) (by omega) _).mono ?_; rintro e w' ⟨rfl, rfl⟩)
        | (go_at_call 27; refine (refpower_any _ (by omega) (by omega) _).mono ?_; rintro e w' ⟨rfl, rfl⟩))
      go_round
      case rel => exact ⟨j + 1, by omega, by go_num, val_u64 (by
        rw [mul_bit _ _ (bitN_lt _ _) hp, mul_bit _ _ (bitN_lt _ _) hp,
          sub_keep _ _ (setV_le _ _ _ _) hs]
        exact add_keep _ _ _ (setV_step _ _ _ _) hs1)⟩
      case measure => simp [intOf]; omega
    · obtain rfl : j = n := by omega
      go_wp2
      go_ret
      exact ⟨rfl, rfl⟩
end Go.Proofs.Ytgckcjjjapmnhaa
