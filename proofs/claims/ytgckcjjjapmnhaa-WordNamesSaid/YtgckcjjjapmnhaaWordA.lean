/-
  Contracts of package word and of its reference, over this translation: bytes.
-/
import Derived.Test.YtgckcjjjapmnhaaWordC
import Derived.Stop.BytesEq
namespace Go.Proofs.Ytgckcjjjapmnhaa
open Go.ChangeShapes Go.WideShapes Go.ChangeAt Go.RowKit

/-- The array of eight bytes. -/
abbrev arr (b0 b1 b2 b3 b4 b5 b6 b7 : Int) : Value := .agg #[.int .u8 b0, .int .u8 b1, .int .u8 b2, .int .u8 b3, .int .u8 b4, .int .u8 b5, .int .u8 b6, .int .u8 b7]
theorem arr_congr {a0 a1 a2 a3 a4 a5 a6 a7 b0 b1 b2 b3 b4 b5 b6 b7 : Int} (h0 : a0 = b0) (h1 : a1 = b1) (h2 : a2 = b2) (h3 : a3 = b3) (h4 : a4 = b4) (h5 : a5 = b5) (h6 : a6 = b6) (h7 : a7 = b7) :
    Ending.returned (arr a0 a1 a2 a3 a4 a5 a6 a7) = .returned (arr b0 b1 b2 b3 b4 b5 b6 b7) := by rw [h0, h1, h2, h3, h4, h5, h6, h7]
abbrev bytesE (x : Nat) : Ending := .returned (arr (byteN x 0) (byteN x 1) (byteN x 2) (byteN x 3) (byteN x 4) (byteN x 5) (byteN x 6) (byteN x 7))
theorem byte_cast (x i n : Nat) (h : 256 ^ i = n) : (x : Int) / (n : Int) % 256 = ((byteN x i : Nat) : Int) := by
  subst h; unfold byteN; simp
set_option maxHeartbeats 400000 in
theorem bytes_any (x : Nat) (w : World) :
    Calls Try.prog 15 #[.int .u64 x] w fun e w' => e = bytesE x ∧ Gr w w' := by
  go_enter Try.func15, Try.ntmps15
  go_wp2
  go_rounds 9
  refine bodyPost_ret (v := arr (x % 256) (x / 256 % 256) (x / 65536 % 256) (x / 16777216 % 256) (x / 4294967296 % 256) (x / 1099511627776 % 256) (x / 281474976710656 % 256) (x / 72057594037927936 % 256)) (by simp [results, Try.results15, go_sem]) rfl ⟨?_, ((Gr.refl _).alloc _ _).alloc _ _⟩
  · refine arr_congr ?_ (byte_cast x 1 _ (by decide)) (byte_cast x 2 _ (by decide)) (byte_cast x 3 _ (by decide)) (byte_cast x 4 _ (by decide)) (byte_cast x 5 _ (by decide)) (byte_cast x 6 _ (by decide)) (byte_cast x 7 _ (by decide))
    simp [byteN]

theorem fits_any (x : Nat) (n : Int) (h1 : 1 ≤ n) (h2 : n ≤ 64) (hx : U64 x) (w : World) :
    Calls Try.prog 24 #[.int .u64 x, .int .i64 n] w fun e w' => e = .returned (.bool (decide (x < p2 n.toNat))) ∧ w' = w := by
  by_cases h : n = 64
  · subst h
    go_enter Try.func24, Try.ntmps24
    go_wp2
    go_ret
    refine ⟨?_, rfl⟩
    have : x < p2 64 := by unfold U64 at hx; unfold p2; omega
    simp [this]
  · have hb : ((n : Int) == 64) = false := by simpa using h
    go_enter Try.func24, Try.ntmps24
    go_wp2_with ((go_at_call 27; refine (refpower_any _ (by omega) (by omega) _).mono ?_; rintro e w' ⟨rfl, rfl⟩))
    go_ret
    exact ⟨by simp, rfl⟩

theorem sh8_next (x i : Nat) (hx : U64 x) : IntKind.u64.wrap ((sh8 x i : Int) / 256) = ((sh8 x (i + 1) : Nat) : Int) := by
  have h : ((sh8 x i : Int) / 256) = ((sh8 x i / 256 : Nat) : Int) := rfl
  rw [h, sh8_succ]
  exact u64_keep _ (Nat.lt_of_le_of_lt (sh8_le _ _) hx)
theorem sh8_byte (x i : Nat) : ((sh8 x i : Int) % 256) = ((byteN x i : Nat) : Int) := rfl
set_option maxHeartbeats 400000 in
theorem refBytes_any (x : Nat) (hx : U64 x) (w : World) :
    Calls Try.prog 16 #[.int .u64 x] w fun e w' => e = bytesE x ∧ Gr w w' := by
  obtain ⟨y, hy⟩ : ∃ y, y = sh8 x 0 := ⟨_, rfl⟩
  rw [show ((x : Nat) : Int) = ((sh8 x 0 : Nat) : Int) by rw [sh8_zero]]
  have r0 := sh8_next x 0 hx
  have r1 := sh8_next x 1 hx
  have r2 := sh8_next x 2 hx
  have r3 := sh8_next x 3 hx
  have r4 := sh8_next x 4 hx
  have r5 := sh8_next x 5 hx
  have r6 := sh8_next x 6 hx
  have r7 := sh8_next x 7 hx
  simp only [Nat.reduceAdd] at r0 r1 r2 r3 r4 r5 r6 r7
  clear hx hy
  go_enter Try.func16, Try.ntmps16
  go_wp2
  go_rounds 9
  refine bodyPost_ret (v := arr (sh8 x 0 % 256) (sh8 x 1 % 256) (sh8 x 2 % 256) (sh8 x 3 % 256) (sh8 x 4 % 256) (sh8 x 5 % 256) (sh8 x 6 % 256) (sh8 x 7 % 256)) (by simp [results, Try.results16, go_sem]) rfl ⟨rfl, ((Gr.refl _).alloc _ _).alloc _ _⟩

theorem idx8 (v0 v1 v2 v3 v4 v5 v6 v7 : Value) (w : World) :
    (Instr.index 33 (.agg #[v0, v1, v2, v3, v4, v5, v6, v7]) (.int .i64 0)).run Try.prog w = .ok v0 w ∧
    (Instr.index 33 (.agg #[v0, v1, v2, v3, v4, v5, v6, v7]) (.int .i64 1)).run Try.prog w = .ok v1 w ∧
    (Instr.index 33 (.agg #[v0, v1, v2, v3, v4, v5, v6, v7]) (.int .i64 2)).run Try.prog w = .ok v2 w ∧
    (Instr.index 33 (.agg #[v0, v1, v2, v3, v4, v5, v6, v7]) (.int .i64 3)).run Try.prog w = .ok v3 w ∧
    (Instr.index 33 (.agg #[v0, v1, v2, v3, v4, v5, v6, v7]) (.int .i64 4)).run Try.prog w = .ok v4 w ∧
    (Instr.index 33 (.agg #[v0, v1, v2, v3, v4, v5, v6, v7]) (.int .i64 5)).run Try.prog w = .ok v5 w ∧
    (Instr.index 33 (.agg #[v0, v1, v2, v3, v4, v5, v6, v7]) (.int .i64 6)).run Try.prog w = .ok v6 w ∧
    (Instr.index 33 (.agg #[v0, v1, v2, v3, v4, v5, v6, v7]) (.int .i64 7)).run Try.prog w = .ok v7 w := by
  refine ⟨?_, ?_, ?_, ?_, ?_, ?_, ?_, ?_⟩ <;> kernel_rfl

theorem byte_keep (x i : Nat) : IntKind.u64.wrap (byteN x i : Int) = ((byteN x i : Nat) : Int) :=
  u64_keep _ (by have := byteN_lt x i; unfold U64; omega)
theorem bsh_keep (x i : Nat) (hi : i < 8) (n : Nat) (hn : 256 ^ i = n) : IntKind.u64.wrap ((byteN x i : Int) * (n : Int)) = ((bsh x i : Nat) : Int) := by
  subst hn
  rw [← Int.natCast_mul]
  exact u64_keep _ (bsh_lt x i hi)
theorem lo8_or (x i : Nat) (hi : i < 8) : bits BinOp.or IntKind.u64 (lo8 x i : Int) (bsh x i : Int) = ((lo8 x (i + 1) : Nat) : Int) := by
  rw [u64_or_nat _ _ (lo8_lt x i (by omega)) (bsh_lt x i hi), lo8_join]
theorem lo8_first (x : Nat) : bits BinOp.or IntKind.u64 0 (byteN x 0 : Int) = ((lo8 x 1 : Nat) : Int) := by
  have := lo8_or x 0 (by omega)
  simpa [bsh, lo8, byteN, Nat.mod_one] using this
set_option maxHeartbeats 400000 in
theorem of_any (x : Nat) (hx : U64 x) (w : World) :
    Calls Try.prog 17 #[.agg #[.int .u8 (byteN x 0), .int .u8 (byteN x 1), .int .u8 (byteN x 2), .int .u8 (byteN x 3), .int .u8 (byteN x 4), .int .u8 (byteN x 5), .int .u8 (byteN x 6), .int .u8 (byteN x 7)]] w fun e w' => e = .returned (.int .u64 x) ∧ Gr w w' := by
  have u0 := byte_keep x 0
  have u1 := byte_keep x 1
  have u2 := byte_keep x 2
  have u3 := byte_keep x 3
  have u4 := byte_keep x 4
  have u5 := byte_keep x 5
  have u6 := byte_keep x 6
  have u7 := byte_keep x 7
  have s1 : IntKind.u64.wrap ((byteN x 1 : Int) * 256) = ((bsh x 1 : Nat) : Int) := bsh_keep x 1 (by omega) _ (by decide)
  have s2 : IntKind.u64.wrap ((byteN x 2 : Int) * 65536) = ((bsh x 2 : Nat) : Int) := bsh_keep x 2 (by omega) _ (by decide)
  have s3 : IntKind.u64.wrap ((byteN x 3 : Int) * 16777216) = ((bsh x 3 : Nat) : Int) := bsh_keep x 3 (by omega) _ (by decide)
  have s4 : IntKind.u64.wrap ((byteN x 4 : Int) * 4294967296) = ((bsh x 4 : Nat) : Int) := bsh_keep x 4 (by omega) _ (by decide)
  have s5 : IntKind.u64.wrap ((byteN x 5 : Int) * 1099511627776) = ((bsh x 5 : Nat) : Int) := bsh_keep x 5 (by omega) _ (by decide)
  have s6 : IntKind.u64.wrap ((byteN x 6 : Int) * 281474976710656) = ((bsh x 6 : Nat) : Int) := bsh_keep x 6 (by omega) _ (by decide)
  have s7 : IntKind.u64.wrap ((byteN x 7 : Int) * 72057594037927936) = ((bsh x 7 : Nat) : Int) := bsh_keep x 7 (by omega) _ (by decide)
  have o0 : bits BinOp.or IntKind.u64 0 (byteN x 0 : Int) = ((lo8 x 1 : Nat) : Int) := lo8_first x
  have o1 : bits BinOp.or IntKind.u64 (lo8 x 1 : Int) (bsh x 1 : Int) = ((lo8 x 2 : Nat) : Int) := lo8_or x 1 (by omega)
  have o2 : bits BinOp.or IntKind.u64 (lo8 x 2 : Int) (bsh x 2 : Int) = ((lo8 x 3 : Nat) : Int) := lo8_or x 2 (by omega)
  have o3 : bits BinOp.or IntKind.u64 (lo8 x 3 : Int) (bsh x 3 : Int) = ((lo8 x 4 : Nat) : Int) := lo8_or x 3 (by omega)
  have o4 : bits BinOp.or IntKind.u64 (lo8 x 4 : Int) (bsh x 4 : Int) = ((lo8 x 5 : Nat) : Int) := lo8_or x 4 (by omega)
  have o5 : bits BinOp.or IntKind.u64 (lo8 x 5 : Int) (bsh x 5 : Int) = ((lo8 x 6 : Nat) : Int) := lo8_or x 5 (by omega)
  have o6 : bits BinOp.or IntKind.u64 (lo8 x 6 : Int) (bsh x 6 : Int) = ((lo8 x 7 : Nat) : Int) := lo8_or x 6 (by omega)
  have o7 : bits BinOp.or IntKind.u64 (lo8 x 7 : Int) (bsh x 7 : Int) = ((lo8 x 8 : Nat) : Int) := lo8_or x 7 (by omega)
  have h8 : lo8 x 8 = x := lo8_all x hx
  have H8 := Lib.hid h8
  clear h8
  clear hx
  go_enter Try.func17, Try.ntmps17
  have HI := fun w => idx8 (.int .u8 (byteN x 0)) (.int .u8 (byteN x 1)) (.int .u8 (byteN x 2)) (.int .u8 (byteN x 3)) (.int .u8 (byteN x 4)) (.int .u8 (byteN x 5)) (.int .u8 (byteN x 6)) (.int .u8 (byteN x 7)) w
  go_wp2
  go_rounds 9
  go_ret
  exact ⟨congrArg (fun z : Nat => Ending.returned (.int .u64 (z : Int))) H8.out, (Gr.refl _).alloc _ _⟩
theorem hi8_keep (x i : Nat) (hx : U64 x) : IntKind.u64.wrap (256 * (sh8 x (i + 1) : Int)) = ((hi8 x (i + 1) : Nat) : Int) := by
  rw [show (256 * (sh8 x (i + 1) : Int)) = ((hi8 x (i + 1) : Nat) : Int) by unfold hi8; omega]
  exact u64_keep _ (hi8_lt x i hx)
theorem hi8_first (x : Nat) (hx : U64 x) : IntKind.u64.wrap (256 * (byteN x 7 : Int)) = ((hi8 x 7 : Nat) : Int) := by
  rw [← sh8_top x hx]; exact hi8_keep x 6 hx
theorem hi8_plus (x i : Nat) (hx : U64 x) : IntKind.u64.wrap ((hi8 x (i + 1) : Int) + (byteN x i : Int)) = ((sh8 x i : Nat) : Int) :=
  add_keep _ _ _ (hi8_add x i) (Nat.lt_of_le_of_lt (sh8_le x i) hx)
set_option maxHeartbeats 400000 in
theorem refOf_any (x : Nat) (hx : U64 x) (w : World) :
    Calls Try.prog 18 #[.agg #[.int .u8 (byteN x 0), .int .u8 (byteN x 1), .int .u8 (byteN x 2), .int .u8 (byteN x 3), .int .u8 (byteN x 4), .int .u8 (byteN x 5), .int .u8 (byteN x 6), .int .u8 (byteN x 7)]] w fun e w' => e = .returned (.int .u64 x) ∧ Gr w w' := by
  have u0 := byte_keep x 0
  have u1 := byte_keep x 1
  have u2 := byte_keep x 2
  have u3 := byte_keep x 3
  have u4 := byte_keep x 4
  have u5 := byte_keep x 5
  have u6 := byte_keep x 6
  have u7 := byte_keep x 7
  have m7 : IntKind.u64.wrap (256 * (byteN x 7 : Int)) = ((hi8 x 7 : Nat) : Int) := hi8_first x hx
  have m1 : IntKind.u64.wrap (256 * (sh8 x 1 : Int)) = ((hi8 x 1 : Nat) : Int) := hi8_keep x 0 hx
  have m2 : IntKind.u64.wrap (256 * (sh8 x 2 : Int)) = ((hi8 x 2 : Nat) : Int) := hi8_keep x 1 hx
  have m3 : IntKind.u64.wrap (256 * (sh8 x 3 : Int)) = ((hi8 x 3 : Nat) : Int) := hi8_keep x 2 hx
  have m4 : IntKind.u64.wrap (256 * (sh8 x 4 : Int)) = ((hi8 x 4 : Nat) : Int) := hi8_keep x 3 hx
  have m5 : IntKind.u64.wrap (256 * (sh8 x 5 : Int)) = ((hi8 x 5 : Nat) : Int) := hi8_keep x 4 hx
  have m6 : IntKind.u64.wrap (256 * (sh8 x 6 : Int)) = ((hi8 x 6 : Nat) : Int) := hi8_keep x 5 hx
  have a0 : IntKind.u64.wrap ((hi8 x 1 : Int) + (byteN x 0 : Int)) = ((sh8 x 0 : Nat) : Int) := hi8_plus x 0 hx
  have a1 : IntKind.u64.wrap ((hi8 x 2 : Int) + (byteN x 1 : Int)) = ((sh8 x 1 : Nat) : Int) := hi8_plus x 1 hx
  have a2 : IntKind.u64.wrap ((hi8 x 3 : Int) + (byteN x 2 : Int)) = ((sh8 x 2 : Nat) : Int) := hi8_plus x 2 hx
  have a3 : IntKind.u64.wrap ((hi8 x 4 : Int) + (byteN x 3 : Int)) = ((sh8 x 3 : Nat) : Int) := hi8_plus x 3 hx
  have a4 : IntKind.u64.wrap ((hi8 x 5 : Int) + (byteN x 4 : Int)) = ((sh8 x 4 : Nat) : Int) := hi8_plus x 4 hx
  have a5 : IntKind.u64.wrap ((hi8 x 6 : Int) + (byteN x 5 : Int)) = ((sh8 x 5 : Nat) : Int) := hi8_plus x 5 hx
  have a6 : IntKind.u64.wrap ((hi8 x 7 : Int) + (byteN x 6 : Int)) = ((sh8 x 6 : Nat) : Int) := hi8_plus x 6 hx
  have h8 := Lib.hid (sh8_zero x)
  clear hx
  go_enter Try.func18, Try.ntmps18
  go_wp2
  go_rounds 9
  go_ret
  exact ⟨congrArg (fun z : Nat => Ending.returned (.int .u64 (z : Int))) h8.out, (Gr.refl _).alloc _ _⟩

theorem refGet_no (x f n : Int) (h : isF f n = false) (w : World) :
    Calls Try.prog 13 #[.int .u64 x, .int .i64 f, .int .i64 n] w fun e w' => e = two 0 2 ∧ w' = w := by
  have H := Lib.hid h
  clear h
  go_enter Try.func13, Try.ntmps13
  go_wp2_with (go_at_call 19; refine (refField_as _ _ _ H.out _).mono ?_; rintro e w' ⟨rfl, rfl⟩)
  go_ret2
  exact ⟨rfl, rfl⟩
theorem refGet_yes (x : Nat) (f n : Int) (hx : U64 x) (h : isF f n = true) (w : World) :
    Calls Try.prog 13 #[.int .u64 x, .int .i64 f, .int .i64 n] w fun e w' => e = two (getV x f.toNat n.toNat) 0 ∧ w' = w := by
  have hf := (isF_iff f n).1 h
  obtain ⟨h1, h2, h3, h4⟩ := hf
  have H := Lib.hid h
  clear h
  go_enter Try.func13, Try.ntmps13
  go_wp2_with (first
    | (go_at_call 19; refine (refField_as _ _ _ H.out _).mono ?_; rintro e w' ⟨rfl, rfl⟩)
    | (go_at_call 23; refine (refValue_any _ _ _ hx (by omega) (by omega) (by omega) _).mono ?_; rintro e w' ⟨rfl, rfl⟩))
  go_ret2
  exact ⟨rfl, rfl⟩
theorem refSet_no (x v f n : Int) (h : isF f n = false) (w : World) :
    Calls Try.prog 14 #[.int .u64 x, .int .i64 f, .int .i64 n, .int .u64 v] w fun e w' => e = two 0 2 ∧ w' = w := by
  have H := Lib.hid h
  clear h
  go_enter Try.func14, Try.ntmps14
  go_wp2_with (go_at_call 19; refine (refField_as _ _ _ H.out _).mono ?_; rintro e w' ⟨rfl, rfl⟩)
  go_ret2
  exact ⟨rfl, rfl⟩
theorem fits_as (x : Nat) (n : Int) (b : Bool) (h : decide (x < p2 n.toNat) = b) (h1 : 1 ≤ n) (h2 : n ≤ 64) (hx : U64 x) (w : World) :
    Calls Try.prog 24 #[.int .u64 x, .int .i64 n] w fun e w' => e = .returned (.bool b) ∧ w' = w := by
  have := fits_any x n h1 h2 hx w
  rwa [h] at this
theorem refSet_wide (x v : Nat) (f n : Int) (hv64 : U64 v) (h : isF f n = true) (hv : 2 ^ n.toNat ≤ v) (w : World) :
    Calls Try.prog 14 #[.int .u64 x, .int .i64 f, .int .i64 n, .int .u64 v] w fun e w' => e = two 0 16 ∧ w' = w := by
  have hf := (isF_iff f n).1 h
  obtain ⟨h1, h2, h3, h4⟩ := hf
  have H := Lib.hid h
  have HV := Lib.hid (show decide (v < p2 n.toNat) = false by unfold p2; simp; exact hv)
  clear h hv
  go_enter Try.func14, Try.ntmps14
  go_wp2_with (first
    | (go_at_call 19; refine (refField_as _ _ _ H.out _).mono ?_; rintro e w' ⟨rfl, rfl⟩)
    | (go_at_call 24; refine (fits_as _ _ _ HV.out (by omega) (by omega) hv64 _).mono ?_; rintro e w' ⟨rfl, rfl⟩))
  go_ret2
  exact ⟨rfl, rfl⟩
theorem refSet_yes (x v : Nat) (f n : Int) (hx : U64 x) (hv64 : U64 v) (h : isF f n = true) (hv : v < 2 ^ n.toNat) (w : World) :
    Calls Try.prog 14 #[.int .u64 x, .int .i64 f, .int .i64 n, .int .u64 v] w fun e w' => e = two (setV x f.toNat n.toNat v) 0 ∧ w' = w := by
  have hf := (isF_iff f n).1 h
  obtain ⟨h1, h2, h3, h4⟩ := hf
  have H := Lib.hid h
  have HV := Lib.hid (show decide (v < p2 n.toNat) = true by unfold p2; simp; exact hv)
  clear h hv
  go_enter Try.func14, Try.ntmps14
  go_wp2_with (first
    | (go_at_call 19; refine (refField_as _ _ _ H.out _).mono ?_; rintro e w' ⟨rfl, rfl⟩)
    | (go_at_call 24; refine (fits_as _ _ _ HV.out (by omega) (by omega) hv64 _).mono ?_; rintro e w' ⟨rfl, rfl⟩)
    | (go_at_call 25; refine (refWith_any _ _ _ _ hx hv64 (by omega) (by omega) (by omega) _).mono ?_; rintro e w' ⟨rfl, rfl⟩))
  go_ret2
  exact ⟨rfl, rfl⟩

/-! ### The statements' own helpers -/
def cutN (v : Nat) (n : Int) : Nat := if 64 ≤ n then v else v % p2 n.toNat
theorem cut_any (v : Nat) (n : Int) (hv : U64 v) (h1 : 1 ≤ n) (w : World) :
    Calls Try.prog 20 #[.int .u64 v, .int .i64 n] w fun e w' => e = .returned (.int .u64 (cutN v n)) ∧ w' = w := by
  obtain ⟨n, rfl⟩ := Int.eq_ofNat_of_zero_le (show 0 ≤ n by omega)
  by_cases h : (n : Int) < 64
  · have hr : bits BinOp.and IntKind.u64 (v : Int) (IntKind.u64.wrap (IntKind.u64.wrap (2 ^ n) - 1)) = ((cutN v n : Nat) : Int) := by
      have ho : 2 ^ n - 1 < 18446744073709551616 := by have := two_pow_le64 n (by omega); have := Nat.two_pow_pos n; omega
      rw [ones_wrap n (by omega) (by omega)]
      unfold ones cutN
      rw [Int.toNat_natCast, u64_and_nat _ _ hv ho, if_neg (by omega), Nat.and_two_pow_sub_one_eq_mod]
      rfl
    go_enter Try.func20, Try.ntmps20
    go_wp2
    go_ret
    exact ⟨rfl, rfl⟩
  · have hr : Hid (cutN v n = v) := if_pos (by omega)
    go_enter Try.func20, Try.ntmps20
    go_wp2
    go_ret
    exact ⟨congrArg (fun z : Nat => Ending.returned (.int .u64 (z : Int))) hr.out.symm, rfl⟩

theorem get_4660 (w : World) : Calls Try.prog 10 #[.int .u64 4660, .int .i64 4, .int .i64 8] w fun e w' => e = two 35 0 ∧ ∃ q, w' = w.drewN q :=
  get_yes 4660 4 8 (by unfold U64; omega) (by decide) w
theorem set_4660 (w : World) : Calls Try.prog 11 #[.int .u64 4660, .int .i64 4, .int .i64 8, .int .u64 255] w fun e w' => e = two 8180 0 ∧ ∃ q, w' = w.drewN q :=
  set_yes 4660 255 4 8 (by unfold U64; omega) (by decide) (by decide) w
theorem bytes_258 (w : World) : Calls Try.prog 15 #[.int .u64 258] w fun e w' => e = .returned (arr 2 1 0 0 0 0 0 0) ∧ Gr w w' :=
  bytes_any 258 w
theorem cell_nat (b : Nat) (h : b < 256) : Extern.Stop.cell (UInt8.ofNat b) = .int .u8 (b : Int) := by
  simp [Extern.Stop.cell, Nat.mod_eq_of_lt h]
theorem arr_cells (b0 b1 b2 b3 b4 b5 b6 b7 : Nat) (h0 : b0 < 256) (h1 : b1 < 256) (h2 : b2 < 256) (h3 : b3 < 256) (h4 : b4 < 256) (h5 : b5 < 256) (h6 : b6 < 256) (h7 : b7 < 256) :
    arr b0 b1 b2 b3 b4 b5 b6 b7 = .agg ([UInt8.ofNat b0, UInt8.ofNat b1, UInt8.ofNat b2, UInt8.ofNat b3, UInt8.ofNat b4, UInt8.ofNat b5, UInt8.ofNat b6, UInt8.ofNat b7].map Extern.Stop.cell).toArray := by
  simp only [List.map, cell_nat _ h0, cell_nat _ h1, cell_nat _ h2, cell_nat _ h3, cell_nat _ h4, cell_nat _ h5, cell_nat _ h6, cell_nat _ h7]
theorem arr_same (b0 b1 b2 b3 b4 b5 b6 b7 : Nat) (h0 : b0 < 256) (h1 : b1 < 256) (h2 : b2 < 256) (h3 : b3 < 256) (h4 : b4 < 256) (h5 : b5 < 256) (h6 : b6 < 256) (h7 : b7 < 256) (w : World) :
    (binOp .eql 33 (arr b0 b1 b2 b3 b4 b5 b6 b7) (arr b0 b1 b2 b3 b4 b5 b6 b7)).run Try.prog w = .ok (.bool true) w := by
  rw [arr_cells b0 b1 b2 b3 b4 b5 b6 b7 h0 h1 h2 h3 h4 h5 h6 h7, run_eql_bytes w 33 5 8 Try.underlying33 Try.underlying5 (fun _ => by kernel_rfl) _ _ rfl rfl]
  simp
theorem arr_in (b0 b1 b2 b3 b4 b5 b6 b7 : Nat) (h0 : b0 < 256) (h1 : b1 < 256) (h2 : b2 < 256) (h3 : b3 < 256) (h4 : b4 < 256) (h5 : b5 < 256) (h6 : b6 < 256) (h7 : b7 < 256) (w : World) :
    (Op.equalIn 10000 33 (arr b0 b1 b2 b3 b4 b5 b6 b7) (arr b0 b1 b2 b3 b4 b5 b6 b7)).run Try.prog w = .ok true w := by
  rw [arr_cells b0 b1 b2 b3 b4 b5 b6 b7 h0 h1 h2 h3 h4 h5 h6 h7, run_equalIn_bytes w 9998 33 5 8 Try.underlying33 Try.underlying5 (fun _ => by kernel_rfl) _ _ rfl rfl]
  simp
set_option maxHeartbeats 800000 in
theorem alive_any (w : World) : Calls Try.prog 12 #[] w fun e w' => e = .returned (.bool true) ∧ Gr w w' := by
  have he : ∀ w, (Op.equalIn 10000 33 (arr 2 1 0 0 0 0 0 0) (arr 2 1 0 0 0 0 0 0)).run Try.prog w = .ok true w :=
    arr_in 2 1 0 0 0 0 0 0 (by decide) (by decide) (by decide) (by decide) (by decide) (by decide) (by decide) (by decide)
  go_enter Try.func12, Try.ntmps12
  go_wp2_with (fail)
  refine (get_4660 _).mono ?_
  rintro e w' ⟨rfl, q1, rfl⟩
  go_wp2_with (fail)
  refine (set_4660 _).mono ?_
  rintro e w' ⟨rfl, q2, rfl⟩
  go_wp2_with (fail)
  refine (bytes_258 _).mono ?_
  rintro e w' ⟨rfl, hg⟩
  have HG := Lib.hid hg
  clear hg
  go_wp2
  go_ret
  exact ⟨rfl, HG.out.of_drewN⟩
end Go.Proofs.Ytgckcjjjapmnhaa
