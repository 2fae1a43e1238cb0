/-
  The walks of the statements on package word: each answers true, whatever the input.
-/
import Derived.Test.YtgckcjjjapmnhaaWordA
import Derived.Deep.RegionHeld3
namespace Go.Proofs.Ytgckcjjjapmnhaa
open Go.ChangeShapes Go.WideShapes Go.ChangeAt Go.RowKit

theorem walk_WordFields (x : Nat) (hx : U64 x) (f : Int) (_ : I64 f) (n : Int) (_ : I64 n) (v : Nat) (hv : U64 v) (w : World) :
    Calls Try.prog 4 #[.int .u64 x, .int .i64 f, .int .i64 n, .int .u64 v] w fun e w' => e = .returned (.bool true) ∧ Gr w w' := by
  cases hF : isF f n
  · have H := Lib.hid hF
    clear hF
    go_enter Try.func4, Try.ntmps4
    go_wp2_with (first
      | (go_at_call 10; refine (get_no _ _ _ H.out _).mono ?_; rintro e w' ⟨rfl, rfl⟩)
      | (go_at_call 13; refine (refGet_no _ _ _ H.out _).mono ?_; rintro e w' ⟨rfl, rfl⟩)
      | (go_at_call 11; refine (set_no _ _ _ _ H.out _).mono ?_; rintro e w' ⟨rfl, rfl⟩)
      | (go_at_call 14; refine (refSet_no _ _ _ _ H.out _).mono ?_; rintro e w' ⟨rfl, rfl⟩))
    go_ret
    exact ⟨rfl, Gr.refl _⟩
  · have H := Lib.hid hF
    clear hF
    by_cases hw : v < 2 ^ n.toNat
    · have HV := Lib.hid hw
      clear hw
      go_enter Try.func4, Try.ntmps4
      go_wp2_with (first
        | (go_at_call 10; refine (get_yes _ _ _ hx H.out _).mono ?_; rintro e w' ⟨rfl, q1, rfl⟩)
        | (go_at_call 13; refine (refGet_yes _ _ _ hx H.out _).mono ?_; rintro e w' ⟨rfl, rfl⟩)
        | (go_at_call 11; refine (set_yes _ _ _ _ hx H.out HV.out _).mono ?_; rintro e w' ⟨rfl, q2, rfl⟩)
        | (go_at_call 14; refine (refSet_yes _ _ _ _ hx hv H.out HV.out _).mono ?_; rintro e w' ⟨rfl, rfl⟩))
      go_ret
      exact ⟨rfl, (Gr.refl _).drewN _⟩
    · have HV := Lib.hid (Nat.not_lt.1 hw)
      clear hw
      go_enter Try.func4, Try.ntmps4
      go_wp2_with (first
        | (go_at_call 10; refine (get_yes _ _ _ hx H.out _).mono ?_; rintro e w' ⟨rfl, q1, rfl⟩)
        | (go_at_call 13; refine (refGet_yes _ _ _ hx H.out _).mono ?_; rintro e w' ⟨rfl, rfl⟩)
        | (go_at_call 11; refine (set_wide _ _ _ _ H.out HV.out _).mono ?_; rintro e w' ⟨rfl, rfl⟩)
        | (go_at_call 14; refine (refSet_wide _ _ _ _ hv H.out HV.out _).mono ?_; rintro e w' ⟨rfl, rfl⟩))
      go_ret
      exact ⟨rfl, (Gr.refl _).drewN _⟩

theorem eight (xs : List Nat) (h : xs.length = 8) : ∃ b0 b1 b2 b3 b4 b5 b6 b7, xs = [b0, b1, b2, b3, b4, b5, b6, b7] := by
  match xs, h with
  | [b0, b1, b2, b3, b4, b5, b6, b7], _ => exact ⟨_, _, _, _, _, _, _, _, rfl⟩

theorem ofN_bytes (b0 b1 b2 b3 b4 b5 b6 b7 : Nat) (h0 : b0 < 256) (h1 : b1 < 256) (h2 : b2 < 256) (h3 : b3 < 256) (h4 : b4 < 256) (h5 : b5 < 256) (h6 : b6 < 256) (h7 : b7 < 256) :
    ∃ y, U64 y ∧ b0 = byteN y 0 ∧ b1 = byteN y 1 ∧ b2 = byteN y 2 ∧ b3 = byteN y 3 ∧ b4 = byteN y 4 ∧ b5 = byteN y 5 ∧ b6 = byteN y 6 ∧ b7 = byteN y 7 := by
  refine ⟨ofN b0 b1 b2 b3 b4 b5 b6 b7, ?_, ?_⟩
  · unfold U64 ofN; omega
  · simp only [byteN, ofN, Nat.reducePow]; omega

theorem boxed_keep (y : Nat) (w w' : World) (h : Gr (w.alloc (.cells #[.int .u8 (byteN y 0), .int .u8 (byteN y 1), .int .u8 (byteN y 2), .int .u8 (byteN y 3), .int .u8 (byteN y 4), .int .u8 (byteN y 5), .int .u8 (byteN y 6), .int .u8 (byteN y 7)] 33)) w') :
    Gr (w.alloc (.cells #[.int .u8 (byteN y 0), .int .u8 (byteN y 1), .int .u8 (byteN y 2), .int .u8 (byteN y 3), .int .u8 (byteN y 4), .int .u8 (byteN y 5), .int .u8 (byteN y 6), .int .u8 (byteN y 7)] 33)) w' ∧ w'.cell? ⟨w.heap.size, 0, none⟩ = some (.int .u8 (byteN y 0)) ∧ w'.cell? ⟨w.heap.size, 1, none⟩ = some (.int .u8 (byteN y 1)) ∧ w'.cell? ⟨w.heap.size, 2, none⟩ = some (.int .u8 (byteN y 2)) ∧ w'.cell? ⟨w.heap.size, 3, none⟩ = some (.int .u8 (byteN y 3)) ∧ w'.cell? ⟨w.heap.size, 4, none⟩ = some (.int .u8 (byteN y 4)) ∧ w'.cell? ⟨w.heap.size, 5, none⟩ = some (.int .u8 (byteN y 5)) ∧ w'.cell? ⟨w.heap.size, 6, none⟩ = some (.int .u8 (byteN y 6)) ∧ w'.cell? ⟨w.heap.size, 7, none⟩ = some (.int .u8 (byteN y 7)) := by
  have hc : ∀ i, w'.cell? ⟨w.heap.size, i, none⟩ = (w.alloc (.cells #[.int .u8 (byteN y 0), .int .u8 (byteN y 1), .int .u8 (byteN y 2), .int .u8 (byteN y 3), .int .u8 (byteN y 4), .int .u8 (byteN y 5), .int .u8 (byteN y 6), .int .u8 (byteN y 7)] 33)).cell? ⟨w.heap.size, i, none⟩ := fun i => h.cell (p := ⟨w.heap.size, i, none⟩) (by simp)
  refine ⟨h, ?_, ?_, ?_, ?_, ?_, ?_, ?_, ?_⟩ <;> (rw [hc]; simp [go_sem])

theorem walk_WordBytes (x : Nat) (hx : U64 x) (bs : List Nat) (hb : bs.length = 8 ∧ ∀ y ∈ bs, y < 256) (w : World) :
    Calls Try.prog 5 #[.int .u64 x, .agg (bs.map fun x : Nat => Value.int .u8 (x : Int)).toArray] w fun e w' => e = .returned (.bool true) ∧ Gr w w' := by
  obtain ⟨hl, hlt⟩ := hb
  obtain ⟨b0, b1, b2, b3, b4, b5, b6, b7, rfl⟩ := eight bs hl
  simp only [List.mem_cons, List.not_mem_nil, or_false, forall_eq_or_imp, forall_eq] at hlt
  obtain ⟨h0, h1, h2, h3, h4, h5, h6, h7⟩ := hlt
  obtain ⟨y, hy, rfl, rfl, rfl, rfl, rfl, rfl, rfl, rfl⟩ := ofN_bytes b0 b1 b2 b3 b4 b5 b6 b7 h0 h1 h2 h3 h4 h5 h6 h7
  clear h0 h1 h2 h3 h4 h5 h6 h7 hl
  have he : ∀ w, (Op.equalIn 10000 33 (arr (byteN x 0) (byteN x 1) (byteN x 2) (byteN x 3) (byteN x 4) (byteN x 5) (byteN x 6) (byteN x 7)) (arr (byteN x 0) (byteN x 1) (byteN x 2) (byteN x 3) (byteN x 4) (byteN x 5) (byteN x 6) (byteN x 7))).run Try.prog w = .ok true w :=
    arr_in _ _ _ _ _ _ _ _ (byteN_lt _ _) (byteN_lt _ _) (byteN_lt _ _) (byteN_lt _ _) (byteN_lt _ _) (byteN_lt _ _) (byteN_lt _ _) (byteN_lt _ _)
  show Calls Try.prog 5 #[.int .u64 x, arr (byteN y 0) (byteN y 1) (byteN y 2) (byteN y 3) (byteN y 4) (byteN y 5) (byteN y 6) (byteN y 7)] w _
  go_enter Try.func5, Try.ntmps5
  go_wp2_with fail
  go_region_held3 (fun w' => Gr (w.alloc (.cells #[.int .u8 (byteN y 0), .int .u8 (byteN y 1), .int .u8 (byteN y 2), .int .u8 (byteN y 3), .int .u8 (byteN y 4), .int .u8 (byteN y 5), .int .u8 (byteN y 6), .int .u8 (byteN y 7)] 33)) w' ∧ w'.cell? ⟨w.heap.size, 0, none⟩ = some (.int .u8 (byteN y 0)) ∧ w'.cell? ⟨w.heap.size, 1, none⟩ = some (.int .u8 (byteN y 1)) ∧ w'.cell? ⟨w.heap.size, 2, none⟩ = some (.int .u8 (byteN y 2)) ∧ w'.cell? ⟨w.heap.size, 3, none⟩ = some (.int .u8 (byteN y 3)) ∧ w'.cell? ⟨w.heap.size, 4, none⟩ = some (.int .u8 (byteN y 4)) ∧ w'.cell? ⟨w.heap.size, 5, none⟩ = some (.int .u8 (byteN y 5)) ∧ w'.cell? ⟨w.heap.size, 6, none⟩ = some (.int .u8 (byteN y 6)) ∧ w'.cell? ⟨w.heap.size, 7, none⟩ = some (.int .u8 (byteN y 7)))
    (exact boxed_keep y w _ (by repeat (first | assumption | exact Gr.refl _ | apply Gr.drew | apply Gr.drewN | (refine Gr.trans ?_ (by assumption)))))
    (first
      | (go_at_call 15; refine (bytes_any _ _).mono ?_; rintro e w' ⟨rfl, hg⟩)
      | (go_at_call 16; refine (refBytes_any _ hx _).mono ?_; rintro e w' ⟨rfl, hg⟩)
      | (go_at_call 17; refine (of_any _ hy _).mono ?_; rintro e w' ⟨rfl, hg⟩)
      | (go_at_call 18; refine (refOf_any _ hy _).mono ?_; rintro e w' ⟨rfl, hg⟩))
  go_wp2
  go_ret
  exact ⟨rfl, by repeat (first | assumption | exact Gr.refl _ | exact (Gr.refl _).alloc _ _ | apply Gr.drew | apply Gr.drewN | (refine Gr.trans ?_ (by assumption)))⟩

theorem cutN_lt (v : Nat) (n : Nat) (h : n ≤ 64) (hv : U64 v) : cutN v n < 2 ^ n := by
  unfold cutN
  by_cases h1 : 64 ≤ (n : Int)
  · rw [if_pos h1]
    obtain rfl : n = 64 := by omega
    unfold U64 at hv; simpa using hv
  · rw [if_neg h1]
    exact Nat.mod_lt _ (p2_pos _)
theorem cutN_u64 (v : Nat) (n : Int) (hv : U64 v) : U64 (cutN v n) := by
  unfold cutN U64 at *
  split
  · exact hv
  · exact Nat.lt_of_le_of_lt (Nat.mod_le _ _) hv
theorem isF_nat (f n : Nat) (h1 : 1 ≤ n) (h2 : f + n ≤ 64) : isF f n = true := (isF_iff _ _).2 (by omega)

theorem bit_and (a i : Nat) (h : U64 a) : bits BinOp.and IntKind.u64 ((a : Int) / 2 ^ i) 1 = ((bitN a i : Nat) : Int) := by
  rw [two_pow_cast, show ((a : Int) / ((2 ^ i : Nat) : Int)) = ((a / 2 ^ i : Nat) : Int) from rfl]
  have := u64_and_nat (a / 2 ^ i) 1 (Nat.lt_of_le_of_lt (Nat.div_le_self _ _) h) (by omega)
  rw [nat_mask1] at this
  exact this
set_option maxRecDepth 100000 in
set_option maxHeartbeats 1000000 in
theorem walk_WordPacked (x : Nat) (hx : U64 x) (f : Int) (_ : I64 f) (n : Int) (_ : I64 n) (v : Nat) (hv : U64 v) (u : Nat) (hu : U64 u) (b : Int) (_ : I64 b) (w : World) :
    Calls Try.prog 6 #[.int .u64 x, .int .i64 f, .int .i64 n, .int .u64 v, .int .u64 u, .int .i64 b] w fun e w' => e = .returned (.bool true) ∧ Gr w w' := by
  cases hF : isF f n
  · have H := Lib.hid hF
    clear hF
    go_enter Try.func6, Try.ntmps6
    go_wp2_with (first
      | (go_at_call 19; refine (refField_as _ _ _ H.out _).mono ?_; rintro e w' ⟨rfl, rfl⟩)
      | (go_at_call 12; refine (alive_any _).mono ?_; rintro e w' ⟨rfl, hg⟩; have HG := Lib.hid hg; clear hg))
    go_ret
    exact ⟨rfl, HG.out⟩
  · obtain ⟨h1, h2, h3, h4⟩ := (isF_iff f n).1 hF
    have H := Lib.hid hF
    clear hF
    obtain ⟨n, rfl⟩ := Int.eq_ofNat_of_zero_le (show 0 ≤ n by omega)
    obtain ⟨f, rfl⟩ := Int.eq_ofNat_of_zero_le (show 0 ≤ f by omega)
    by_cases hb : 0 ≤ b ∧ b ≤ 63
    · obtain ⟨hb0, hb1⟩ := hb
      obtain ⟨b, rfl⟩ := Int.eq_ofNat_of_zero_le hb0
      have hc64 := cutN_u64 v n hv
      have hd64 := cutN_u64 u n hu
      have hc := Lib.hid (cutN_lt v n (by omega) hv)
      have hd := Lib.hid (cutN_lt u n (by omega) hu)
      have HB := Lib.hid (isF_nat b 1 (by omega) (by omega))
      have hX : U64 (setV x f n (cutN v n)) := setV_lt _ _ _ _ hx (by omega)
      have r1 := getV_setV x f n _ hc.out
      have r2 := setV_setV x f n (cutN v n) (cutN u n)
      have r3 := setV_own x f n
      have ho := Lib.hid (getV_lt x f n)
      by_cases hin : f ≤ b ∧ b < f + n
      · obtain ⟨hi1, hi2⟩ := hin
        have r4 : getV (setV x f n (cutN v n)) b 1 = bitN (cutN v n) (b - f) := getV_bit_in x f n (cutN v n) b hi1 hi2
        have hsub : ((b : Int) - (f : Int)) = ((b - f : Nat) : Int) := by omega
        have r5 : bits BinOp.and IntKind.u64 ((cutN v n : Int) / 2 ^ (b - f)) 1 = ((bitN (cutN v n) (b - f) : Nat) : Int) := bit_and _ _ hc64
        go_enter Try.func6, Try.ntmps6
        go_wp2_with fail
        refine (refField_as _ _ _ H.out _).mono ?_; rintro e w' ⟨rfl, rfl⟩
        go_wp2_with fail
        refine (cut_any _ _ hv (by omega) _).mono ?_; rintro e w' ⟨rfl, rfl⟩
        go_wp2_with fail
        refine (cut_any _ _ hu (by omega) _).mono ?_; rintro e w' ⟨rfl, rfl⟩
        go_wp2_with fail
        refine (set_yes _ _ _ _ hx H.out hc.out _).mono ?_; rintro e w' ⟨rfl, q1, rfl⟩
        go_wp2_with fail
        refine (set_yes _ _ _ _ hX H.out hd.out _).mono ?_; rintro e w' ⟨rfl, q2, rfl⟩
        go_wp2_with fail
        refine (set_yes _ _ _ _ hx H.out hd.out _).mono ?_; rintro e w' ⟨rfl, q3, rfl⟩
        go_wp2_with fail
        refine (get_yes _ _ _ hX H.out _).mono ?_; rintro e w' ⟨rfl, q4, rfl⟩
        go_wp2_with fail
        refine (get_yes _ _ _ hX HB.out _).mono ?_; rintro e w' ⟨rfl, q5, rfl⟩
        go_wp2_with fail
        refine (get_yes _ _ _ hx HB.out _).mono ?_; rintro e w' ⟨rfl, q6, rfl⟩
        go_wp2_with fail
        refine (get_yes _ _ _ hx H.out _).mono ?_; rintro e w' ⟨rfl, q7, rfl⟩
        go_wp2_with fail
        refine (set_yes _ _ _ _ hx H.out ho.out _).mono ?_; rintro e w' ⟨rfl, q8, rfl⟩
        go_wp2_with fail
        refine (alive_any _).mono ?_; rintro e w' ⟨rfl, hg⟩
        have HG := Lib.hid hg
        clear hg
        go_wp2
        go_ret
        exact ⟨rfl, HG.out.of_drewN⟩
      · have r4 := getV_bit_out x f n (cutN v n) b (by omega)
        by_cases hbf : b < f
        · have hno : ¬ ((b : Int) ≥ (f : Int)) := by omega
          go_enter Try.func6, Try.ntmps6
          go_wp2_with fail
          refine (refField_as _ _ _ H.out _).mono ?_; rintro e w' ⟨rfl, rfl⟩
          go_wp2_with fail
          refine (cut_any _ _ hv (by omega) _).mono ?_; rintro e w' ⟨rfl, rfl⟩
          go_wp2_with fail
          refine (cut_any _ _ hu (by omega) _).mono ?_; rintro e w' ⟨rfl, rfl⟩
          go_wp2_with fail
          refine (set_yes _ _ _ _ hx H.out hc.out _).mono ?_; rintro e w' ⟨rfl, q1, rfl⟩
          go_wp2_with fail
          refine (set_yes _ _ _ _ hX H.out hd.out _).mono ?_; rintro e w' ⟨rfl, q2, rfl⟩
          go_wp2_with fail
          refine (set_yes _ _ _ _ hx H.out hd.out _).mono ?_; rintro e w' ⟨rfl, q3, rfl⟩
          go_wp2_with fail
          refine (get_yes _ _ _ hX H.out _).mono ?_; rintro e w' ⟨rfl, q4, rfl⟩
          go_wp2_with fail
          refine (get_yes _ _ _ hX HB.out _).mono ?_; rintro e w' ⟨rfl, q5, rfl⟩
          go_wp2_with fail
          refine (get_yes _ _ _ hx HB.out _).mono ?_; rintro e w' ⟨rfl, q6, rfl⟩
          go_wp2_with fail
          refine (get_yes _ _ _ hx H.out _).mono ?_; rintro e w' ⟨rfl, q7, rfl⟩
          go_wp2_with fail
          refine (set_yes _ _ _ _ hx H.out ho.out _).mono ?_; rintro e w' ⟨rfl, q8, rfl⟩
          go_wp2_with fail
          refine (alive_any _).mono ?_; rintro e w' ⟨rfl, hg⟩
          have HG := Lib.hid hg
          clear hg
          go_wp2
          go_ret
          exact ⟨rfl, HG.out.of_drewN⟩
        · have hge : f ≤ b := by omega
          have hsub : ((b : Int) - (f : Int)) = ((b - f : Nat) : Int) := by omega
          have hno : ¬ (((b - f : Nat) : Int) < (n : Int)) := by omega
          go_enter Try.func6, Try.ntmps6
          go_wp2_with fail
          refine (refField_as _ _ _ H.out _).mono ?_; rintro e w' ⟨rfl, rfl⟩
          go_wp2_with fail
          refine (cut_any _ _ hv (by omega) _).mono ?_; rintro e w' ⟨rfl, rfl⟩
          go_wp2_with fail
          refine (cut_any _ _ hu (by omega) _).mono ?_; rintro e w' ⟨rfl, rfl⟩
          go_wp2_with fail
          refine (set_yes _ _ _ _ hx H.out hc.out _).mono ?_; rintro e w' ⟨rfl, q1, rfl⟩
          go_wp2_with fail
          refine (set_yes _ _ _ _ hX H.out hd.out _).mono ?_; rintro e w' ⟨rfl, q2, rfl⟩
          go_wp2_with fail
          refine (set_yes _ _ _ _ hx H.out hd.out _).mono ?_; rintro e w' ⟨rfl, q3, rfl⟩
          go_wp2_with fail
          refine (get_yes _ _ _ hX H.out _).mono ?_; rintro e w' ⟨rfl, q4, rfl⟩
          go_wp2_with fail
          refine (get_yes _ _ _ hX HB.out _).mono ?_; rintro e w' ⟨rfl, q5, rfl⟩
          go_wp2_with fail
          refine (get_yes _ _ _ hx HB.out _).mono ?_; rintro e w' ⟨rfl, q6, rfl⟩
          go_wp2_with fail
          refine (get_yes _ _ _ hx H.out _).mono ?_; rintro e w' ⟨rfl, q7, rfl⟩
          go_wp2_with fail
          refine (set_yes _ _ _ _ hx H.out ho.out _).mono ?_; rintro e w' ⟨rfl, q8, rfl⟩
          go_wp2_with fail
          refine (alive_any _).mono ?_; rintro e w' ⟨rfl, hg⟩
          have HG := Lib.hid hg
          clear hg
          go_wp2
          go_ret
          exact ⟨rfl, HG.out.of_drewN⟩
    · by_cases hb0 : b < 0
      all_goals
        go_enter Try.func6, Try.ntmps6
        go_wp2_with (first
          | (go_at_call 19; refine (refField_as _ _ _ H.out _).mono ?_; rintro e w' ⟨rfl, rfl⟩)
          | (go_at_call 12; refine (alive_any _).mono ?_; rintro e w' ⟨rfl, hg⟩; have HG := Lib.hid hg; clear hg))
        go_ret
        exact ⟨rfl, HG.out⟩

set_option maxRecDepth 100000 in
set_option maxHeartbeats 1000000 in
theorem walk_WordApart (x : Nat) (hx : U64 x) (f : Int) (_ : I64 f) (n : Int) (_ : I64 n) (g : Int) (_ : I64 g) (m : Int) (_ : I64 m) (v : Nat) (hv : U64 v) (u : Nat) (hu : U64 u) (w : World) :
    Calls Try.prog 7 #[.int .u64 x, .int .i64 f, .int .i64 n, .int .i64 g, .int .i64 m, .int .u64 v, .int .u64 u] w fun e w' => e = .returned (.bool true) ∧ Gr w w' := by
  cases hF : isF f n
  · have H := Lib.hid hF
    clear hF
    go_enter Try.func7, Try.ntmps7
    go_wp2_with (first
      | (go_at_call 19; refine (refField_as _ _ _ H.out _).mono ?_; rintro e w' ⟨rfl, rfl⟩)
      | (go_at_call 12; refine (alive_any _).mono ?_; rintro e w' ⟨rfl, hg⟩; have HG := Lib.hid hg; clear hg))
    go_ret
    exact ⟨rfl, HG.out⟩
  obtain ⟨h1, h2, h3, h4⟩ := (isF_iff f n).1 hF
  have H := Lib.hid hF
  clear hF
  cases hG : isF g m
  · have H2 := Lib.hid hG
    clear hG
    go_enter Try.func7, Try.ntmps7
    go_wp2_with fail
    refine (refField_as _ _ _ H.out _).mono ?_; rintro e w' ⟨rfl, rfl⟩
    go_wp2_with fail
    refine (refField_as _ _ _ H2.out _).mono ?_; rintro e w' ⟨rfl, rfl⟩
    go_wp2_with (go_at_call 12; refine (alive_any _).mono ?_; rintro e w' ⟨rfl, hg⟩; have HG := Lib.hid hg; clear hg)
    go_ret
    exact ⟨rfl, HG.out⟩
  obtain ⟨k1, k2, k3, k4⟩ := (isF_iff g m).1 hG
  have H2 := Lib.hid hG
  clear hG
  obtain ⟨n, rfl⟩ := Int.eq_ofNat_of_zero_le (show 0 ≤ n by omega)
  obtain ⟨f, rfl⟩ := Int.eq_ofNat_of_zero_le (show 0 ≤ f by omega)
  obtain ⟨m, rfl⟩ := Int.eq_ofNat_of_zero_le (show 0 ≤ m by omega)
  obtain ⟨g, rfl⟩ := Int.eq_ofNat_of_zero_le (show 0 ≤ g by omega)
  by_cases ho : g < f + n ∧ f < g + m
  · obtain ⟨ho1, ho2⟩ := ho
    go_enter Try.func7, Try.ntmps7
    go_wp2_with fail
    refine (refField_as _ _ _ H.out _).mono ?_; rintro e w' ⟨rfl, rfl⟩
    go_wp2_with fail
    refine (refField_as _ _ _ H2.out _).mono ?_; rintro e w' ⟨rfl, rfl⟩
    go_wp2_with (go_at_call 12; refine (alive_any _).mono ?_; rintro e w' ⟨rfl, hg⟩; have HG := Lib.hid hg; clear hg)
    go_ret
    exact ⟨rfl, HG.out⟩
  have hap : f + n ≤ g ∨ g + m ≤ f := by omega
  have hc := Lib.hid (cutN_lt v n (by omega) hv)
  have hd := Lib.hid (cutN_lt u m (by omega) hu)
  have hX : U64 (setV x f n (cutN v n)) := setV_lt _ _ _ _ hx (by omega)
  have hY : U64 (setV x g m (cutN u m)) := setV_lt _ _ _ _ hx (by omega)
  have hZ : U64 (setV (setV x f n (cutN v n)) g m (cutN u m)) := setV_lt _ _ _ _ hX (by omega)
  have r1 := setV_comm x g m f n (cutN u m) (cutN v n) (by omega)
  have r2 : getV (setV (setV x f n (cutN v n)) g m (cutN u m)) f n = cutN v n := by rw [getV_apart _ _ _ _ _ _ (by omega), getV_setV _ _ _ _ hc.out]
  have r3 := getV_setV (setV x f n (cutN v n)) g m _ hd.out
  rcases hap with hap | hap
  · have hno : ¬ ((g : Int) < (f : Int) + (n : Int)) := by omega
    go_enter Try.func7, Try.ntmps7
    go_wp2_with fail
    refine (refField_as _ _ _ H.out _).mono ?_; rintro e w' ⟨rfl, rfl⟩
    go_wp2_with fail
    refine (refField_as _ _ _ H2.out _).mono ?_; rintro e w' ⟨rfl, rfl⟩
    go_wp2_with fail
    refine (cut_any _ _ hv (by omega) _).mono ?_; rintro e w' ⟨rfl, rfl⟩
    go_wp2_with fail
    refine (cut_any _ _ hu (by omega) _).mono ?_; rintro e w' ⟨rfl, rfl⟩
    go_wp2_with fail
    refine (set_yes _ _ _ _ hx H.out hc.out _).mono ?_; rintro e w' ⟨rfl, q1, rfl⟩
    go_wp2_with fail
    refine (set_yes _ _ _ _ hX H2.out hd.out _).mono ?_; rintro e w' ⟨rfl, q2, rfl⟩
    go_wp2_with fail
    refine (set_yes _ _ _ _ hx H2.out hd.out _).mono ?_; rintro e w' ⟨rfl, q3, rfl⟩
    go_wp2_with fail
    refine (set_yes _ _ _ _ hY H.out hc.out _).mono ?_; rintro e w' ⟨rfl, q4, rfl⟩
    go_wp2_with fail
    refine (get_yes _ _ _ hZ H.out _).mono ?_; rintro e w' ⟨rfl, q5, rfl⟩
    go_wp2_with fail
    refine (get_yes _ _ _ hZ H2.out _).mono ?_; rintro e w' ⟨rfl, q6, rfl⟩
    go_wp2_with fail
    refine (alive_any _).mono ?_; rintro e w' ⟨rfl, hg⟩
    have HG := Lib.hid hg
    clear hg
    go_wp2
    go_ret
    exact ⟨rfl, HG.out.of_drewN⟩
  · by_cases hn2 : (g : Int) < (f : Int) + (n : Int)
    · have hno : ¬ ((f : Int) < (g : Int) + (m : Int)) := by omega
      go_enter Try.func7, Try.ntmps7
      go_wp2_with fail
      refine (refField_as _ _ _ H.out _).mono ?_; rintro e w' ⟨rfl, rfl⟩
      go_wp2_with fail
      refine (refField_as _ _ _ H2.out _).mono ?_; rintro e w' ⟨rfl, rfl⟩
      go_wp2_with fail
      refine (cut_any _ _ hv (by omega) _).mono ?_; rintro e w' ⟨rfl, rfl⟩
      go_wp2_with fail
      refine (cut_any _ _ hu (by omega) _).mono ?_; rintro e w' ⟨rfl, rfl⟩
      go_wp2_with fail
      refine (set_yes _ _ _ _ hx H.out hc.out _).mono ?_; rintro e w' ⟨rfl, q1, rfl⟩
      go_wp2_with fail
      refine (set_yes _ _ _ _ hX H2.out hd.out _).mono ?_; rintro e w' ⟨rfl, q2, rfl⟩
      go_wp2_with fail
      refine (set_yes _ _ _ _ hx H2.out hd.out _).mono ?_; rintro e w' ⟨rfl, q3, rfl⟩
      go_wp2_with fail
      refine (set_yes _ _ _ _ hY H.out hc.out _).mono ?_; rintro e w' ⟨rfl, q4, rfl⟩
      go_wp2_with fail
      refine (get_yes _ _ _ hZ H.out _).mono ?_; rintro e w' ⟨rfl, q5, rfl⟩
      go_wp2_with fail
      refine (get_yes _ _ _ hZ H2.out _).mono ?_; rintro e w' ⟨rfl, q6, rfl⟩
      go_wp2_with fail
      refine (alive_any _).mono ?_; rintro e w' ⟨rfl, hg⟩
      have HG := Lib.hid hg
      clear hg
      go_wp2
      go_ret
      exact ⟨rfl, HG.out.of_drewN⟩
    · exact absurd hap (by omega)

set_option maxRecDepth 100000 in
set_option maxHeartbeats 1000000 in
theorem walk_WordParts (x : Nat) (hx : U64 x) (f : Int) (_ : I64 f) (a : Int) (_ : I64 a) (b : Int) (_ : I64 b) (w : World) :
    Calls Try.prog 9 #[.int .u64 x, .int .i64 f, .int .i64 a, .int .i64 b] w fun e w' => e = .returned (.bool true) ∧ Gr w w' := by
  by_cases ha : 1 ≤ a ∧ 1 ≤ b ∧ a ≤ 64 ∧ b ≤ 64
  · obtain ⟨ha1, hb1, ha2, hb2⟩ := ha
    cases hF : isF f (a + b)
    · have H := Lib.hid hF
      clear hF
      go_enter Try.func9, Try.ntmps9
      go_wp2_with (first
        | (go_at_call 19; refine (refField_as _ _ _ H.out _).mono ?_; rintro e w' ⟨rfl, rfl⟩)
        | (go_at_call 12; refine (alive_any _).mono ?_; rintro e w' ⟨rfl, hg⟩; have HG := Lib.hid hg; clear hg))
      go_ret
      exact ⟨rfl, HG.out⟩
    obtain ⟨h1, h2, h3, h4⟩ := (isF_iff _ _).1 hF
    have H := Lib.hid hF
    clear hF
    obtain ⟨a, rfl⟩ := Int.eq_ofNat_of_zero_le (show 0 ≤ a by omega)
    obtain ⟨b, rfl⟩ := Int.eq_ofNat_of_zero_le (show 0 ≤ b by omega)
    obtain ⟨f, rfl⟩ := Int.eq_ofNat_of_zero_le (show 0 ≤ f by omega)
    have H2 := Lib.hid (isF_nat f a (by omega) (by omega))
    have H3 : Hid (isF ((f : Int) + (a : Int)) b = true) := (isF_iff _ _).2 (by omega)
    have r1 : IntKind.u64.wrap ((getV x f a : Int) + IntKind.u64.wrap ((getV x (f + a) b : Int) * 2 ^ a)) = ((getV x f (a + b) : Nat) : Int) := by
      have hp := getV_parts x f a b
      have hl := getV_lt64 x f (a + b) hx
      rw [two_pow_cast, mul_keep _ _ _ rfl (by unfold U64; omega)]
      exact add_keep _ _ _ hp.symm hl
    go_enter Try.func9, Try.ntmps9
    go_wp2_with fail
    refine (refField_as _ _ _ H.out _).mono ?_; rintro e w' ⟨rfl, rfl⟩
    go_wp2_with fail
    refine (get_yes _ _ _ hx H.out _).mono ?_; rintro e w' ⟨rfl, q1, rfl⟩
    go_wp2_with fail
    refine (get_yes _ _ _ hx H2.out _).mono ?_; rintro e w' ⟨rfl, q2, rfl⟩
    go_wp2_with fail
    refine (get_yes _ _ _ hx H3.out _).mono ?_; rintro e w' ⟨rfl, q3, rfl⟩
    go_wp2_with fail
    refine (alive_any _).mono ?_; rintro e w' ⟨rfl, hg⟩
    have HG := Lib.hid hg
    clear hg
    go_wp2
    go_ret
    exact ⟨rfl, HG.out.of_drewN⟩
  · by_cases c1 : a < 1
    · go_enter Try.func9, Try.ntmps9
      go_wp2_with (go_at_call 12; refine (alive_any _).mono ?_; rintro e w' ⟨rfl, hg⟩; have HG := Lib.hid hg; clear hg)
      go_ret
      exact ⟨rfl, HG.out⟩
    by_cases c2 : b < 1
    · go_enter Try.func9, Try.ntmps9
      go_wp2_with (go_at_call 12; refine (alive_any _).mono ?_; rintro e w' ⟨rfl, hg⟩; have HG := Lib.hid hg; clear hg)
      go_ret
      exact ⟨rfl, HG.out⟩
    by_cases c3 : 64 < a
    · go_enter Try.func9, Try.ntmps9
      go_wp2_with (go_at_call 12; refine (alive_any _).mono ?_; rintro e w' ⟨rfl, hg⟩; have HG := Lib.hid hg; clear hg)
      go_ret
      exact ⟨rfl, HG.out⟩
    · have c4 : 64 < b := by omega
      go_enter Try.func9, Try.ntmps9
      go_wp2_with (go_at_call 12; refine (alive_any _).mono ?_; rintro e w' ⟨rfl, hg⟩; have HG := Lib.hid hg; clear hg)
      go_ret
      exact ⟨rfl, HG.out⟩
end Go.Proofs.Ytgckcjjjapmnhaa
