/-
  The contracts of the program's functions, data in, data out. Conditions: those in the statements.
-/
import Derived.Test.YtmhnogmbpoeaeaaF2
namespace Go.Proofs.Ytmhnogmbpoeaeaa
set_option linter.all false
open Go Go.Proofs.Ytmhnogmbpoeaeaa.Eng Go.RowKit
noncomputable section
theorem tmod256 {s : Int} (hs : isU s) : s.tmod 256 = s % 256 := Int.tmod_eq_emod_of_nonneg hs.1
theorem modB (s : Int) : isBt (s % 256) := by unfold isBt; omega
theorem rstp2 {s b : Int} (hs : isU s) (hb : isBt b) : IntKind.u64.wrap (IntKind.u64.wrap (IntKind.u64.wrap (s - IntKind.u64.wrap (IntKind.u8.wrap (s.tmod 256))) + IntKind.u64.wrap (bits .xor .u8 (IntKind.u8.wrap (s.tmod 256)) b)) * 1099511628211) = stp s b := by
  have h0 := modB s
  have e1 : IntKind.u8.wrap (s.tmod 256) = s % 256 := by rw [tmod256 hs, u8w]; omega
  have e2 : IntKind.u64.wrap (s % 256) = s % 256 := by rw [u64w]; unfold isBt at h0; omega
  have e3 : IntKind.u64.wrap (bits .xor .u8 (s % 256) b) = bits .xor .u8 (s % 256) b := by
    rw [xor_u8 h0 hb, u64w]
    have h1 := h0.1; have h2 := h0.2; have h3 := hb.1; have h4 := hb.2
    have hx : (s % 256).toNat ^^^ b.toNat < 2 ^ 8 := Nat.xor_lt_two_pow (by omega) (by omega)
    omega
  rw [e1, e2, e3, rstp hs hb]
theorem stp_eq (s b : Int) (hb : isBt b) : IntKind.u64.wrap (bits .xor .u64 s (IntKind.u64.wrap b) * 1099511628211) = stp s b := by
  have e : IntKind.u64.wrap b = b := by rw [u64w]; unfold isBt at hb; omega
  rw [e]; unfold stp; rfl
theorem getD_U {l : List Int} (hl : ∀ x ∈ l, isU x) (i : Nat) : isU (l.getD i 0) := by
  rcases Nat.lt_or_ge i l.length with h | h
  · exact hl _ (by simp [List.getD, h])
  · simp [List.getD, h, isU]
@[irreducible] def nextV (s : Int) (l : List Int) : Int := if 2048 < l.length then 0 else beh s l
@[irreducible] def nextE (l : List Int) : Int := if 2048 < l.length then 4 else 0
theorem nextV_no {l : List Int} (s : Int) (h : 2048 < l.length) : nextV s l = 0 := by unfold nextV; rw [if_pos h]
theorem nextV_yes {l : List Int} (s : Int) (h : l.length ≤ 2048) : nextV s l = beh s l := by unfold nextV; rw [if_neg (by omega)]
theorem nextE_no {l : List Int} (h : 2048 < l.length) : nextE l = 4 := by unfold nextE; rw [if_pos h]
theorem nextE_yes {l : List Int} (h : l.length ≤ 2048) : nextE l = 0 := by unfold nextE; rw [if_neg (by omega)]
theorem firstU : isU 14695981039346656037 := by unfold isU; omega
@[irreducible] def lowE (l : List Int) (n : Int) : Int := if 2048 < l.length then 4 else if 8 ≤ n ∧ n ≤ 64 then 0 else 2
@[irreducible] def lowV (l : List Int) (n : Int) : Int := if lowE l n = 0 then fld (beh 14695981039346656037 l) 0 n.toNat else 0
theorem low_cases (l : List Int) (n : Int) : (2048 < l.length ∧ nextE l = 4 ∧ lowE l n = 4 ∧ lowV l n = 0) ∨ (l.length ≤ 2048 ∧ nextE l = 0 ∧ n < 8 ∧ lowE l n = 2 ∧ lowV l n = 0) ∨ (l.length ≤ 2048 ∧ nextE l = 0 ∧ 8 ≤ n ∧ lowE l n = fldE 0 n ∧ lowV l n = fldV (beh 14695981039346656037 l) 0 n) := by
  rcases Nat.lt_or_ge 2048 l.length with h | h
  · refine .inl ⟨h, nextE_no h, ?_, ?_⟩
    · unfold lowE; rw [if_pos h]
    · unfold lowV lowE; rw [if_pos h, if_neg (by decide)]
  · rcases (show n < 8 ∨ 8 ≤ n by omega) with h8 | h8
    · refine .inr (.inl ⟨h, nextE_yes h, h8, ?_, ?_⟩)
      · unfold lowE; rw [if_neg (by omega), if_neg (by omega)]
      · unfold lowV lowE; rw [if_neg (by omega : ¬ 2048 < l.length), if_neg (by omega : ¬ (8 ≤ n ∧ n ≤ 64)), if_neg (by decide)]
    · refine .inr (.inr ⟨h, nextE_yes h, h8, ?_⟩)
      by_cases h64 : n ≤ 64
      · have e : isFld 0 n = true := isFld_iff.2 (by omega)
        have e2 : lowE l n = 0 := by unfold lowE; rw [if_neg (by omega), if_pos (by omega)]
        refine ⟨by rw [e2, fldE_yes e], ?_⟩
        unfold lowV fldV
        rw [if_pos e2, if_pos e]; rfl
      · have e : isFld 0 n = false := by
          rw [Bool.eq_false_iff]
          intro h
          have := isFld_iff.1 h
          omega
        have e2 : lowE l n = 2 := by unfold lowE; rw [if_neg (by omega), if_neg (by omega)]
        refine ⟨by rw [e2, fldE_no e], ?_⟩
        unfold lowV
        rw [if_neg (by omega), fldV_no _ e]
theorem nextV_U {s : Int} (hs : isU s) (l : List Int) : isU (nextV s l) := by
  rcases Nat.lt_or_ge 2048 l.length with h | h
  · rw [nextV_no _ h]; unfold isU; omega
  · rw [nextV_yes _ h]; exact beh_U hs l
theorem low_a {l : List Int} (n : Int) (h : ¬ nextE l = 0) : lowE l n = nextE l ∧ lowV l n = 0 := by
  rcases low_cases l n with ⟨h1, h2, h3, h4⟩ | ⟨h1, h2, h5, h3, h4⟩ | ⟨h1, h2, h5, h3, h4⟩
  · exact ⟨by omega, h4⟩
  · exact absurd h2 h
  · exact absurd h2 h
theorem low_b {l : List Int} {n : Int} (h : nextE l = 0) (hn : n < 8) : lowE l n = 2 ∧ lowV l n = 0 := by
  rcases low_cases l n with ⟨h1, h2, h3, h4⟩ | ⟨h1, h2, h5, h3, h4⟩ | ⟨h1, h2, h5, h3, h4⟩
  · omega
  · exact ⟨h3, h4⟩
  · omega
theorem low_c {l : List Int} {n : Int} (h : nextE l = 0) (hn : 8 ≤ n) : lowE l n = fldE 0 n ∧ lowV l n = fldV (nextV 14695981039346656037 l) 0 n := by
  rcases low_cases l n with ⟨h1, h2, h3, h4⟩ | ⟨h1, h2, h5, h3, h4⟩ | ⟨h1, h2, h5, h3, h4⟩
  · omega
  · omega
  · exact ⟨h3, by rw [h4, nextV_yes _ h1]⟩
/-! A word changed in one byte, seen in the sums. -/
theorem set_split {l : List Int} {i : Nat} (h : i < l.length) (v : Int) : l.set i v = l.take i ++ v :: l.drop (i + 1) := by rw [List.set_eq_take_append_cons_drop, if_pos h]
theorem self_split {l : List Int} {i : Nat} (h : i < l.length) : l = l.take i ++ l.getD i 0 :: l.drop (i + 1) := by
  have e : l.getD i 0 = l[i] := by simp [List.getD, h]
  rw [e, List.getElem_cons_drop h, List.take_append_drop]
theorem set_self {l : List Int} {i : Nat} (h : i < l.length) : l.set i (l.getD i 0) = l := by
  rw [set_split h]; exact (self_split h).symm
theorem beh_set {s : Int} (hs : isU s) {l : List Int} {i : Nat} (h : i < l.length) {w : Int} {j : Nat} (hj : j < 8) (hw : ∀ k, k ≠ j → k < 8 → byt (l.getD i 0) k = byt w k) : beh s l % 256 = beh s (l.set i w) % 256 ↔ byt (l.getD i 0) j = byt w j := by
  rw [set_split h]
  have e : beh s l = beh s (l.take i ++ l.getD i 0 :: l.drop (i + 1)) := congrArg (beh s) (self_split h)
  rw [e, beh_app, beh_app, beh_cons, beh_cons, beh_low (bs_U (beh_U hs _) 8) (bs_U (beh_U hs _) 8), bs_diff (beh_U hs _) hw 8 hj (by omega)]
theorem chg_byte {w c : Int} (hw : isU w) (hc : isBt c) {j : Nat} (hj : j < 8) : byt w j = byt (bits .xor .u64 w (IntKind.u64.wrap (c * 2 ^ (8 * j)))) j ↔ c = 0 := by
  rw [xbyte hw hc hj j hj, if_pos rfl]
  have hd : byt w j = ((w.toNat / 256 ^ j % 256 : Nat) : Int) := by
    unfold byt
    conv => lhs; rw [← Int.toNat_of_nonneg hw.1]
    rw [Int.natCast_emod, Int.natCast_ediv, Int.natCast_pow]; rfl
  rw [hd]
  constructor
  · intro h
    have h2 : w.toNat / 256 ^ j % 256 ^^^ 0 = w.toNat / 256 ^ j % 256 ^^^ c.toNat := by
      rw [Nat.xor_zero]; omega
    have h3 := xor_canc.1 h2
    have := hc.1
    omega
  · rintro rfl
    rw [show ((0 : Int).toNat) = 0 from rfl, Nat.xor_zero]
theorem chg_zero {w : Int} (hw : isU w) (j : Nat) : bits .xor .u64 w (IntKind.u64.wrap (0 * 2 ^ (8 * j))) = w := by
  rw [Int.zero_mul, show IntKind.u64.wrap 0 = 0 from rfl, xor_zero_U hw]
/-- The list with the change. -/
@[irreducible] def chg (l : List Int) (i : Nat) (b : Nat) (c : Int) : List Int := l.set i (bits .xor .u64 (l.getD i 0) (IntKind.u64.wrap (c * 2 ^ (8 * b))))
theorem chg_len (l : List Int) (i b : Nat) (c : Int) : (chg l i b c).length = l.length := by unfold chg; rw [List.length_set]
theorem chg_same {l : List Int} (hl : ∀ x ∈ l, isU x) {i : Nat} (h : i < l.length) (b : Nat) : chg l i b 0 = l := by
  unfold chg
  rw [chg_zero (getD_U hl i), set_self h]
theorem chg_low {s : Int} (hs : isU s) {l : List Int} (hl : ∀ x ∈ l, isU x) {i : Nat} (h : i < l.length) {b : Nat} (hb : b < 8) {c : Int} (hc : isBt c) : beh s l % 256 = beh s (chg l i b c) % 256 ↔ c = 0 := by
  unfold chg
  rw [beh_set hs h hb (w := bits .xor .u64 (l.getD i 0) (IntKind.u64.wrap (c * 2 ^ (8 * b)))) fun k hk h8 => ?_, chg_byte (getD_U hl i) hc hb]
  rw [xbyte (getD_U hl i) hc hb k h8, if_neg hk]
theorem chg_state {s : Int} (hs : isU s) {l : List Int} (hl : ∀ x ∈ l, isU x) {i : Nat} (h : i < l.length) {b : Nat} (hb : b < 8) {c : Int} (hc : isBt c) : decide (beh s l = beh s (chg l i b c)) = decide (c = 0) := by
  refine decide_eq_decide.2 ⟨fun e => (chg_low hs hl h hb hc).1 (by rw [e]), ?_⟩
  rintro rfl
  rw [chg_same hl h]
theorem fld_mod {x y : Int} {n : Nat} (h : 8 ≤ n) (e : fld x 0 n = fld y 0 n) : x % 256 = y % 256 := by
  unfold fld at e
  rw [Int.pow_zero, Int.ediv_one, Int.ediv_one] at e
  have hd : (256 : Int) ∣ 2 ^ n := by
    refine ⟨2 ^ (n - 8), ?_⟩
    rw [show (256 : Int) = 2 ^ 8 from rfl, ← Int.pow_add]
    congr 1; omega
  have := congrArg (· % 256) e
  simpa [Int.emod_emod_of_dvd _ hd] using this
theorem chg_low_n {l : List Int} (hl : ∀ x ∈ l, isU x) {i : Nat} (h : i < l.length) {b : Nat} (hb : b < 8) {c : Int} (hc : isBt c) {n : Nat} (hn : 8 ≤ n) : decide (fld (beh 14695981039346656037 l) 0 n = fld (beh 14695981039346656037 (chg l i b c)) 0 n) = decide (c = 0) := by
  refine decide_eq_decide.2 ⟨fun e => (chg_low firstU hl h hb hc).1 (fld_mod hn e), ?_⟩
  rintro rfl
  rw [chg_same hl h]
theorem beh_dec {s o : Int} (hs : isU s) (ho : isU o) (l : List Int) : decide (beh s l = beh o l) = decide (s = o) := decide_eq_decide.2 (beh_inj hs ho l)
end
end Go.Proofs.Ytmhnogmbpoeaeaa
