/-
  The contracts of the program's functions, data in, data out. Conditions: those in the statements.
-/
import Derived.Test.YtmhnogmbpoeaeaaK1
import Derived.Laws.Bits64b
namespace Go.Proofs.Ytmhnogmbpoeaeaa
set_option linter.all false
open Go Go.Proofs.Ytmhnogmbpoeaeaa.Eng Go.RowKit
noncomputable section
/-! Bits of words, as plain numbers. -/
def isU (s : Int) : Prop := 0 ≤ s ∧ s < 18446744073709551616
def isBt (b : Int) : Prop := 0 ≤ b ∧ b < 256
theorem u64w (n : Int) : IntKind.u64.wrap n = n % 18446744073709551616 := by simp [IntKind.wrap, IntKind.bits, IntKind.signed]
theorem u8w (n : Int) : IntKind.u8.wrap n = n % 256 := by simp [IntKind.wrap, IntKind.bits, IntKind.signed]
theorem wrap_U (n : Int) : isU (IntKind.u64.wrap n) := by rw [u64w]; unfold isU; omega
theorem xor_u64 {a b : Int} (ha : isU a) (hb : isU b) : bits .xor .u64 a b = ((a.toNat ^^^ b.toNat : Nat) : Int) := by
  unfold isU at ha hb
  have := bits_xor_u64_nat a.toNat b.toNat (by omega) (by omega)
  rwa [Int.toNat_of_nonneg ha.1, Int.toNat_of_nonneg hb.1] at this
theorem xor_u8 {a b : Int} (ha : isBt a) (hb : isBt b) : bits .xor .u8 a b = ((a.toNat ^^^ b.toNat : Nat) : Int) := by
  unfold isBt at ha hb
  obtain ⟨x, rfl⟩ := Int.eq_ofNat_of_zero_le ha.1
  obtain ⟨y, rfl⟩ := Int.eq_ofNat_of_zero_le hb.1
  have hx : x ^^^ y < 2 ^ 8 := Nat.xor_lt_two_pow (by omega) (by omega)
  have h1 : (BitVec.ofInt 8 (x : Int)).toNat = x := by
    rw [BitVec.ofInt_natCast, BitVec.toNat_ofNat]; exact Nat.mod_eq_of_lt (by omega)
  have h2 : (BitVec.ofInt 8 (y : Int)).toNat = y := by
    rw [BitVec.ofInt_natCast, BitVec.toNat_ofNat]; exact Nat.mod_eq_of_lt (by omega)
  show IntKind.u8.wrap ((BitVec.ofInt 8 (x : Int) ^^^ BitVec.ofInt 8 (y : Int)).toNat : Int) = _
  rw [BitVec.toNat_xor, h1, h2, u8w, Int.toNat_natCast, Int.toNat_natCast]
  omega
theorem xor_U (a b : Int) : isU (bits .xor .u64 a b) := wrap_U _
/-! Bytes of words. -/
@[irreducible] def byt (w : Int) (k : Nat) : Int := w / 256 ^ k % 256
theorem byt_B (w : Int) (k : Nat) : isBt (byt w k) := by unfold isBt byt; omega
/-! A step, eight of them, those behind words. -/
@[irreducible] def stp (s b : Int) : Int := IntKind.u64.wrap (bits .xor .u64 s b * 1099511628211)
theorem stp_U (s b : Int) : isU (stp s b) := by unfold stp; exact wrap_U _
@[irreducible] def bs (s w : Int) (k : Nat) : Int := Nat.rec s (fun k r => stp r (byt w k)) k
theorem bs_zero (s w : Int) : bs s w 0 = s := by unfold bs; rfl
theorem bs_succ (s w : Int) (k : Nat) : stp (bs s w k) (byt w k) = bs s w (k + 1) := by unfold bs; rfl
theorem bs_U {s w : Int} (hs : isU s) (k : Nat) : isU (bs s w k) := by
  cases k with
  | zero => rw [bs_zero]; exact hs
  | succ k => rw [← bs_succ]; exact stp_U _ _
@[irreducible] def beh (s : Int) (l : List Int) : Int := l.foldl (fun s w => bs s w 8) s
theorem beh_nil (s : Int) : beh s [] = s := by unfold beh; rfl
theorem beh_cons (s w : Int) (l : List Int) : beh s (w :: l) = beh (bs s w 8) l := by unfold beh; rfl
theorem beh_app (s : Int) (l m : List Int) : beh s (l ++ m) = beh (beh s l) m := by unfold beh; rw [List.foldl_append]
theorem beh_one (s w : Int) : beh s [w] = bs s w 8 := by rw [beh_cons, beh_nil]
theorem beh_U {s : Int} (hs : isU s) : ∀ (l : List Int), isU (beh s l)
  | [] => by rw [beh_nil]; exact hs
  | w :: l => by rw [beh_cons]; exact beh_U (bs_U hs 8) l
theorem take_succ_getD {l : List Int} {i : Nat} (h : i < l.length) : l.take (i + 1) = l.take i ++ [l.getD i 0] := by
  rw [List.take_add_one, List.getElem?_eq_getElem h]
  simp [List.getD, h]
theorem beh_take (s : Int) {l : List Int} {i : Nat} (h : i < l.length) : bs (beh s (l.take i)) (l.getD i 0) 8 = beh s (l.take (i + 1)) := by
  rw [take_succ_getD h, beh_app, beh_one]
theorem low179 (x : Nat) : ((x : Int) * 1099511628211 % 18446744073709551616) % 256 = ((x % 256 * 179 % 256 : Nat) : Int) := by omega
theorem inj179 {a b : Nat} (ha : a < 256) (hb : b < 256) : a * 179 % 256 = b * 179 % 256 ↔ a = b := ⟨fun h => by omega, fun h => by rw [h]⟩
theorem stp_low {s s' b b' : Int} (hs : isU s) (hs' : isU s') (hb : isBt b) (hb' : isBt b') : (stp s b % 256 = stp s' b' % 256) ↔ (s.toNat ^^^ b.toNat) % 256 = (s'.toNat ^^^ b'.toNat) % 256 := by
  have hB : isU b := ⟨hb.1, by have := hb.2; omega⟩
  have hB' : isU b' := ⟨hb'.1, by have := hb'.2; omega⟩
  unfold stp
  rw [xor_u64 hs hB, xor_u64 hs' hB', u64w, u64w, low179, low179]
  exact Iff.trans ⟨fun h => by omega, fun h => by omega⟩ (inj179 (Nat.mod_lt _ (by omega)) (Nat.mod_lt _ (by omega)))
theorem xor256 (a b : Nat) (hb : b < 256) : (a ^^^ b) % 256 = (a % 256) ^^^ b := by
  have := Nat.xor_mod_two_pow (a := a) (b := b) (n := 8)
  rw [Nat.mod_eq_of_lt (a := b) (by omega)] at this
  exact this
theorem xor_canc {a b c : Nat} : a ^^^ b = a ^^^ c ↔ b = c := by
  constructor
  · intro h
    have := congrArg (a ^^^ ·) h
    simpa [← Nat.xor_assoc] using this
  · rintro rfl; rfl
theorem xor_cancr {a b c : Nat} : b ^^^ a = c ^^^ a ↔ b = c := by rw [Nat.xor_comm b, Nat.xor_comm c]; exact xor_canc
theorem stp_low_s {s s' b : Int} (hs : isU s) (hs' : isU s') (hb : isBt b) : (stp s b % 256 = stp s' b % 256) ↔ s % 256 = s' % 256 := by
  rw [stp_low hs hs' hb hb, xor256 _ _ (by have := hb.2; have := hb.1; omega), xor256 _ _ (by have := hb.2; have := hb.1; omega), xor_cancr]
  unfold isU at hs hs'
  omega
theorem stp_low_b {s b b' : Int} (hs : isU s) (hb : isBt b) (hb' : isBt b') : (stp s b % 256 = stp s b' % 256) ↔ b = b' := by
  rw [stp_low hs hs hb hb', xor256 _ _ (by have := hb.2; have := hb.1; omega), xor256 _ _ (by have := hb'.2; have := hb'.1; omega), xor_canc]
  unfold isBt at hb hb'
  omega
/-- The inverse of the factor. -/
theorem stp_back {s b : Int} (hs : isU s) (hb : isBt b) : bits .xor .u64 (IntKind.u64.wrap (stp s b * 14886173955864302971)) b = s := by
  have hB : isU b := ⟨hb.1, by have := hb.2; omega⟩
  have e : IntKind.u64.wrap (stp s b * 14886173955864302971) = ((s.toNat ^^^ b.toNat : Nat) : Int) := by
    unfold stp
    have hlt : s.toNat ^^^ b.toNat < 2 ^ 64 := Nat.xor_lt_two_pow (by have := hs.1; have := hs.2; omega) (by have := hb.1; have := hb.2; omega)
    rw [xor_u64 hs hB, u64w, u64w]
    generalize s.toNat ^^^ b.toNat = x at *
    omega
  rw [e, xor_u64 ⟨by omega, by
    have hlt : s.toNat ^^^ b.toNat < 2 ^ 64 := Nat.xor_lt_two_pow (by have := hs.1; have := hs.2; omega) (by have := hb.1; have := hb.2; omega)
    omega⟩ hB, Int.toNat_natCast, Nat.xor_assoc, Nat.xor_self, Nat.xor_zero]
  exact Int.toNat_of_nonneg hs.1
theorem stp_inj {s s' b : Int} (hs : isU s) (hs' : isU s') (hb : isBt b) : stp s b = stp s' b ↔ s = s' :=
  ⟨fun h => by rw [← stp_back hs hb, ← stp_back hs' hb, h], fun h => by rw [h]⟩
theorem bs_inj {s s' : Int} (hs : isU s) (hs' : isU s') (w : Int) : ∀ k, bs s w k = bs s' w k ↔ s = s'
  | 0 => by rw [bs_zero, bs_zero]
  | k + 1 => by rw [← bs_succ, ← bs_succ, stp_inj (bs_U hs k) (bs_U hs' k) (byt_B w k), bs_inj hs hs' w k]
theorem bs_low {s s' : Int} (hs : isU s) (hs' : isU s') (w : Int) : ∀ k, bs s w k % 256 = bs s' w k % 256 ↔ s % 256 = s' % 256
  | 0 => by rw [bs_zero, bs_zero]
  | k + 1 => by rw [← bs_succ, ← bs_succ, stp_low_s (bs_U hs k) (bs_U hs' k) (byt_B w k), bs_low hs hs' w k]
theorem bs_same {s w w' : Int} : ∀ (n : Nat), (∀ k < n, byt w k = byt w' k) → bs s w n = bs s w' n
  | 0, _ => by rw [bs_zero, bs_zero]
  | n + 1, h => by rw [← bs_succ, ← bs_succ, bs_same n (fun k hk => h k (by omega)), h n (by omega)]
theorem bs_diff {s w w' : Int} (hs : isU s) {j : Nat} (hj : ∀ k, k ≠ j → k < 8 → byt w k = byt w' k) : ∀ (n : Nat), j < n → n ≤ 8 → (bs s w n % 256 = bs s w' n % 256 ↔ byt w j = byt w' j)
  | 0, h, _ => by omega
  | n + 1, h, h8 => by
    rw [← bs_succ, ← bs_succ]
    by_cases e : n = j
    · subst e
      rw [bs_same (w' := w') n (fun k hk => hj k (by omega) (by omega)), stp_low_b (bs_U hs n) (byt_B _ _) (byt_B _ _)]
    · rw [hj n e (by omega), stp_low_s (bs_U hs n) (bs_U hs n) (byt_B _ _), bs_diff hs hj n (by omega) (by omega)]
theorem beh_inj {s s' : Int} (hs : isU s) (hs' : isU s') (l : List Int) : beh s l = beh s' l ↔ s = s' := by
  induction l generalizing s s' with
  | nil => rw [beh_nil, beh_nil]
  | cons w l ih => rw [beh_cons, beh_cons, ih (bs_U hs 8) (bs_U hs' 8), bs_inj hs hs']
theorem beh_low {s s' : Int} (hs : isU s) (hs' : isU s') (l : List Int) : beh s l % 256 = beh s' l % 256 ↔ s % 256 = s' % 256 := by
  induction l generalizing s s' with
  | nil => rw [beh_nil, beh_nil]
  | cons w l ih => rw [beh_cons, beh_cons, ih (bs_U hs 8) (bs_U hs' 8), bs_low hs hs']
/-- A word changed in one byte. -/
theorem xbyte {w c : Int} (hw : isU w) (hc : isBt c) {j : Nat} (hj : j < 8) (k : Nat) (hk : k < 8) : byt (bits .xor .u64 w (IntKind.u64.wrap (c * 2 ^ (8 * j)))) k = if k = j then ((w.toNat / 256 ^ k % 256 ^^^ c.toNat : Nat) : Int) else byt w k := by
  have hC : isU (IntKind.u64.wrap (c * 2 ^ (8 * j))) := wrap_U _
  have e : (IntKind.u64.wrap (c * 2 ^ (8 * j))).toNat = c.toNat * 256 ^ j := by
    have h1 : (2 : Int) ^ (8 * j) = ((256 ^ j : Nat) : Int) := by rw [Int.pow_mul]; rw [Int.natCast_pow]; rfl
    obtain ⟨x, rfl⟩ := Int.eq_ofNat_of_zero_le hc.1
    have h2 : x < 256 := by have := hc.2; omega
    have h3 : x * 256 ^ j < 18446744073709551616 := by
      have h4 : (256 : Nat) ^ j ≤ 256 ^ 7 := Nat.pow_le_pow_right (by omega) (by omega)
      have h5 : x * 256 ^ j ≤ 255 * 256 ^ 7 := Nat.mul_le_mul (by omega) h4
      have h6 : 255 * 256 ^ 7 < 18446744073709551616 := by decide
      omega
    rw [h1, u64w, ← Int.natCast_mul, Int.toNat_natCast]
    omega
  rw [xor_u64 hw hC, e]
  unfold byt
  have hd : ∀ z : Nat, ((z : Int) / 256 ^ k % 256) = ((z / 256 ^ k % 256 : Nat) : Int) := fun z => by
    rw [Int.natCast_emod, Int.natCast_ediv, Int.natCast_pow]; rfl
  rw [hd]
  have hw2 : w / 256 ^ k % 256 = ((w.toNat / 256 ^ k % 256 : Nat) : Int) := by rw [← hd, Int.toNat_of_nonneg hw.1]
  rw [hw2]
  have h2 : c.toNat < 256 := by have := hc.2; have := hc.1; omega
  have key : (w.toNat ^^^ c.toNat * 256 ^ j) / 256 ^ k % 256 = if k = j then w.toNat / 256 ^ k % 256 ^^^ c.toNat else w.toNat / 256 ^ k % 256 := by
    have p : ∀ m : Nat, (256 : Nat) ^ m = 2 ^ (8 * m) := fun m => by rw [Nat.pow_mul]
    refine Nat.eq_of_testBit_eq fun i => ?_
    rw [show (256 : Nat) = 2 ^ 8 from rfl, ← Nat.pow_mul, ← Nat.pow_mul, Nat.testBit_mod_two_pow, Nat.testBit_div_two_pow, Nat.testBit_xor, Nat.testBit_mul_two_pow]
    by_cases hkj : k = j
    · subst hkj
      rw [if_pos rfl, Nat.testBit_xor, Nat.testBit_mod_two_pow, Nat.testBit_div_two_pow]
      by_cases hi : i < 8
      · simp [hi]
      · have : c.toNat.testBit i = false := Nat.testBit_lt_two_pow (Nat.lt_of_lt_of_le h2 (by have := Nat.pow_le_pow_right (n := 2) (by omega) (show 8 ≤ i by omega); omega))
        simp [hi, this]
    · rw [if_neg hkj, Nat.testBit_mod_two_pow, Nat.testBit_div_two_pow]
      by_cases hi : i < 8
      · simp only [hi, decide_true, Bool.true_and]
        by_cases hlt : 8 * k + i < 8 * j
        · simp [show ¬ (8 * j ≤ i + 8 * k) by omega]
        · have : c.toNat.testBit (i + 8 * k - 8 * j) = false := Nat.testBit_lt_two_pow (Nat.lt_of_lt_of_le h2 (by have := Nat.pow_le_pow_right (n := 2) (by omega) (show 8 ≤ i + 8 * k - 8 * j by omega); omega))
          simp [this]
      · simp [hi]
  rw [key]
  split <;> rfl
theorem xor_zero_U {w : Int} (hw : isU w) : bits .xor .u64 w 0 = w := by
  rw [xor_u64 hw ⟨by omega, by omega⟩]
  simpa using Int.toNat_of_nonneg hw.1

theorem lit_U {n : Int} (h : (Lit.int .u64 n).wf = true) : isU n := by
  simp [Lit.wf, IntKind.min, IntKind.max, IntKind.signed, IntKind.bits] at h
  unfold isU
  omega
theorem lit_B {n : Int} (h : (Lit.int .u8 n).wf = true) : isBt n := by
  simp [Lit.wf, IntKind.min, IntKind.max, IntKind.signed, IntKind.bits] at h
  unfold isBt
  omega
theorem wf_U {l : List Int} (h : Wf .u64 l) : ∀ x ∈ l, isU x := fun x hx => lit_U (h x hx)
/-! Fields. -/
@[irreducible] def isFld (f n : Int) : Bool := decide (0 ≤ f) && decide (f < 64) && decide (1 ≤ n) && decide (n ≤ 64 - f)
@[irreducible] def fld (w : Int) (f n : Nat) : Int := w / 2 ^ f % 2 ^ n
@[irreducible] def fldV (w f n : Int) : Int := if isFld f n then fld w f.toNat n.toNat else 0
@[irreducible] def fldE (f n : Int) : Int := if isFld f n then 0 else 2
theorem isFld_iff {f n : Int} : isFld f n = true ↔ 0 ≤ f ∧ f < 64 ∧ 1 ≤ n ∧ n ≤ 64 - f := by
  unfold isFld
  simp only [Bool.and_eq_true, decide_eq_true_eq, and_assoc]
theorem two_pos (n : Nat) : (0 : Int) < 2 ^ n := Int.pow_pos (by decide)
theorem two_nat (k : Nat) : (2 : Int) ^ k = ((2 ^ k : Nat) : Int) := by rw [Int.natCast_pow]; rfl
theorem two_le {m n : Nat} (h : m ≤ n) : (2 : Int) ^ m ≤ 2 ^ n := by
  have h1 := Nat.pow_le_pow_right (n := 2) (by omega) h
  rw [two_nat, two_nat]
  omega
theorem emod_le {a b : Int} (ha : 0 ≤ a) (hb : 0 < b) : a % b ≤ a := by
  have h1 := Int.ediv_nonneg ha (Int.le_of_lt hb)
  have h2 := Int.mul_nonneg (Int.le_of_lt hb) h1
  rw [Int.emod_def]
  omega
theorem two_64 : (2 : Int) ^ 64 = 18446744073709551616 := by decide
theorem fld_U {w : Int} (hw : isU w) (f n : Nat) : isU (fld w f n) := by
  unfold isU at *
  unfold fld
  have h1 : 0 ≤ w / 2 ^ f := Int.ediv_nonneg hw.1 (Int.le_of_lt (two_pos f))
  have h2 : w / 2 ^ f ≤ w := Int.ediv_le_self _ hw.1
  have h3 : w / 2 ^ f % 2 ^ n ≤ w / 2 ^ f := emod_le h1 (two_pos n)
  have h4 := Int.emod_nonneg (w / 2 ^ f) (Int.ne_of_gt (two_pos n))
  omega
/-- The greatest value with a width. -/
@[irreducible] def ones (n : Nat) : Int := 2 ^ n - 1
theorem ones_eq {n : Nat} (h : n ≤ 64) (k : Nat) (hk : k = n) : IntKind.u64.wrap (IntKind.u64.wrap (2 ^ k) - 1) = ones n := by
  subst hk
  have h1 := two_le h
  have h2 := two_pos k
  rw [two_64] at h1
  unfold ones
  generalize (2 : Int) ^ k = x at *
  rw [u64w, u64w]
  rcases Int.lt_or_eq_of_le h1 with h3 | h3
  · omega
  · subst h3; decide
theorem ones_U {n : Nat} (h : n ≤ 64) : isU (ones n) := by
  have h1 := two_le h
  have h2 := two_pos n
  rw [two_64] at h1
  unfold ones isU
  omega
theorem and_fld {w : Int} (hw : isU w) (f n : Nat) (hn : n ≤ 64) : bits .and .u64 (w / 2 ^ f) (ones n) = fld w f n := by
  obtain ⟨x, rfl⟩ := Int.eq_ofNat_of_zero_le hw.1
  have hx : x < 18446744073709551616 := by have := hw.2; omega
  have e1 : ((x : Int) / 2 ^ f) = ((x / 2 ^ f : Nat) : Int) := by rw [Int.natCast_ediv, Int.natCast_pow]; rfl
  have h1 := Nat.pow_le_pow_right (n := 2) (by omega) hn
  have h2 : 0 < 2 ^ n := Nat.two_pow_pos n
  have e2 : ones n = ((2 ^ n - 1 : Nat) : Int) := by
    unfold ones
    rw [Int.natCast_sub h2, Int.natCast_pow]; rfl
  rw [e1, e2, bits_and_u64_nat _ _ (Nat.lt_of_le_of_lt (Nat.div_le_self _ _) hx) (by omega), Nat.and_two_pow_sub_one_eq_mod]
  unfold fld
  rw [Int.natCast_emod, Int.natCast_ediv, Int.natCast_pow, Int.natCast_pow]; rfl
theorem fld_zero (w : Int) (f : Nat) : fld w f 0 = 0 := by unfold fld; rw [Int.pow_zero]; omega
@[irreducible] def bitI (w : Int) (i : Nat) : Int := w / 2 ^ i % 2
theorem bitI_B (w : Int) (i : Nat) : 0 ≤ bitI w i ∧ bitI w i < 2 := by unfold bitI; omega
@[irreducible] def pw (i : Nat) : Int := 2 ^ i
theorem pw_pos (i : Nat) : 0 < pw i := by unfold pw; exact two_pos i
theorem pw_lt {i : Nat} (h : i < 64) : pw i < 18446744073709551616 := by
  unfold pw
  have h1 := two_le (show i ≤ 63 by omega)
  have h2 : (2 : Int) ^ 63 = 9223372036854775808 := by decide
  omega
theorem pw_zero : pw 0 = 1 := by unfold pw; rfl
theorem pw_succ (i : Nat) : pw i * 2 = pw (i + 1) := by unfold pw; rw [Int.pow_succ]
theorem fld_succ (w : Int) (f i : Nat) : fld w f i + bitI w (f + i) * pw i = fld w f (i + 1) := by
  unfold fld bitI pw
  have e : w / 2 ^ (f + i) = w / 2 ^ f / 2 ^ i := by rw [Int.pow_add, Int.ediv_ediv_of_nonneg (Int.le_of_lt (two_pos f))]
  rw [e]
  generalize w / 2 ^ f = y
  have e2 : (2 : Int) ^ (i + 1) = 2 ^ i * 2 := Int.pow_succ 2 i
  have h1 := two_pos i
  rw [e2]
  generalize (2 : Int) ^ i = p at *
  have e3 : y % (p * 2) = y % p + p * (y / p % 2) := by
    rw [Int.emod_def, Int.emod_def y p, Int.emod_def (y / p) 2, ← Int.ediv_ediv_of_nonneg (Int.le_of_lt h1), Int.mul_sub, Int.mul_assoc]
    omega
  rw [e3, Int.mul_comm (y / p % 2)]
/-- A word, shifted down. -/
@[irreducible] def shd (w : Int) (i : Nat) : Int := w / 2 ^ i
theorem shd_zero (w : Int) : shd w 0 = w := by unfold shd; simp
theorem shd_U {w : Int} (hw : isU w) (i : Nat) : isU (shd w i) := by
  unfold isU at *
  unfold shd
  have h1 : 0 ≤ w / 2 ^ i := Int.ediv_nonneg hw.1 (Int.le_of_lt (two_pos i))
  have h2 : w / 2 ^ i ≤ w := Int.ediv_le_self _ hw.1
  omega
theorem shd_succ (w : Int) (i : Nat) : shd w i / 2 = shd w (i + 1) := by
  unfold shd
  rw [Int.pow_succ, Int.ediv_ediv_of_nonneg (Int.le_of_lt (two_pos i))]
theorem shd_bit (w : Int) (i : Nat) : shd w i % 2 = bitI w i := by unfold shd bitI; rfl
/-- .. by bytes. -/
@[irreducible] def sh8 (w : Int) (i : Nat) : Int := w / 256 ^ i
theorem sh8_zero (w : Int) : sh8 w 0 = w := by unfold sh8; simp
theorem sh8_U {w : Int} (hw : isU w) (i : Nat) : isU (sh8 w i) := by
  have h0 : (0 : Int) < 256 ^ i := Int.pow_pos (by decide)
  unfold isU at *
  unfold sh8
  have h1 : 0 ≤ w / 256 ^ i := Int.ediv_nonneg hw.1 (Int.le_of_lt h0)
  have h2 : w / 256 ^ i ≤ w := Int.ediv_le_self _ hw.1
  omega
theorem sh8_succ (w : Int) (i : Nat) : sh8 w i / 256 = sh8 w (i + 1) := by
  unfold sh8
  rw [Int.pow_succ, Int.ediv_ediv_of_nonneg (Int.le_of_lt (Int.pow_pos (by decide)))]
theorem sh8_byte (w : Int) (i : Nat) : sh8 w i % 256 = byt w i := by unfold sh8 byt; rfl
theorem byt_u8 (w : Int) (i : Nat) : IntKind.u8.wrap (byt w i) = byt w i := by
  have := byt_B w i
  unfold isBt at this
  rw [u8w]; omega
theorem byt_u64 (w : Int) (i : Nat) : IntKind.u64.wrap (byt w i) = byt w i := by
  have := byt_B w i
  unfold isBt at this
  rw [u64w]; omega
theorem list_ext0 {a b : List Int} (hl : a.length = b.length) (h : ∀ j < a.length, a.getD j 0 = b.getD j 0) : a = b := by
  refine List.ext_getElem hl fun j h1 h2 => ?_
  have := h j h1
  simpa [List.getD, h1, h2] using this
@[irreducible] def sz (n : Int) : Bool := decide (256 ≤ n) && decide (n ≤ 2048) && decide (n % 8 = 0)
@[irreducible] def chk (n : Int) : Int := if sz n then 0 else 8
@[irreducible] def getE (w a n : Int) : Int := if chk w = 0 then (if 0 ≤ a ∧ 0 ≤ n ∧ n ≤ w - a then 0 else 2) else 8
@[irreducible] def lineV (w a : Int) : Int := if chk w = 0 then (if 0 ≤ a ∧ 1 ≤ w - a then a / 8 else 0) else 0
theorem chk_le {w : Int} (h : chk w = 0) : 256 ≤ w ∧ w ≤ 2048 ∧ w % 8 = 0 := by
  unfold chk sz at h
  split at h
  · rename_i hh
    simp only [Bool.and_eq_true, decide_eq_true_eq] at hh
    omega
  · omega
theorem chk8 {w : Int} (h : ¬ chk w = 0) : chk w = 8 := by
  unfold chk at h ⊢
  split at h
  · exact absurd rfl h
  · rename_i hh; rw [if_neg hh]
theorem decLeT {a b : Int} (h : a ≤ b) : decide (a ≤ b) = true := decide_eq_true h
theorem decLeF {a b : Int} (h : b < a) : decide (a ≤ b) = false := decide_eq_false (by omega)
theorem decLtT {a b : Int} (h : a < b) : decide (a < b) = true := decide_eq_true h
theorem decLtF {a b : Int} (h : b ≤ a) : decide (a < b) = false := decide_eq_false (by omega)
theorem tdiv8 {a : Int} (h : 0 ≤ a) : a.tdiv 8 = a / 8 := Int.tdiv_eq_ediv_of_nonneg h
theorem tmod8 {a : Int} (h : 0 ≤ a) : a.tmod 8 = a % 8 := Int.tmod_eq_emod_of_nonneg h
/-- The reference's step. -/
theorem rstp {s b : Int} (hs : isU s) (hb : isBt b) : IntKind.u64.wrap (IntKind.u64.wrap (IntKind.u64.wrap (s - s % 256) + bits .xor .u8 (s % 256) b) * 1099511628211) = stp s b := by
  have hB : isU b := ⟨hb.1, by have := hb.2; omega⟩
  unfold stp
  rw [xor_u64 hs hB, xor_u8 (b := b) (by unfold isBt; omega) hb]
  have h1 := xor256 s.toNat b.toNat (by have := hb.2; have := hb.1; omega)
  have h2 : (s % 256).toNat = s.toNat % 256 := by have := hs.1; omega
  have h3 : (s.toNat ^^^ b.toNat) / 256 = s.toNat / 256 := by
    have := Nat.xor_div_two_pow (a := s.toNat) (b := b.toNat) (n := 8)
    rw [show b.toNat / 2 ^ 8 = 0 by have := hb.2; have := hb.1; omega, Nat.xor_zero] at this
    exact this
  rw [h2, ← h1]
  have h4 := Nat.div_add_mod (s.toNat ^^^ b.toNat) 256
  generalize s.toNat ^^^ b.toNat = x at *
  have h5 : IntKind.u64.wrap (IntKind.u64.wrap (s - s % 256) + ((x % 256 : Nat) : Int)) = IntKind.u64.wrap (x : Int) := by
    have := hs.1; have := hs.2
    rw [u64w, u64w, u64w]; omega
  rw [h5]
  rw [u64w, u64w, u64w]
  omega
end
end Go.Proofs.Ytmhnogmbpoeaeaa
