/-
  Plain numbers: the value of a field of a word, a word after setting a field, both as bits. No program is imported.
-/
import Derived.Laws.BitsAllLaws
namespace Go.Proofs.Ytgckcjjjapmnhaa

/-- The value of the field of x from the bit f with the width n. -/
def getV (x f n : Nat) : Nat := x / 2 ^ f % 2 ^ n
/-- x after setting this field to v. -/
def setV (x f n v : Nat) : Nat := 2 ^ f * (2 ^ n * (x / 2 ^ (f + n)) + v % 2 ^ n) + x % 2 ^ f

theorem testBit_getV (x f n j : Nat) : (getV x f n).testBit j = (decide (j < n) && x.testBit (f + j)) := by
  unfold getV
  rw [Nat.testBit_mod_two_pow, Nat.testBit_div_two_pow]
  congr 2
  omega

theorem testBit_setV (x f n v j : Nat) :
    (setV x f n v).testBit j = if j < f then x.testBit j else if j < f + n then v.testBit (j - f) else x.testBit j := by
  unfold setV
  rw [Nat.testBit_two_pow_mul_add _ (Nat.mod_lt _ (Nat.two_pow_pos f))]
  by_cases h : j < f
  · simp [h]
  · rw [if_neg h, if_neg h, Nat.testBit_two_pow_mul_add _ (Nat.mod_lt _ (Nat.two_pow_pos n))]
    by_cases h2 : j < f + n
    · rw [if_pos (by omega), if_pos h2]; simp; intro; omega
    · rw [if_neg (by omega), if_neg h2, Nat.testBit_div_two_pow]; congr 1; omega

theorem lt64_of_bits (a : Nat) (h : ∀ j, 64 ≤ j → a.testBit j = false) : a < 18446744073709551616 := by
  have := Nat.lt_pow_two_of_testBit (n := 64) a h
  simpa using this
theorem bit_big (x : Nat) (hx : x < 18446744073709551616) (j : Nat) (hj : 64 ≤ j) : x.testBit j = false :=
  Nat.testBit_lt_two_pow (Nat.lt_of_lt_of_le hx (by
    have := Nat.pow_le_pow_right (n := 2) (by omega) hj
    simpa using this))
theorem bit_wide (x n : Nat) (hx : x < 2 ^ n) (j : Nat) (hj : n ≤ j) : x.testBit j = false :=
  Nat.testBit_lt_two_pow (Nat.lt_of_lt_of_le hx (Nat.pow_le_pow_right (by omega) hj))

theorem setV_lt (x f n v : Nat) (hx : x < 18446744073709551616) (hn : f + n ≤ 64) : setV x f n v < 18446744073709551616 := by
  refine lt64_of_bits _ fun j hj => ?_
  rw [testBit_setV, if_neg (by omega), if_neg (by omega)]
  exact bit_big x hx j hj
theorem getV_lt (x f n : Nat) : getV x f n < 2 ^ n := Nat.mod_lt _ (Nat.two_pow_pos n)
theorem getV_lt64 (x f n : Nat) (hx : x < 18446744073709551616) : getV x f n < 18446744073709551616 :=
  Nat.lt_of_le_of_lt (Nat.le_trans (Nat.mod_le _ _) (Nat.div_le_self _ _)) hx
theorem two_pow_lt64 (n : Nat) (h : n < 64) : 2 ^ n < 18446744073709551616 := by
  have := Nat.pow_lt_pow_right (a := 2) (by omega) h
  simpa using this
theorem two_pow_le64 (n : Nat) (h : n ≤ 64) : 2 ^ n ≤ 18446744073709551616 := by
  have := Nat.pow_le_pow_right (n := 2) (by omega) h
  simpa using this

/-! The program's own words. -/
theorem get_and (x f n : Nat) : (x / 2 ^ f) &&& (2 ^ n - 1) = getV x f n := Nat.and_two_pow_sub_one_eq_mod _ _

theorem testBit_ones64 (j : Nat) : (18446744073709551615 : Nat).testBit j = decide (j < 64) := by
  have := Nat.testBit_two_pow_sub_one 64 j
  simpa using this
theorem testBit_not64 (b j : Nat) (hb : b < 18446744073709551616) : (18446744073709551615 - b).testBit j = (decide (j < 64) && !b.testBit j) := by
  have h : (2 ^ 64 - (b + 1)).testBit j = (decide (j < 64) && !b.testBit j) := Nat.testBit_two_pow_sub_succ (by simpa using hb) j
  have e : (18446744073709551615 - b : Nat) = 2 ^ 64 - (b + 1) := by omega
  rw [e]; exact h
theorem set_or (x f n v : Nat) (hx : x < 18446744073709551616) (hn : f + n ≤ 64) (hv : v < 2 ^ n) :
    (x &&& (18446744073709551615 - (2 ^ n - 1) * 2 ^ f % 18446744073709551616)) ||| (v * 2 ^ f % 18446744073709551616) = setV x f n v := by
  refine Nat.eq_of_testBit_eq fun j => ?_
  rw [Nat.testBit_or, Nat.testBit_and, testBit_not64 _ _ (Nat.mod_lt _ (by omega)), testBit_setV]
  have e : (18446744073709551616 : Nat) = 2 ^ 64 := by decide
  rw [e, Nat.testBit_mod_two_pow, Nat.testBit_mod_two_pow, Nat.mul_comm _ (2 ^ f), Nat.mul_comm _ (2 ^ f),
    Nat.testBit_two_pow_mul, Nat.testBit_two_pow_mul, Nat.testBit_two_pow_sub_one]
  by_cases h64 : j < 64
  · by_cases h : j < f
    · simp [h, h64, Nat.not_le.2 h]
    · by_cases h2 : j < f + n
      · have h3 : j - f < n := by omega
        simp [h, h2, h3, h64, Nat.not_lt.1 h]
      · have h3 : ¬ j - f < n := by omega
        have h4 := bit_wide v n hv (j - f) (by omega)
        simp [h, h2, h3, h64, h4]
  · have hb := bit_big x hx j (by omega)
    simp [h64, hb]
    intro; omega

/-! The reference's loops. -/
theorem getV_zero (x f : Nat) : getV x f 0 = 0 := by unfold getV; omega
theorem getV_succ (x f i : Nat) : getV x f (i + 1) = getV x f i + x / 2 ^ (f + i) % 2 * 2 ^ i := by
  unfold getV
  rw [Nat.pow_succ, Nat.mod_mul, Nat.div_div_eq_div_mul, ← Nat.pow_add]
  rw [Nat.mul_comm (2 ^ i)]
theorem setV_zero (x f v : Nat) : setV x f 0 v = x := by
  unfold setV
  simp [Nat.mod_one]
  exact Nat.div_add_mod x (2 ^ f)
theorem bit_nat (x i : Nat) : x / 2 ^ i % 2 = (x.testBit i).toNat := by
  rw [Nat.testBit_eq_decide_div_mod_eq]
  have := Nat.mod_two_eq_zero_or_one (x / 2 ^ i)
  rcases this with h | h <;> simp [h]
/-- What the reference takes away is there, and what stands behind the round is the word with a bit more. -/
theorem setV_succ (x f i v : Nat) :
    setV x f i v / 2 ^ (f + i) % 2 * 2 ^ (f + i) ≤ setV x f i v ∧
    setV x f i v - setV x f i v / 2 ^ (f + i) % 2 * 2 ^ (f + i) + v / 2 ^ i % 2 * 2 ^ (f + i) = setV x f (i + 1) v := by
  have hs : setV x f i v = 2 ^ (f + i) * (x / 2 ^ (f + i)) + (2 ^ f * (v % 2 ^ i) + x % 2 ^ f) := by
    unfold setV; rw [Nat.mul_add, ← Nat.mul_assoc, ← Nat.pow_add]; omega
  have hlow : 2 ^ f * (v % 2 ^ i) + x % 2 ^ f < 2 ^ (f + i) := by
    have h1 : v % 2 ^ i + 1 ≤ 2 ^ i := Nat.mod_lt _ (Nat.two_pow_pos i)
    have h2 : x % 2 ^ f < 2 ^ f := Nat.mod_lt _ (Nat.two_pow_pos f)
    have h3 : 2 ^ f * (v % 2 ^ i + 1) ≤ 2 ^ f * 2 ^ i := Nat.mul_le_mul_left _ h1
    rw [Nat.mul_add] at h3
    rw [Nat.pow_add]; omega
  have hs1 : setV x f (i + 1) v = 2 ^ (f + i) * (2 * (x / 2 ^ (f + i) / 2)) + 2 ^ (f + i) * (v / 2 ^ i % 2) + (2 ^ f * (v % 2 ^ i) + x % 2 ^ f) := by
    unfold setV
    have e1 : x / 2 ^ (f + (i + 1)) = x / 2 ^ (f + i) / 2 := by rw [Nat.div_div_eq_div_mul, ← Nat.pow_succ]; rfl
    have e2 : v % 2 ^ (i + 1) = v % 2 ^ i + 2 ^ i * (v / 2 ^ i % 2) := by rw [Nat.pow_succ, Nat.mod_mul]
    have e5 : 2 ^ f * (2 ^ (i + 1) * (x / 2 ^ (f + i) / 2)) = 2 ^ (f + i) * (2 * (x / 2 ^ (f + i) / 2)) := by
      rw [← Nat.mul_assoc, ← Nat.pow_add, ← Nat.add_assoc, Nat.pow_succ, Nat.mul_assoc]
    have e6 : 2 ^ f * (2 ^ i * (v / 2 ^ i % 2)) = 2 ^ (f + i) * (v / 2 ^ i % 2) := by rw [← Nat.mul_assoc, ← Nat.pow_add]
    rw [e1, e2, Nat.mul_add, Nat.mul_add, e5, e6]
    omega
  have hb : setV x f i v / 2 ^ (f + i) = x / 2 ^ (f + i) := by
    rw [hs, Nat.mul_add_div (Nat.two_pow_pos _), Nat.div_eq_of_lt hlow]; omega
  rw [hb, hs1]
  have hd := Nat.div_add_mod (x / 2 ^ (f + i)) 2
  generalize hq : x / 2 ^ (f + i) / 2 = q at *
  generalize hr : x / 2 ^ (f + i) % 2 = r at *
  have hs' : setV x f i v = 2 ^ (f + i) * (2 * q) + 2 ^ (f + i) * r + (2 ^ f * (v % 2 ^ i) + x % 2 ^ f) := by
    rw [hs, ← hd, Nat.mul_add]
  rw [hs', Nat.mul_comm r, Nat.mul_comm _ (2 ^ (f + i))]
  omega

/-! Behind names, so that no cast is pushed through them. -/
def p2 (n : Nat) : Nat := 2 ^ n
def bitN (x i : Nat) : Nat := x / 2 ^ i % 2
def shrN (x i : Nat) : Nat := x / 2 ^ i
theorem p2_pos (n : Nat) : 0 < p2 n := Nat.two_pow_pos n
theorem p2_lt (n : Nat) (h : n < 64) : p2 n < 18446744073709551616 := two_pow_lt64 n h
theorem bitN_lt (x i : Nat) : bitN x i < 2 := Nat.mod_lt _ (by omega)
theorem shrN_le (x i : Nat) : shrN x i ≤ x := Nat.div_le_self _ _
theorem shrN_zero (x : Nat) : shrN x 0 = x := by simp [shrN]
theorem shrN_succ (x i : Nat) : shrN x i / 2 = shrN x (i + 1) := by unfold shrN; rw [Nat.div_div_eq_div_mul, ← Nat.pow_succ]
theorem p2_succ (i : Nat) : p2 i * 2 = p2 (i + 1) := (Nat.pow_succ _ _).symm
theorem getV_step (x f i : Nat) : getV x f i + bitN x (f + i) * p2 i = getV x f (i + 1) := (getV_succ x f i).symm
theorem setV_le (x f i v : Nat) : bitN (setV x f i v) (f + i) * p2 (f + i) ≤ setV x f i v := (setV_succ x f i v).1
theorem setV_step (x f i v : Nat) : setV x f i v - bitN (setV x f i v) (f + i) * p2 (f + i) + bitN v i * p2 (f + i) = setV x f (i + 1) v := (setV_succ x f i v).2

/-! The consequences. -/
theorem testBit_lt (v n j : Nat) (h : v < 2 ^ n) (hj : ¬ j < n) : v.testBit j = false := bit_wide v n h j (by omega)
theorem getV_setV (x f n v : Nat) (hv : v < 2 ^ n) : getV (setV x f n v) f n = v := by
  refine Nat.eq_of_testBit_eq fun j => ?_
  rw [testBit_getV, testBit_setV]
  by_cases h : j < n
  · rw [if_neg (by omega), if_pos (by omega), show f + j - f = j by omega]; simp [h]
  · simp [h, testBit_lt v n j hv h]
theorem setV_setV (x f n v u : Nat) : setV (setV x f n v) f n u = setV x f n u := by
  refine Nat.eq_of_testBit_eq fun j => ?_
  simp only [testBit_setV]
  by_cases h : j < f <;> by_cases h2 : j < f + n <;> simp [h, h2]
theorem setV_own (x f n : Nat) : setV x f n (getV x f n) = x := by
  refine Nat.eq_of_testBit_eq fun j => ?_
  rw [testBit_setV]
  by_cases h : j < f
  · simp [h]
  · by_cases h2 : j < f + n
    · rw [if_neg h, if_pos h2, testBit_getV]; simp [show j - f < n by omega, show f + (j - f) = j by omega]
    · simp [h, h2]
theorem getV_bit_in (x f n v b : Nat) (h1 : f ≤ b) (h2 : b < f + n) : getV (setV x f n v) b 1 = v / 2 ^ (b - f) % 2 := by
  refine Nat.eq_of_testBit_eq fun j => ?_
  rw [testBit_getV, testBit_setV, show v / 2 ^ (b - f) % 2 = getV v (b - f) 1 from rfl, testBit_getV]
  by_cases h : j < 1
  · rw [if_neg (by omega), if_pos (by omega), show b + j - f = b - f + j by omega]
  · simp [h]
theorem getV_bit_out (x f n v b : Nat) (h : b < f ∨ f + n ≤ b) : getV (setV x f n v) b 1 = getV x b 1 := by
  refine Nat.eq_of_testBit_eq fun j => ?_
  rw [testBit_getV, testBit_setV, testBit_getV]
  by_cases h1 : j < 1
  · by_cases h2 : b + j < f
    · rw [if_pos h2]
    · rw [if_neg h2, if_neg (by omega)]
  · simp [h1]
theorem setV_comm (x f n g m v u : Nat) (h : f + n ≤ g ∨ g + m ≤ f) : setV (setV x f n v) g m u = setV (setV x g m u) f n v := by
  refine Nat.eq_of_testBit_eq fun j => ?_
  simp only [testBit_setV]
  by_cases a : j < f <;> by_cases b : j < f + n <;> by_cases c : j < g <;> by_cases d : j < g + m <;> simp [a, b, c, d] <;> omega
theorem getV_apart (x f n g m v : Nat) (h : f + n ≤ g ∨ g + m ≤ f) : getV (setV x f n v) g m = getV x g m := by
  refine Nat.eq_of_testBit_eq fun j => ?_
  rw [testBit_getV, testBit_setV, testBit_getV]
  by_cases a : j < m
  · by_cases b : g + j < f
    · rw [if_pos b]
    · rw [if_neg b, if_neg (by omega)]
  · simp [a]
theorem getV_parts (x f a b : Nat) : getV x f (a + b) = getV x f a + getV x (f + a) b * 2 ^ a := by
  unfold getV
  rw [Nat.pow_add 2 a b, Nat.mod_mul, Nat.div_div_eq_div_mul, ← Nat.pow_add, Nat.mul_comm (2 ^ a)]

/-! Bytes. -/
def byteN (x i : Nat) : Nat := x / 256 ^ i % 256
theorem byteN_lt (x i : Nat) : byteN x i < 256 := Nat.mod_lt _ (by omega)
def ofN (b0 b1 b2 b3 b4 b5 b6 b7 : Nat) : Nat := b0 + 256 * (b1 + 256 * (b2 + 256 * (b3 + 256 * (b4 + 256 * (b5 + 256 * (b6 + 256 * b7))))))
def sh8 (x i : Nat) : Nat := x / 256 ^ i
theorem sh8_zero (x : Nat) : sh8 x 0 = x := by simp [sh8]
theorem sh8_succ (x i : Nat) : sh8 x i / 256 = sh8 x (i + 1) := by unfold sh8; rw [Nat.div_div_eq_div_mul, ← Nat.pow_succ]
theorem sh8_le (x i : Nat) : sh8 x i ≤ x := Nat.div_le_self _ _
theorem sh8_mod (x i : Nat) : sh8 x i % 256 = byteN x i := rfl
def bsh (x i : Nat) : Nat := byteN x i * 256 ^ i
def lo8 (x i : Nat) : Nat := x % 256 ^ i
theorem pow256_le (i : Nat) (hi : i ≤ 8) : 256 ^ i ≤ 18446744073709551616 := by
  have := Nat.pow_le_pow_right (n := 256) (by omega) hi
  simpa using this
theorem bsh_lt (x i : Nat) (hi : i < 8) : bsh x i < 18446744073709551616 := by
  have h1 := pow256_le (i + 1) (by omega)
  have h2 : byteN x i + 1 ≤ 256 := byteN_lt x i
  have h3 := Nat.mul_le_mul_right (256 ^ i) h2
  have h4 : 0 < 256 ^ i := Nat.pow_pos (by omega)
  rw [Nat.pow_succ, Nat.mul_comm] at h1
  rw [Nat.add_mul] at h3
  unfold bsh
  omega
theorem lo8_lt (x i : Nat) (hi : i ≤ 8) : lo8 x i < 18446744073709551616 :=
  Nat.lt_of_lt_of_le (Nat.mod_lt _ (Nat.pow_pos (by omega))) (pow256_le i hi)
theorem lo8_add (x i : Nat) : lo8 x i + bsh x i = lo8 x (i + 1) := by
  unfold lo8 bsh byteN
  rw [Nat.pow_succ, Nat.mod_mul, Nat.mul_comm (256 ^ i)]
theorem lo8_join (x i : Nat) : lo8 x i ||| bsh x i = lo8 x (i + 1) := by
  rw [Nat.or_comm, nat_join (8 * i), Nat.add_comm, lo8_add]
  · unfold bsh
    rw [Nat.pow_mul]
    exact Nat.mul_mod_left _ _
  · rw [Nat.pow_mul]
    exact Nat.mod_lt _ (Nat.pow_pos (by omega))
theorem lo8_all (x : Nat) (hx : x < 18446744073709551616) : lo8 x 8 = x := Nat.mod_eq_of_lt (by simpa using hx)
def hi8 (x i : Nat) : Nat := 256 * sh8 x i
theorem hi8_add (x i : Nat) : hi8 x (i + 1) + byteN x i = sh8 x i := by
  unfold hi8; rw [← sh8_succ, ← sh8_mod]; omega
theorem hi8_lt (x i : Nat) (hx : x < 18446744073709551616) : hi8 x (i + 1) < 18446744073709551616 := by
  have h1 := hi8_add x i
  have h2 := sh8_le x i
  omega
theorem sh8_top (x : Nat) (hx : x < 18446744073709551616) : sh8 x 7 = byteN x 7 := by
  rw [← sh8_mod]
  have : sh8 x 7 < 256 := by unfold sh8; omega
  omega
end Go.Proofs.Ytgckcjjjapmnhaa
