/-
  The contracts of the program's functions, data in, data out. Conditions: those in the statements.
-/
import Derived.Test.YtijllihnheggbaaD9
import Derived.Laws.Bits64b
namespace Go.Proofs.Ytijllihnheggbaa
set_option linter.all false
open Go Go.Proofs.Ytijllihnheggbaa.Eng Go.RowKit
noncomputable section

/-! A table of booleans. -/
@[irreducible] def bx (N : Nat) (f : Nat → Bool) : List AC := (List.range N).map fun k => .d (.v (.bool (f k)))
theorem bx_zero (N : Nat) : (rep N (Value.bool false)).map (fun z => AC.d (.v z)) = bx N fun _ => false := by
  unfold rep bx
  rw [List.map_replicate, List.map_const', List.length_range]
theorem bx_len (N : Nat) (f : Nat → Bool) : (bx N f).length = N := by unfold bx; rw [List.length_map, List.length_range]
theorem bx_ext {N : Nat} {f g : Nat → Bool} (h : ∀ k < N, f k = g k) : bx N f = bx N g := by
  unfold bx
  refine List.map_congr_left fun k hk => ?_
  rw [h k (List.mem_range.1 hk)]
theorem bx_get {N : Nat} (f : Nat → Bool) {k : Nat} (h : k < N) : ((bx N f).drop k).take 1 = [.d (.v (.bool (f k)))] := by
  have hk : k < (bx N f).length := by rw [bx_len]; exact h
  rw [List.drop_eq_getElem_cons hk, List.take_succ_cons, List.take_zero]
  simp [bx]
theorem bx_set {N : Nat} (f : Nat → Bool) {k : Nat} (h : k < N) : (bx N f).take k ++ AC.d (.v (.bool true)) :: (bx N f).drop (k + 1) = bx N fun j => decide (j = k) || f j := by
  have e : bx N (fun j => decide (j = k) || f j) = (bx N f).set k (.d (.v (.bool true))) := by
    refine List.ext_getElem (by rw [List.length_set, bx_len, bx_len]) fun j h1 h2 => ?_
    rw [List.getElem_set]
    by_cases hj : k = j
    · subst hj; simp [bx]
    · rw [if_neg hj]
      simp [bx, Ne.symm hj]
  rw [e, List.set_eq_take_append_cons_drop, if_pos (by rw [bx_len]; exact h)]
theorem bx_ren (N : Nat) (ρ : Nat → Nat) (f : Nat → Bool) : (bx N f).map (renC ρ) = bx N f := by
  unfold bx
  rw [List.map_map]
  rfl
theorem belL_all {n : Nat} : ∀ {l : List AC}, (∀ c ∈ l, belC n c) → belL n l
  | [], _ => trivial
  | c :: l, h => ⟨h c (by simp), belL_all fun c hc => h c (by simp [hc])⟩
theorem bx_bel (N n : Nat) (f : Nat → Bool) : belL n (bx N f) = True := by
  refine eq_true (belL_all fun c hc => ?_)
  unfold bx at hc
  obtain ⟨k, _, rfl⟩ := List.mem_map.1 hc
  trivial
def fset (l : List Int) (k : Nat) : Bool := decide ((k : Int) ∈ l)
theorem fset_nil (N : Nat) : bx N (fset []) = bx N fun _ => false := bx_ext fun k _ => by simp [fset]
theorem fset_snoc (N : Nat) (l : List Int) {v : Int} (h : 0 ≤ v) : (bx N fun j => decide (j = v.toNat) || fset l j) = bx N (fset (l ++ [v])) := bx_ext fun k _ => by
  rw [Bool.eq_iff_iff]
  simp only [fset, Bool.or_eq_true, decide_eq_true_eq, List.mem_append, List.mem_singleton]
  constructor
  · rintro (h1 | h1)
    · exact .inr (by omega)
    · exact .inl h1
  · rintro (h1 | h1)
    · exact .inr h1
    · exact .inl (by omega)
theorem chosen_mem (m : Int) (n k : Nat) : ((k : Int) ∈ chosenL m n) ↔ k < n ∧ keepB m k = true := by
  unfold chosenL chosenN
  simp only [List.mem_map, List.mem_filter, List.mem_range]
  constructor
  · rintro ⟨j, h, hj⟩
    obtain rfl : j = k := by omega
    exact h
  · exact fun h => ⟨k, h, rfl⟩
theorem chosen_get (m : Int) (n i : Nat) (h : i < (chosenL m n).length) : 0 ≤ (chosenL m n).getD i 0 ∧ (chosenL m n).getD i 0 < n := by
  have hm : (chosenL m n).getD i 0 ∈ chosenL m n := by simp [List.getD, h]
  generalize (chosenL m n).getD i 0 = x at hm
  have hm' := hm
  unfold chosenL chosenN at hm
  simp only [List.mem_map, List.mem_filter, List.mem_range] at hm
  obtain ⟨j, ⟨h1, _⟩, rfl⟩ := hm
  omega
theorem keep_or {a b : Int} (ha : 0 ≤ a ∧ a < 18446744073709551616) (hb : 0 ≤ b ∧ b < 18446744073709551616) (i : Nat) : keepB (bits .or .u64 a b) i = (keepB a i || keepB b i) := by
  obtain ⟨x, rfl⟩ := Int.eq_ofNat_of_zero_le ha.1
  obtain ⟨y, rfl⟩ := Int.eq_ofNat_of_zero_le hb.1
  rw [bits_or_u64_nat x y (by omega) (by omega)]
  have key : ∀ z : Nat, keepB (z : Int) i = z.testBit (i % 64) := fun z => by
    unfold keepB
    rw [Nat.testBit_eq_decide_div_mod_eq]
    have e : (z : Int) / 2 ^ (i % 64) % 2 = ((z / 2 ^ (i % 64) % 2 : Nat) : Int) := by
      rw [Int.natCast_emod, Int.natCast_ediv, Int.natCast_pow]; rfl
    rw [e]
    exact decide_eq_decide.2 (by omega)
  rw [key, key, key, Nat.testBit_or]
theorem or_range {a b : Int} (ha : 0 ≤ a ∧ a < 18446744073709551616) (hb : 0 ≤ b ∧ b < 18446744073709551616) : 0 ≤ bits .or .u64 a b ∧ bits .or .u64 a b < 18446744073709551616 := by
  obtain ⟨x, rfl⟩ := Int.eq_ofNat_of_zero_le ha.1
  obtain ⟨y, rfl⟩ := Int.eq_ofNat_of_zero_le hb.1
  rw [bits_or_u64_nat x y (by omega) (by omega)]
  have : x ||| y < 2 ^ 64 := Nat.or_lt_two_pow (by omega) (by omega)
  omega
theorem fset_union {a b : Int} (ha : 0 ≤ a ∧ a < 18446744073709551616) (hb : 0 ≤ b ∧ b < 18446744073709551616) (n k : Nat) : fset (chosenL a n ++ chosenL b n) k = (decide (k < n) && keepB (bits .or .u64 a b) k) := by
  unfold fset
  rw [Bool.eq_iff_iff]
  simp only [decide_eq_true_eq, List.mem_append, chosen_mem, Bool.and_eq_true, keep_or ha hb, Bool.or_eq_true]
  constructor
  · rintro (⟨h1, h2⟩ | ⟨h1, h2⟩)
    · exact ⟨h1, .inl h2⟩
    · exact ⟨h1, .inr h2⟩
  · rintro ⟨h1, h2 | h2⟩
    · exact .inl ⟨h1, h2⟩
    · exact .inr ⟨h1, h2⟩
theorem crash_armed (d : Dev) (n m : Int) (h : armE d n = 0) : crashD (armX d n) m = crashD d m := by
  unfold armX
  rw [if_pos h, crashD_eq, crashD_eq]
  rfl
theorem arm_ok {d : Dev} {n : Int} (h : chkD d = 0) (h1 : -1 ≤ n) (h2 : n ≤ 1000000) : armE d n = 0 ∧ chkD (armX d n) = 0 := by
  have e : armE d n = 0 := by unfold armE; rw [if_pos h, if_pos ⟨h1, h2⟩]
  refine ⟨e, ?_⟩
  have hd := (devOk_iff d).1 h
  unfold armX
  rw [if_pos e]
  exact (devOk_iff _).2 ⟨hd.1, hd.2.1, h1, h2, fun h => by cases h⟩
theorem fset_take (N : Nat) (p l : List Int) {i : Nat} (h : i < l.length) (h0 : 0 ≤ l.getD i 0) : (bx N fun j => decide (j = (l.getD i 0).toNat) || fset (p ++ l.take i) j) = bx N (fset (p ++ l.take (i + 1))) := by
  rw [fset_snoc N (p ++ l.take i) h0, List.append_assoc]
  have e : l.take i ++ [l.getD i 0] = l.take (i + 1) := by
    rw [List.take_add_one, List.getElem?_eq_getElem h]
    simp [List.getD, h]
  rw [e]
/-- How many are kept ahead of an index. -/
@[irreducible] def cnt (m : Int) (N i : Nat) : Nat := (chosenL m (min i N)).length
theorem cnt_zero (m : Int) (N : Nat) : cnt m N 0 = 0 := by unfold cnt; rw [Nat.zero_min, chosenL_zero]; rfl
theorem cnt_all (m : Int) {N i : Nat} (h : N ≤ i) : cnt m N i = (chosenL m N).length := by unfold cnt; rw [Nat.min_eq_right h]
theorem cnt_le (m : Int) (N i : Nat) : cnt m N i ≤ N := by unfold cnt; exact Nat.le_trans (chosenL_le _ _) (Nat.min_le_right _ _)
theorem mask_tri {a b : Int} (ha : 0 ≤ a ∧ a < 18446744073709551616) (hb : 0 ≤ b ∧ b < 18446744073709551616) {N i : Nat} (hN : N ≤ 2100) (hi : i ≤ 2101) :
    (i < 2101 ∧ cnt (bits .or .u64 a b) N i < (chosenL (bits .or .u64 a b) N).length ∧ cnt (bits .or .u64 a b) N (i + 1) = cnt (bits .or .u64 a b) N i + 1 ∧ decide ((i : Int) < 2101) = true ∧ fset (chosenL a N ++ chosenL b N) i = true ∧
      decide (((chosenL (bits .or .u64 a b) N).length : Int) ≤ (cnt (bits .or .u64 a b) N i : Int)) = false ∧ decide ((chosenL (bits .or .u64 a b) N).getD (cnt (bits .or .u64 a b) N i) 0 = (i : Int)) = true) ∨
    (i < 2101 ∧ True ∧ cnt (bits .or .u64 a b) N (i + 1) = cnt (bits .or .u64 a b) N i ∧ decide ((i : Int) < 2101) = true ∧ fset (chosenL a N ++ chosenL b N) i = false ∧ True ∧ True) ∨
    (i = 2101 ∧ True ∧ True ∧ decide ((i : Int) < 2101) = false ∧ True ∧ True ∧ True) := by
  by_cases h : i < 2101
  · have hd : decide ((i : Int) < 2101) = true := decide_eq_true (by omega)
    by_cases hk : i < N ∧ keepB (bits .or .u64 a b) i = true
    · obtain ⟨h1, h2⟩ := (chosen_here hk.1).2 hk.2
      have e : cnt (bits .or .u64 a b) N i = (chosenL (bits .or .u64 a b) i).length := by unfold cnt; rw [Nat.min_eq_left (by omega)]
      refine .inl ⟨h, by rw [e]; exact h1, ?_, hd, ?_, decide_eq_false (by rw [e]; omega), decide_eq_true (by rw [e]; exact h2)⟩
      · unfold cnt
        rw [Nat.min_eq_left (by omega), Nat.min_eq_left (by omega), ← chosenL_t hk.2]
        simp
      · rw [fset_union ha hb]; simp [hk]
    · refine .inr (.inl ⟨h, trivial, ?_, hd, ?_, trivial, trivial⟩)
      · unfold cnt
        by_cases hn : i < N
        · rw [Nat.min_eq_left (by omega), Nat.min_eq_left (by omega), ← chosenL_f (by cases hq : keepB (bits .or .u64 a b) i with | false => rfl | true => exact absurd ⟨hn, hq⟩ hk)]
        · rw [Nat.min_eq_right (by omega), Nat.min_eq_right (by omega)]
      · rw [fset_union ha hb, Bool.eq_false_iff]
        intro hq
        simp only [Bool.and_eq_true, decide_eq_true_eq] at hq
        exact hk hq
  · exact .inr (.inr ⟨by omega, trivial, trivial, decide_eq_false (by omega), trivial, trivial, trivial⟩)
end
end Go.Proofs.Ytijllihnheggbaa
