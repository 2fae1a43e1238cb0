/-
  The contracts of the program's functions, data in, data out. Conditions: those in the statements.
-/
import Derived.Test.YteodihbpnpgccaaH1
namespace Go.Proofs.Yteodihbpnpgccaa
set_option linter.all false
open Go Go.Proofs.Yteodihbpnpgccaa.Eng Go.RowKit
noncomputable section

theorem cpL_two {a b r : List Int} (ha : a.length = 8) (hb : b.length = 8) : cpL (a ++ (b ++ r)) 0 = a ∧ cpL (a ++ (b ++ r)) 1 = b := by
  unfold cpL
  refine ⟨?_, ?_⟩
  · rw [List.drop_zero, List.take_append_of_le_length (by omega), List.take_of_length_le (by omega)]
  · rw [show 8 * 1 = a.length by omega, List.drop_left, List.take_append_of_le_length (by omega), List.take_of_length_le (by omega)]
theorem cp_sup {m : List Int} {k : Nat} {s : Sup} (hs : supOk s = true) (hw : s.w = m.length) (h : cpL m k = supL s) : cpOk m k = true ∧ cpS m k = s := by
  have h1 := read_supL hs
  have h2 := cp_yes (m := m) (k := k) (by rw [h]; exact h1.1) (by rw [h, h1.2]; exact hw)
  exact ⟨h2.1, by rw [h2.2, h, h1.2]⟩
/-- A copy that is right has the words of its superblock. -/
theorem cp_words {m : List Int} {k : Nat} (h : cpOk m k = true) : cpL m k = supL (cpS m k) := by
  have h1 := (cpOk_is h).1
  have h2 := (readE_is h1).2.2
  rw [(cpS_ok h).1, readV_0 h1, h2]
theorem split16 {m : List Int} (h : 16 ≤ m.length) : m = cpL m 0 ++ (cpL m 1 ++ m.drop 16) := by
  unfold cpL
  have e1 : m.drop 16 = (m.drop 8).drop 8 := by rw [List.drop_drop]
  rw [e1, show 8 * 1 = 8 from rfl, List.take_append_drop, show 8 * 0 = 0 from rfl, List.drop_zero, List.take_append_drop]
theorem heN_self (m : List Int) : ∀ n, heN m m n = []
  | 0 => heN_zero m m
  | n + 1 => by rw [← heN_f (m := m) (v := m) (i := n) rfl, heN_self m n]
theorem tw_view {m : List Int} (h : twE m = 0) : twE (twV m) = 0 ∧ twA (twV m) = true ∧ twB (twV m) = true ∧ twS (twV m) = twS m ∧ twV (twV m) = twV m ∧ twH (twV m) = [] := by
  obtain ⟨hs, hw⟩ := twS_ok h
  have hl := twV_len h
  have e := twV_0 h
  have hc := cpL_two (r := m.drop 16) (supL_len (twS m)) (supL_len (twS m))
  rw [← e] at hc
  obtain ⟨a1, a2⟩ := cp_sup (m := twV m) (k := 0) hs (by rw [hl]; exact hw) hc.1
  obtain ⟨b1, b2⟩ := cp_sup (m := twV m) (k := 1) hs (by rw [hl]; exact hw) hc.2
  have h0 : chk (twV m).length = 0 := by rw [hl]; exact (twE_is h).1
  have hE := twE_0a h0 a1
  obtain ⟨hA, hB⟩ := tw_AB hE
  have hS : twS (twV m) = twS m := by rw [twS_a hE a1, a2]
  have hV : twV (twV m) = twV m := by
    rw [twV_0 hE, hS]
    conv => rhs; rw [e]
    congr 2
    rw [e, ← List.append_assoc, List.drop_left' (by rw [List.length_append, supL_len])]
  refine ⟨hE, by rw [hA, a1], by rw [hB, b1], hS, hV, ?_⟩
  rw [twH_0 hE, hV, heN_self]
/-! The words behind the copies. -/
theorem twV_get {m : List Int} (h : twE m = 0) {i : Nat} (hi : 16 ≤ i) : (twV m).getD i 0 = m.getD i 0 := by
  rw [twV_0 h, ← List.append_assoc]
  have hl : (supL (twS m) ++ supL (twS m)).length = 16 := by rw [List.length_append, supL_len]
  simp only [List.getD]
  rw [List.getElem?_append_right (by omega), hl, List.getElem?_drop]
  congr 2; omega
theorem heN_16 {m : List Int} (h : twE m = 0) : ∀ n, 16 ≤ n → heN m (twV m) n = heN m (twV m) 16
  | 0, h0 => by omega
  | n + 1, h0 => by
    by_cases e : n = 15
    · subst e; rfl
    · rw [← heN_f (m := m) (v := twV m) (i := n) (twV_get h (by omega)), heN_16 h n (by omega)]
theorem heN_cong {m v m' v' : List Int} : ∀ n, (∀ i < n, m.getD i 0 = m'.getD i 0 ∧ v.getD i 0 = v'.getD i 0) → heN m v n = heN m' v' n
  | 0, _ => by rw [heN_zero, heN_zero]
  | n + 1, h => by
    have ih := heN_cong n fun i hi => h i (by omega)
    obtain ⟨h1, h2⟩ := h n (by omega)
    by_cases e : v.getD n 0 = m.getD n 0
    · rw [← heN_f e, ← heN_f (m := m') (v := v') (i := n) (by rw [← h1, ← h2]; exact e), ih]
    · rw [← heN_t e, ← heN_t (m := m') (v := v') (i := n) (by rw [← h1, ← h2]; exact e), ih, h2]
theorem take16_get {m x : List Int} (h : m.take 16 = x.take 16) {i : Nat} (hi : i < 16) : m.getD i 0 = x.getD i 0 := by
  have h1 : ∀ l : List Int, (l.take 16).getD i 0 = l.getD i 0 := fun l => by simp [List.getD, List.getElem?_take, hi]
  rw [← h1 m, h, h1]
theorem cpL_take {m x : List Int} (h : m.take 16 = x.take 16) {k : Nat} (hk : k ≤ 1) : cpL m k = cpL x k := by
  unfold cpL
  have e : ∀ l : List Int, (l.drop (8 * k)).take 8 = ((l.take 16).drop (8 * k)).take 8 := fun l => by
    rw [List.drop_take, List.take_take, Nat.min_eq_left (by omega)]
  rw [e m, h, ← e x]
/-- What the first sixteen words, and how many there are, decide. -/
theorem tw_same {m x : List Int} (hl : m.length = x.length) (h : m.take 16 = x.take 16) : twE m = twE x ∧ twS m = twS x ∧ twA m = twA x ∧ twB m = twB x ∧ twH m = twH x := by
  have c0 : cpOk m 0 = cpOk x 0 := by unfold cpOk; rw [cpL_take h (by omega), hl]
  have c1 : cpOk m 1 = cpOk x 1 := by unfold cpOk; rw [cpL_take h (by omega), hl]
  have s0 : cpS m 0 = cpS x 0 := by unfold cpS; rw [c0, cpL_take h (by omega)]
  have s1 : cpS m 1 = cpS x 1 := by unfold cpS; rw [c1, cpL_take h (by omega)]
  have hE : twE m = twE x := by unfold twE; rw [c0, c1, hl]
  have hS : twS m = twS x := by unfold twS; rw [hE, c0, s0, s1]
  refine ⟨hE, hS, by unfold twA; rw [hE, c0], by unfold twB; rw [hE, c1], ?_⟩
  by_cases h0 : twE m = 0
  · have h0' : twE x = 0 := by rw [← hE]; exact h0
    have hm := chk_le (twE_is h0).1
    rw [twH_0 h0, twH_0 h0', heN_16 h0 _ (by omega), heN_16 h0' _ (by omega)]
    refine heN_cong 16 fun i hi => ⟨take16_get h hi, ?_⟩
    rw [twV_0 h0, twV_0 h0', hS, ← List.append_assoc, ← List.append_assoc]
    have hl2 : (supL (twS x) ++ supL (twS x)).length = 16 := by rw [List.length_append, supL_len]
    generalize supL (twS x) ++ supL (twS x) = y at *
    simp only [List.getD]
    rw [List.getElem?_append_left (by omega), List.getElem?_append_left (by omega)]
  · rw [twH_no h0, twH_no (by rw [← hE]; exact h0)]
/-! Where a view differs. -/
theorem difN_symm (a b : List Int) (n : Nat) : difN a b n = difN b a n := by
  unfold difN
  refine List.filter_congr fun i _ => ?_
  by_cases e : a.getD i 0 = b.getD i 0
  · rw [decide_eq_true e, decide_eq_true e.symm]
  · rw [decide_eq_false e, decide_eq_false (fun h => e h.symm)]
theorem mem_difN {a b : List Int} {n i : Nat} (h : i ∈ difN a b n) : i < n ∧ ¬ a.getD i 0 = b.getD i 0 := by
  unfold difN at h
  rw [List.mem_filter] at h
  refine ⟨List.mem_range.1 h.1, fun e => ?_⟩
  rw [decide_eq_true e] at h
  exact absurd h.2 (by decide)
theorem cp_get (m : List Int) (k : Nat) {i : Nat} (h : i < 8) : m.getD (8 * k + i) 0 = (cpL m k).getD i 0 := by
  unfold cpL
  simp [List.getD, List.getElem?_take, h]
theorem view_cp {m : List Int} (h : twE m = 0) : cpL (twV m) 0 = supL (twS m) ∧ cpL (twV m) 1 = supL (twS m) := by
  rw [twV_0 h]
  exact cpL_two (supL_len _) (supL_len _)
theorem heal_side {m : List Int} (h : twE m = 0) (n : Nat) : ∃ c : Nat, c ≤ 1 ∧ ∀ i ∈ difN m (twV m) n, i / 8 = c := by
  have hv := view_cp h
  have h16 : ∀ i ∈ difN m (twV m) n, i < 16 := fun i hi => by
    rcases Nat.lt_or_ge i 16 with h1 | h1
    · exact h1
    · exact absurd (twV_get h h1).symm (mem_difN hi).2
  cases h0 : cpOk m 0 with
  | true =>
    refine ⟨1, Nat.le_refl _, fun i hi => ?_⟩
    have h1 := h16 i hi
    have h2 : ¬ i < 8 := fun h3 => (mem_difN hi).2 (by
      have e1 := cp_get m 0 h3
      have e2 := cp_get (twV m) 0 h3
      rw [cp_words h0, ← twS_a h h0] at e1
      rw [hv.1] at e2
      simp only [Nat.mul_zero, Nat.zero_add] at e1 e2
      rw [e1, e2])
    omega
  | false =>
    have h1' : cpOk m 1 = true := by
      rcases (twE_is h).2 with h3 | h3
      · rw [h0] at h3; cases h3
      · exact h3
    refine ⟨0, Nat.zero_le _, fun i hi => ?_⟩
    have h1 := h16 i hi
    have h2 : i < 8 := by
      rcases Nat.lt_or_ge i 8 with h3 | h3
      · exact h3
      · exfalso
        refine (mem_difN hi).2 ?_
        have e1 := cp_get m 1 (i := i - 8) (by omega)
        have e2 := cp_get (twV m) 1 (i := i - 8) (by omega)
        rw [cp_words h1', ← twS_b h h0] at e1
        rw [hv.2] at e2
        rw [show 8 * 1 + (i - 8) = i by omega] at e1 e2
        rw [e1, e2]
    omega
theorem heal_len {m : List Int} (h : twE m = 0) : (difI m (twV m) m.length).length = (twH m).length := by
  rw [twH_0 h]
  unfold heN difI
  rw [List.length_map, List.length_map, difN_symm]
theorem heal_at {m : List Int} (h : twE m = 0) {k : Nat} (hk : k < (twH m).length) : ∃ i : Nat, i < m.length ∧ i < 16 ∧ (difI m (twV m) m.length).getD k 0 = (i : Int) ∧ (twH m).getD k default = ⟨(i : Int), (twV m).getD i 0⟩ ∧
    (∃ j : Nat, j < 16 ∧ (difI m (twV m) m.length).getD 0 0 = (j : Int) ∧ i / 8 = j / 8) := by
  obtain ⟨c, hc, hside⟩ := heal_side h m.length
  have hl := heal_len h
  have hkd : k < (difN m (twV m) m.length).length := by
    have := hl
    unfold difI at this
    rw [List.length_map] at this
    omega
  have hi := List.getElem_mem hkd
  have h0d : 0 < (difN m (twV m) m.length).length := by omega
  have hj := List.getElem_mem h0d
  have e1 := hside _ hi
  have e2 := hside _ hj
  refine ⟨(difN m (twV m) m.length)[k], (mem_difN hi).1, by omega, ?_, ?_, (difN m (twV m) m.length)[0], by omega, ?_, by omega⟩
  · unfold difI; simp [List.getD, hkd]
  · rw [twH_0 h]
    unfold heN
    rw [difN_symm]
    simp [List.getD, hkd]
  · unfold difI; simp [List.getD, h0d]
end
end Go.Proofs.Yteodihbpnpgccaa
