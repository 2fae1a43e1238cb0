/-
  The contracts of the program's functions, data in, data out. Conditions: those in the statements.
-/
import Derived.Test.YteodihbpnpgccaaH4
namespace Go.Proofs.Yteodihbpnpgccaa
set_option linter.all false
open Go Go.Proofs.Yteodihbpnpgccaa.Eng Go.RowKit
noncomputable section

@[irreducible] def imgS (s : Sup) : List Int := supL s ++ (supL s ++ List.replicate (s.w.toNat - 16) 0)
theorem imgS_eq (s : Sup) : imgS s = supL s ++ (supL s ++ List.replicate (s.w.toNat - 16) 0) := by unfold imgS; rfl
theorem imgS_len {s : Sup} (h : supOk s = true) : (imgS s).length = s.w.toNat := by
  have := sup_le h
  rw [imgS_eq]
  simp only [List.length_append, supL_len, List.length_replicate]
  omega
theorem imgS_U {s : Sup} (h : supOk s = true) : ∀ x ∈ imgS s, isU x := by
  intro x hx
  rw [imgS_eq] at hx
  rcases List.mem_append.1 hx with h1 | h1
  · exact supL_U h x h1
  · rcases List.mem_append.1 h1 with h1 | h1
    · exact supL_U h x h1
    · rw [List.eq_of_mem_replicate h1]; unfold isU; omega
theorem chk_of {n : Int} (h : 256 ≤ n) (h2 : n ≤ 2048) (h3 : n % 8 = 0) : chk n = 0 := by
  rw [chk_sz]
  unfold sz
  simp only [Bool.and_eq_true, decide_eq_true_eq]
  omega
theorem imgS_chk {s : Sup} (h : supOk s = true) : chk (imgS s).length = 0 := by
  have := sup_le h
  rw [imgS_len h]
  exact chk_of (by omega) (by omega) (by omega)
theorem imgS_drop (s : Sup) : (imgS s).drop 16 = List.replicate (s.w.toNat - 16) 0 := by
  rw [imgS_eq, ← List.append_assoc, List.drop_left' (by rw [List.length_append, supL_len])]
/-- The first copy is right. -/
theorem tw_first {s : Sup} {l r : List Int} (hs : supOk s = true) (hl : l.length = 8) (hw : s.w = (supL s ++ (l ++ r)).length) :
    twE (supL s ++ (l ++ r)) = 0 ∧ twS (supL s ++ (l ++ r)) = s ∧ twA (supL s ++ (l ++ r)) = true ∧ twV (supL s ++ (l ++ r)) = supL s ++ (supL s ++ r) ∧ twB (supL s ++ (l ++ r)) = cpOk (supL s ++ (l ++ r)) 1 := by
  have hc := cpL_two (r := r) (supL_len s) hl
  have h1 := sup_le hs
  obtain ⟨a1, a2⟩ := cp_sup (k := 0) hs hw hc.1
  have hE := twE_0a (chk_of (by omega) (by omega) (by omega)) a1
  obtain ⟨hA, hB⟩ := tw_AB hE
  have hS := (twS_a hE a1).trans a2
  refine ⟨hE, hS, hA.trans a1, ?_, hB⟩
  rw [twV_0 hE, hS, ← List.append_assoc (supL s) l r, List.drop_left' (by rw [List.length_append, supL_len, hl])]
/-- The first copy is not right, the second one is. -/
theorem tw_second {s : Sup} {l r : List Int} (hs : supOk s = true) (hl : l.length = 8) (hw : s.w = (l ++ (supL s ++ r)).length) (hn : ¬ (readE l = 0 ∧ (readV l).w = s.w)) :
    twE (l ++ (supL s ++ r)) = 0 ∧ twS (l ++ (supL s ++ r)) = s ∧ twA (l ++ (supL s ++ r)) = false ∧ twB (l ++ (supL s ++ r)) = true ∧ twV (l ++ (supL s ++ r)) = supL s ++ (supL s ++ r) := by
  have hc := cpL_two (r := r) hl (supL_len s)
  have h1 := sup_le hs
  obtain ⟨b1, b2⟩ := cp_sup (k := 1) hs hw hc.2
  obtain ⟨a1, a2⟩ := cp_no (m := l ++ (supL s ++ r)) (k := 0) (by rw [hc.1, ← hw]; exact hn)
  have hE := twE_0b (chk_of (by omega) (by omega) (by omega)) b1
  obtain ⟨hA, hB⟩ := tw_AB hE
  have hS := (twS_b hE a1).trans b2
  refine ⟨hE, hS, hA.trans a1, hB.trans b1, ?_⟩
  rw [twV_0 hE, hS, ← List.append_assoc l, List.drop_left' (by rw [List.length_append, supL_len, hl])]
/-- No copy is right. -/
theorem tw_none {a b r : List Int} (ha : a.length = 8) (hb : b.length = 8) (hc : chk (a ++ (b ++ r)).length = 0) (h1 : ¬ (readE a = 0 ∧ (readV a).w = (a ++ (b ++ r)).length)) (h2 : ¬ (readE b = 0 ∧ (readV b).w = (a ++ (b ++ r)).length)) : twE (a ++ (b ++ r)) = 50 := by
  have h3 := cpL_two (r := r) ha hb
  exact twE_50 hc (cp_no (by rw [h3.1]; exact h1)).1 (cp_no (by rw [h3.2]; exact h2)).1
/-! One word is another one. -/
theorem heN_one {m v : List Int} {p : Nat} (hp : ¬ v.getD p 0 = m.getD p 0) (h : ∀ i, i ≠ p → v.getD i 0 = m.getD i 0) : ∀ n, heN m v n = if p < n then [⟨(p : Int), v.getD p 0⟩] else []
  | 0 => by rw [heN_zero]; rfl
  | n + 1 => by
    have ih := heN_one hp h n
    by_cases e : n = p
    · subst e
      rw [← heN_t hp, ih, if_neg (Nat.lt_irrefl _), if_pos (by omega)]; rfl
    · rw [← heN_f (h n e), ih]
      by_cases e2 : p < n
      · rw [if_pos e2, if_pos (by omega)]
      · rw [if_neg e2, if_neg (by omega)]
/-- Where the first copy is right, only the second one is changed. -/
theorem heal_first {m : List Int} (h : twE m = 0) (h0 : cpOk m 0 = true) {n i : Nat} (hi : i ∈ difN m (twV m) n) : 8 ≤ i ∧ i < 16 := by
  have hv := view_cp h
  have h1 : i < 16 := by
    rcases Nat.lt_or_ge i 16 with h1 | h1
    · exact h1
    · exact absurd (twV_get h h1).symm (mem_difN hi).2
  refine ⟨?_, h1⟩
  rcases Nat.lt_or_ge i 8 with h3 | h3
  · refine absurd ?_ (mem_difN hi).2
    have e1 := cp_get m 0 h3
    have e2 := cp_get (twV m) 0 h3
    rw [cp_words h0, ← twS_a h h0] at e1
    rw [hv.1] at e2
    simp only [Nat.mul_zero, Nat.zero_add] at e1 e2
    rw [e1, e2]
  · exact h3
theorem heal_at2 {m : List Int} (h : twE m = 0) (h0 : cpOk m 0 = true) {k : Nat} (hk : k < (twH m).length) : 8 ≤ ((twH m).getD k default).at_ ∧ ((twH m).getD k default).at_ ≤ 15 := by
  have hl := heal_len h
  have hkd : k < (difN m (twV m) m.length).length := by
    have := hl
    unfold difI at this
    rw [List.length_map] at this
    omega
  have hi := heal_first h h0 (List.getElem_mem hkd)
  have e : (twH m).getD k default = ⟨((difN m (twV m) m.length)[k] : Int), (twV m).getD (difN m (twV m) m.length)[k] 0⟩ := by
    rw [twH_0 h]
    unfold heN
    rw [difN_symm]
    simp [List.getD, hkd]
  rw [e]
  show (8 : Int) ≤ ((difN m (twV m) m.length)[k] : Int) ∧ ((difN m (twV m) m.length)[k] : Int) ≤ 15
  omega
theorem heN_nil {m v : List Int} (hl : m.length = v.length) (h : heN m v m.length = []) : m = v := by
  refine List.ext_getElem hl fun i h1 h2 => ?_
  have h3 : (difN v m m.length) = [] := by
    unfold heN at h
    exact List.map_eq_nil_iff.1 h
  refine Decidable.byContradiction fun h4 => ?_
  have h5 : i ∈ difN v m m.length := by
    unfold difN
    rw [List.mem_filter]
    refine ⟨List.mem_range.2 h1, ?_⟩
    simp [List.getD, h1, h2]
    exact fun h6 => h4 h6.symm
  rw [h3] at h5
  cases h5
theorem twH_nil {m : List Int} (h : twE m = 0) : twH m = [] ↔ m = twV m := by
  rw [twH_0 h]
  refine ⟨fun h1 => heN_nil (twV_len h).symm h1, fun h1 => ?_⟩
  rw [← h1, heN_self]
/-! Put and Get at the copies. -/
theorem get_first (s : Sup) (hs : supOk s = true) : getE (imgS s).length 0 8 = 0 ∧ getL (imgS s) 0 8 = supL s := by
  have h1 := sup_le hs
  have h2 := imgS_len hs
  have e : getE (imgS s).length 0 8 = 0 := getE_0 (imgS_chk hs) (by omega) (by omega) (by omega)
  refine ⟨e, ?_⟩
  rw [getL_0 e, imgS_eq]
  show List.take 8 (List.drop 0 _) = _
  rw [List.drop_zero, List.take_append_of_le_length (by rw [supL_len]; omega), List.take_of_length_le (by rw [supL_len]; omega)]
theorem put_0 {a r l : List Int} (ha : a.length = 8) (hl : l.length = 8) (hc : chk (a ++ r).length = 0) : getE (a ++ r).length 0 l.length = 0 ∧ putL (a ++ r) 0 l = l ++ r := by
  have h3 := chk_le hc
  have e : getE (a ++ r).length 0 l.length = 0 := getE_0 hc (by omega) (by omega) (by omega)
  refine ⟨e, ?_⟩
  rw [putL_0 e]
  show List.take 0 _ ++ (l ++ List.drop (0 + l.length) _) = _
  rw [List.take_zero, List.nil_append, Nat.zero_add, hl, ← ha, List.drop_left]
theorem put_8 {a b r l : List Int} (ha : a.length = 8) (hb : b.length = 8) (hl : l.length = 8) (hc : chk (a ++ (b ++ r)).length = 0) : getE (a ++ (b ++ r)).length 8 l.length = 0 ∧ putL (a ++ (b ++ r)) 8 l = a ++ (l ++ r) := by
  have h3 := chk_le hc
  have e : getE (a ++ (b ++ r)).length 8 l.length = 0 := getE_0 hc (by omega) (by omega) (by omega)
  refine ⟨e, ?_⟩
  rw [putL_0 e]
  show List.take 8 _ ++ (l ++ List.drop (8 + l.length) _) = _
  have e1 : List.take 8 (a ++ (b ++ r)) = a := by rw [List.take_append_of_le_length (by omega), List.take_of_length_le (by omega)]
  have e2 : List.drop (8 + l.length) (a ++ (b ++ r)) = r := by
    rw [← List.append_assoc, show 8 + l.length = (a ++ b).length by rw [List.length_append]; omega, List.drop_left]
  rw [e1, e2]
theorem set_16 {a b r : List Int} (ha : a.length = 8) (hb : b.length = 8) {k : Nat} (hk : 16 ≤ k) (w : Int) : (a ++ (b ++ r)).set k w = a ++ (b ++ r.set (k - 16) w) := by
  rw [List.set_append_right k _ (by omega), List.set_append_right _ _ (by omega)]
  rw [ha, hb, show k - 8 - 8 = k - 16 by omega]
end
end Go.Proofs.Yteodihbpnpgccaa
