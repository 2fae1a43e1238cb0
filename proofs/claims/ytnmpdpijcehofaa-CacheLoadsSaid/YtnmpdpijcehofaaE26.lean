/-
  Values seen as data: a part of the engine, of no one program. No condition.
-/
import Derived.Test.YtnmpdpijcehofaaE25
namespace Go.Proofs.Ytnmpdpijcehofaa.Eng
set_option linter.all false
noncomputable section
open Go.RowKit

theorem getD_snoc {α : Type} (acc : List (List α)) (p : List α) (k : Nat) : (acc ++ [p]).getD k [] = if k < acc.length then acc.getD k [] else if k = acc.length then p else [] := by
  simp only [List.getD, List.getElem?_append]
  split
  · rfl
  · rename_i h
    by_cases hk : k = acc.length
    · subst hk; simp
    · rw [if_neg hk]
      have : k - acc.length = (k - acc.length - 1) + 1 := by omega
      rw [this]; rfl
def ancGo : List (List Nat) → List (List Nat) → List (List Nat)
  | acc, [] => acc
  | acc, p :: ps => ancGo (acc ++ [(p ++ p.flatMap fun i => acc.getD i []).eraseDups]) ps
theorem ancs_eq (pre : List (List Nat)) : ancs pre = ancGo [] pre := by
  unfold ancs
  have : ∀ (ps acc : List (List Nat)), ps.foldl (fun acc p => acc ++ [(p ++ p.flatMap fun i => acc.getD i []).eraseDups]) acc = ancGo acc ps := by
    intro ps
    induction ps with
    | nil => intro acc; rfl
    | cons p ps ih => intro acc; exact ih _
  exact this pre []
theorem ancGo_mono : ∀ (ps acc : List (List Nat)) (k : Nat), k < acc.length → (ancGo acc ps).getD k [] = acc.getD k []
  | [], acc, k, _ => rfl
  | p :: ps, acc, k, hk => by
    rw [ancGo, ancGo_mono ps _ k (by simp; omega), getD_snoc, if_pos hk]
theorem ancGo_sub (ps acc : List (List Nat)) (k : Nat) : ∀ i ∈ acc.getD k [], i ∈ (ancGo acc ps).getD k [] := by
  intro i hi
  by_cases hk : k < acc.length
  · rw [ancGo_mono ps acc k hk]; exact hi
  · have : acc.getD k [] = [] := by simp [List.getD, List.getElem?_eq_none (Nat.le_of_not_lt hk)]
    rw [this] at hi; cases hi
theorem ancGo_spec : ∀ (ps acc : List (List Nat)) (j i : Nat), i ∈ (ancGo acc ps).getD j [] → (j < acc.length ∧ i ∈ acc.getD j []) ∨ ∃ p, acc.length ≤ j ∧ ps[j - acc.length]? = some p ∧ (i ∈ p ∨ ∃ k ∈ p, i ∈ (ancGo acc ps).getD k [])
  | [], acc, j, i, h => by
    by_cases hj : j < acc.length
    · exact .inl ⟨hj, h⟩
    · have : acc.getD j [] = [] := by simp [List.getD, List.getElem?_eq_none (Nat.le_of_not_lt hj)]
      rw [ancGo, this] at h; cases h
  | p :: ps, acc, j, i, h => by
    rw [ancGo] at h ⊢
    rcases ancGo_spec ps _ j i h with ⟨hj, hi⟩ | ⟨q, hj, hq, hi⟩
    · rw [getD_snoc] at hi
      split at hi
      · rename_i hlt; exact .inl ⟨hlt, hi⟩
      · split at hi
        · rename_i hlt heq
          refine .inr ⟨p, by omega, by rw [heq, Nat.sub_self]; rfl, ?_⟩
          rcases List.mem_append.1 (List.mem_eraseDups.1 hi) with hi | hi
          · exact .inl hi
          · obtain ⟨k, hk, hik⟩ := List.mem_flatMap.1 hi
            refine .inr ⟨k, hk, ancGo_sub ps _ k i ?_⟩
            rw [getD_snoc]
            by_cases hkl : k < acc.length
            · rw [if_pos hkl]; exact hik
            · have : acc.getD k [] = [] := by simp [List.getD, List.getElem?_eq_none (Nat.le_of_not_lt hkl)]
              rw [this] at hik; cases hik
        · cases hi
    · simp only [List.length_append, List.length_singleton] at hj hq
      refine .inr ⟨q, by omega, ?_, hi⟩
      have : j - acc.length = (j - (acc.length + 1)) + 1 := by omega
      rw [this]; simpa using hq
theorem ancs_spec {pre : List (List Nat)} {j i : Nat} (h : i ∈ (ancs pre).getD j []) : ∃ p, pre[j]? = some p ∧ (i ∈ p ∨ ∃ k ∈ p, i ∈ (ancs pre).getD k []) := by
  rw [ancs_eq] at h ⊢
  rcases ancGo_spec pre [] j i h with ⟨hj, _⟩ | ⟨p, _, hp, hi⟩
  · simp at hj
  · exact ⟨p, by simpa using hp, hi⟩

/-- The operations whose bit is set. -/
def setOf (n : Nat) (listed : Array Bool) : List Nat := (List.range n).filter fun j => listed.getD j false
theorem mem_setOf {n : Nat} {listed : Array Bool} {j : Nat} : j ∈ setOf n listed ↔ j < n ∧ listed.getD j false = true := by simp [setOf]
theorem contains_iff {l : List Nat} {j : Nat} : l.contains j = true ↔ j ∈ l := by simp
theorem countP_lt {α : Type} {p q : α → Bool} : ∀ {l : List α} {x : α}, (∀ y, q y = true → p y = true) → x ∈ l → p x = true → q x = false → l.countP q < l.countP p
  | y :: l, x, hpq, hx, hp, hq => by
    have hle : l.countP q ≤ l.countP p := List.countP_mono_left fun z _ hz => hpq z hz
    rw [List.countP_cons, List.countP_cons]
    rcases List.mem_cons.1 hx with rfl | hx
    · simp only [hp, hq, if_true, Bool.false_eq_true, if_false]; omega
    · have ih := countP_lt hpq hx hp hq
      by_cases hqy : q y = true
      · simp only [hqy, hpq y hqy, if_true]; omega
      · simp only [hqy, if_false, Bool.false_eq_true]; split <;> omega
  | [], x, _, hx, _, _ => by cases hx

structure Trace (P : Program) (s0 : St) (pre : List (List Nat)) (l : List SO) (xs : Ents) : Prop where
  len : xs.length = l.length
  ent : ∀ (j : Nat) (o : SO) (x : Option Eff), l[j]? = some o → xs[j]? = some x → entOk P s0 (ancs pre) l xs j o x
  uniq : ∀ (i j : Nat) (o o' : SO) (t : Nat), l[i]? = some o → l[j]? = some o' → o.dst = some t → o'.dst = some t → i = j
  cmp : ∀ (i j : Nat) (o o' : SO) (t : Nat), l[i]? = some o → l[j]? = some o' → o.dst = some t → t ∈ temps o' → i ≠ j → i ∈ (ancs pre).getD j [] ∨ j ∈ (ancs pre).getD i []
theorem drawOk_uniq {l : List SO} {A : List (List Nat)} (h : drawOk l A = true) {i j : Nat} {o o' : SO} {t : Nat} (hi : l[i]? = some o) (hj : l[j]? = some o') (h1 : o.dst = some t) (h2 : o'.dst = some t) : i = j := by
  have hil := (List.getElem?_eq_some_iff.1 hi).1
  have hjl := (List.getElem?_eq_some_iff.1 hj).1
  have := List.all_eq_true.1 (List.all_eq_true.1 h j (by simpa using hjl)) i (by simpa using hil)
  by_cases hij : i = j
  · exact hij
  · simp [hij, hi, hj, h1, h2] at this
theorem drawOk_cmp {l : List SO} {A : List (List Nat)} (h : drawOk l A = true) {i j : Nat} {o o' : SO} {t : Nat} (hi : l[i]? = some o) (hj : l[j]? = some o') (h1 : o.dst = some t) (h2 : t ∈ temps o') (hne : i ≠ j) : i ∈ A.getD j [] ∨ j ∈ A.getD i [] := by
  have hil := (List.getElem?_eq_some_iff.1 hi).1
  have hjl := (List.getElem?_eq_some_iff.1 hj).1
  have := List.all_eq_true.1 (List.all_eq_true.1 h j (by simpa using hjl)) i (by simpa using hil)
  have hij : (i == j) = false := by simpa using hne
  simp only [hij, Bool.false_or, hi, hj, Option.bind_some, h1] at this
  have h2' : (temps o').contains t = true := by simpa using h2
  simp only [h2', Bool.not_true, Bool.false_or, Bool.and_eq_true, Bool.or_eq_true, contains_iff] at this
  exact this.2

section
variable {P : Program} {U : Nat → Prop} {w0 : Base} {s0 : St} {pre : List (List Nat)} {l : List SO} {xs : Ents}
/-- Each number of a new object belongs to one operation. -/
theorem Trace.ids (h : Trace P s0 pre l xs) {j : Nat} {x : Option Eff} {b : Nat} {ob : Ob} (hx : xs[j]? = some x) (hb : lk (upsOf x) b = some ob) : seedOf s0 j ≤ b ∧ b < seedOf s0 j + 14 := by
  have hj : j < l.length := by have := (List.getElem?_eq_some_iff.1 hx).1; rw [h.len] at this; exact this
  obtain ⟨_, he⟩ := h.ent j l[j] x (List.getElem?_eq_getElem hj) hx
  cases x with
  | none => cases hb
  | some e =>
    obtain ⟨_, _, hc, hn⟩ := he
    have := hn _ (lk_mem hb)
    simp only at this
    omega
theorem Trace.other (h : Trace P s0 pre l xs) {j : Nat} {x : Option Eff} {b : Nat} {ob : Ob} (hx : xs[j]? = some x) (hb : lk (upsOf x) b = some ob) : ∀ (j' : Nat) (x' : Option Eff), xs[j']? = some x' → j' ≠ j → lk (upsOf x') b = none := by
  intro j' x' hx' hne
  cases hb' : lk (upsOf x') b with
  | none => rfl
  | some ob' =>
    have h1 := h.ids hx hb
    have h2 := h.ids hx' hb'
    unfold seedOf at h1 h2
    omega
def NX (s0 : St) (X : List Nat) (b : Nat) : Prop := b < s0.nx ∨ ∃ i ∈ X, seedOf s0 i ≤ b ∧ b < seedOf s0 i + 16

theorem like_step (h : Trace P s0 pre l xs) {X X' : List Nat} {j : Nat} {o : SO} {x : Option Eff} (hj : l[j]? = some o) (hx : xs[j]? = some x) (hnX : j ∉ X) (hX' : ∀ i, i ∈ X' ↔ i ∈ X ∨ i = j) :
    Like (entSt (mk X 0 l xs s0) o x) (mk X' 0 l xs s0) := by
  have hjl := (List.getElem?_eq_some_iff.1 hj).1
  have hX'j : X'.contains (0 + j) = true := by rw [contains_iff, hX']; exact .inr (by omega)
  refine ⟨fun t => ?_, fun b => ?_, ?_⟩
  · rw [entSt_fr]
    by_cases hd : o.dst = some t
    · rw [if_pos hd]
      exact (mk_fr_new X' t l xs 0 s0 j o x hj hx hX'j hd (fun j' o' hj' hd' => h.uniq j' j o' o t hj' hj hd' hd)).symm
    · rw [if_neg hd]
      by_cases hw : ∃ (i : Nat) (oi : SO), l[i]? = some oi ∧ oi.dst = some t
      · obtain ⟨i, oi, hi, hdi⟩ := hw
        have hil := (List.getElem?_eq_some_iff.1 hi).1
        have hij : i ≠ j := by rintro rfl; rw [hj] at hi; cases hi; exact hd hdi
        have hxi : xs[i]? = some (xs[i]'(by rw [h.len]; exact hil)) := List.getElem?_eq_getElem _
        by_cases hiX : i ∈ X
        · rw [mk_fr_new X t l xs 0 s0 i oi _ hi hxi (by rw [contains_iff]; simpa using hiX) hdi (fun j' o' hj' hd' => h.uniq j' i o' oi t hj' hi hd' hdi),
            mk_fr_new X' t l xs 0 s0 i oi _ hi hxi (by rw [contains_iff, hX']; exact .inl (by simpa using hiX)) hdi (fun j' o' hj' hd' => h.uniq j' i o' oi t hj' hi hd' hdi)]
        · rw [mk_fr_old X t l xs 0 s0 (fun k ok hk hc hdk => by
              have := h.uniq k i ok oi t hk hi hdk hdi; subst this; rw [contains_iff] at hc; exact hiX (by simpa using hc)),
            mk_fr_old X' t l xs 0 s0 (fun k ok hk hc hdk => by
              have := h.uniq k i ok oi t hk hi hdk hdi; subst this; rw [contains_iff, hX'] at hc; rcases hc with hc | hc; exact hiX (by simpa using hc); omega)]
      · rw [mk_fr_old X t l xs 0 s0 (fun k ok hk _ hdk => hw ⟨k, ok, hk, hdk⟩), mk_fr_old X' t l xs 0 s0 (fun k ok hk _ hdk => hw ⟨k, ok, hk, hdk⟩)]
  · rw [entSt_hp, lk_app]
    cases hu : lk (upsOf x) b with
    | some ob =>
      simp only
      exact (mk_hp_new X' b l xs 0 s0 j x ob hx hjl hX'j hu (h.other hx hu)).symm
    | none =>
      simp only
      by_cases hw : ∃ (i : Nat) (xi : Option Eff) (ob : Ob), xs[i]? = some xi ∧ lk (upsOf xi) b = some ob
      · obtain ⟨i, xi, ob, hi, hb⟩ := hw
        have hil : i < l.length := by have := (List.getElem?_eq_some_iff.1 hi).1; rw [h.len] at this; exact this
        have hij : i ≠ j := by rintro rfl; rw [hx] at hi; cases hi; rw [hu] at hb; cases hb
        by_cases hiX : i ∈ X
        · rw [mk_hp_new X b l xs 0 s0 i xi ob hi hil (by rw [contains_iff]; simpa using hiX) hb (h.other hi hb),
            mk_hp_new X' b l xs 0 s0 i xi ob hi hil (by rw [contains_iff, hX']; exact .inl (by simpa using hiX)) hb (h.other hi hb)]
        · rw [mk_hp_old X b l xs 0 s0 (fun k xk hk _ hc => by
              by_cases hki : k = i
              · subst hki; rw [contains_iff] at hc; exact absurd (by simpa using hc) hiX
              · exact h.other hi hb k xk hk hki),
            mk_hp_old X' b l xs 0 s0 (fun k xk hk _ hc => by
              by_cases hki : k = i
              · subst hki; rw [contains_iff, hX'] at hc; rcases hc with hc | hc; exact absurd (by simpa using hc) hiX; omega
              · exact h.other hi hb k xk hk hki)]
      · have hn : ∀ (k : Nat) (xk : Option Eff), xs[k]? = some xk → lk (upsOf xk) b = none := fun k xk hk => by
          cases hb : lk (upsOf xk) b with
          | none => rfl
          | some ob => exact absurd ⟨k, xk, ob, hk, hb⟩ hw
        rw [mk_hp_old X b l xs 0 s0 (fun k xk hk _ _ => hn k xk hk), mk_hp_old X' b l xs 0 s0 (fun k xk hk _ _ => hn k xk hk)]
  · rw [(entSt_nt _ _ _).1, (mk_nt _ _ _ _ _).1, (mk_nt _ _ _ _ _).1]

/-- What an operation asks is the same with those carried out that it waits for, and with more of them. -/
theorem ask_same (h : Trace P s0 pre l xs) (h0 : ∀ b o, lk s0.hp b = some o → b < s0.nx) {X : List Nat} {j : Nat} {o : SO} (hj : l[j]? = some o) (hnX : j ∉ X) (hA : ∀ i ∈ (ancs pre).getD j [], i ∈ X) (hcl : ∀ k ∈ X, ∀ i ∈ (ancs pre).getD k [], i ∈ X) :
    (∀ t ∈ temps o, lk (mk X 0 l xs s0).fr t = lk (mk ((ancs pre).getD j []) 0 l xs s0).fr t) ∧ ∀ b ob, lk (mk ((ancs pre).getD j []) 0 l xs s0).hp b = some ob → lk (mk X 0 l xs s0).hp b = some ob := by
  refine ⟨fun t ht => ?_, fun b ob hb => ?_⟩
  · by_cases hw : ∃ (i : Nat) (oi : SO), l[i]? = some oi ∧ oi.dst = some t
    · obtain ⟨i, oi, hi, hdi⟩ := hw
      have hil := (List.getElem?_eq_some_iff.1 hi).1
      have hxi : xs[i]? = some (xs[i]'(by rw [h.len]; exact hil)) := List.getElem?_eq_getElem _
      have new : ∀ Y : List Nat, i ∈ Y → lk (mk Y 0 l xs s0).fr t = valOf (xs[i]'(by rw [h.len]; exact hil)) := fun Y hY =>
        mk_fr_new Y t l xs 0 s0 i oi _ hi hxi (by rw [contains_iff]; simpa using hY) hdi (fun j' o' hj' hd' => h.uniq j' i o' oi t hj' hi hd' hdi)
      have old : ∀ Y : List Nat, i ∉ Y → lk (mk Y 0 l xs s0).fr t = lk s0.fr t := fun Y hY =>
        mk_fr_old Y t l xs 0 s0 (fun k ok hk hc hdk => by
          have := h.uniq k i ok oi t hk hi hdk hdi; subst this; rw [contains_iff] at hc; exact hY (by simpa using hc))
      by_cases hij : i = j
      · subst hij
        rw [old X hnX, old _ (fun hm => hnX (hA i hm))]
      · rcases h.cmp i j oi o t hi hj hdi ht hij with hm | hm
        · rw [new X (hA i hm), new _ hm]
        · have hiX : i ∉ X := fun hiX => hnX (hcl i hiX j hm)
          rw [old X hiX, old _ (fun hm' => hiX (hA i hm'))]
    · rw [mk_fr_old X t l xs 0 s0 (fun k ok hk _ hdk => hw ⟨k, ok, hk, hdk⟩), mk_fr_old _ t l xs 0 s0 (fun k ok hk _ hdk => hw ⟨k, ok, hk, hdk⟩)]
  · by_cases hw : ∃ (i : Nat) (xi : Option Eff) (ob : Ob), xs[i]? = some xi ∧ lk (upsOf xi) b = some ob
    · obtain ⟨i, xi, ob', hi, hbi⟩ := hw
      have hil : i < l.length := by have := (List.getElem?_eq_some_iff.1 hi).1; rw [h.len] at this; exact this
      by_cases hm : i ∈ (ancs pre).getD j []
      · rw [mk_hp_new _ b l xs 0 s0 i xi ob' hi hil (by rw [contains_iff]; simpa using hm) hbi (h.other hi hbi)] at hb
        rw [mk_hp_new X b l xs 0 s0 i xi ob' hi hil (by rw [contains_iff]; simpa using hA i hm) hbi (h.other hi hbi)]
        exact hb
      · rw [mk_hp_old _ b l xs 0 s0 (fun k xk hk _ hc => by
          by_cases hki : k = i
          · subst hki; rw [contains_iff] at hc; exact absurd (by simpa using hc) hm
          · exact h.other hi hbi k xk hk hki)] at hb
        have h1 := h0 b ob hb
        have h2 := h.ids hi hbi
        unfold seedOf at h2
        omega
    · have hn : ∀ (k : Nat) (xk : Option Eff), xs[k]? = some xk → lk (upsOf xk) b = none := fun k xk hk => by
        cases hb : lk (upsOf xk) b with
        | none => rfl
        | some ob => exact absurd ⟨k, xk, ob, hk, hb⟩ hw
      rw [mk_hp_old _ b l xs 0 s0 (fun k xk hk _ _ => hn k xk hk)] at hb
      rw [mk_hp_old X b l xs 0 s0 (fun k xk hk _ _ => hn k xk hk)]
      exact hb
end
end
end Go.Proofs.Ytnmpdpijcehofaa.Eng
