/-
  The contracts of the program's functions, data in, data out. Conditions: those in the statements.
-/
import Derived.Test.YtijllihnheggbaaC8
namespace Go.Proofs.Ytijllihnheggbaa
set_option linter.all false
open Go Go.Proofs.Ytijllihnheggbaa.Eng Go.RowKit
noncomputable section

/-! ### Devices, as the chapter says: what storing, flushing, fencing make of the dirty words -/
def ins (a v : Int) : List Dty → List Dty
  | [] => [⟨a, v, false⟩]
  | x :: l => if x.at_ < a then x :: ins a v l else if x.at_ = a then ⟨a, v, false⟩ :: l else ⟨a, v, false⟩ :: x :: l
def flx (a : Int) (x : Dty) : Dty := if x.at_ / 8 = a / 8 then ⟨x.at_, x.v, true⟩ else x
def flu (a : Int) (l : List Dty) : List Dty := l.map (flx a)
def unfl (l : List Dty) : List Dty := l.filter fun x => !x.fl
def imgF (m : List Int) (l : List Dty) : List Int := (l.filter fun x => x.fl).foldl (fun m x => m.set x.at_.toNat x.v) m
@[irreducible] def madeB (d : Dev) : Bool := decide (d.left ≠ 0)
@[irreducible] def spent (d : Dev) : Dev := if d.left = 0 then ⟨d.img, d.dirty, d.left, true⟩ else if d.left = -1 then d else ⟨d.img, d.dirty, d.left - 1, d.down⟩
@[irreducible] def storeD (d : Dev) (a v : Int) : Dev := if madeB d then ⟨d.img, ins a v d.dirty, (spent d).left, (spent d).down⟩ else spent d
@[irreducible] def flushD (d : Dev) (a : Int) : Dev := if madeB d then ⟨d.img, flu a d.dirty, (spent d).left, (spent d).down⟩ else spent d
@[irreducible] def fenceD (d : Dev) : Dev := if madeB d then ⟨imgF d.img d.dirty, unfl d.dirty, (spent d).left, (spent d).down⟩ else spent d
def zDev : Dev := ⟨[], [], 0, false⟩
@[irreducible] def storeX (d : Dev) (a v : Int) : Dev := if asked d a = 0 then storeD d a v else zDev
@[irreducible] def flushX (d : Dev) (a : Int) : Dev := if asked d a = 0 then flushD d a else zDev
@[irreducible] def fenceX (d : Dev) : Dev := if chkD d = 0 then fenceD d else zDev
@[irreducible] def newX (m : List Int) : Dev := if chk m.length = 0 then ⟨m, [], -1, false⟩ else zDev

theorem spent_img (d : Dev) : (spent d).img = d.img := by unfold spent; split <;> (try split) <;> rfl
theorem spent_dirty (d : Dev) : (spent d).dirty = d.dirty := by unfold spent; split <;> (try split) <;> rfl
theorem lb_nil (a : Int) : lb [] a = 0 := by unfold lb; rfl
theorem lb_lt_cons {x : Dty} {l : List Dty} {a : Int} (h : x.at_ < a) : lb (x :: l) a = lb l a + 1 := by unfold lb; rw [List.takeWhile_cons_of_pos (by simpa using h)]; rfl
theorem lb_ge_cons {x : Dty} {l : List Dty} {a : Int} (h : ¬ x.at_ < a) : lb (x :: l) a = 0 := by unfold lb; rw [List.takeWhile_cons_of_neg (by simpa using h)]; rfl
theorem hasAt_nil (a : Int) : hasAt [] a = false := by unfold hasAt; simp [lb_nil]
theorem hasAt_lt_cons {x : Dty} {l : List Dty} {a : Int} (h : x.at_ < a) : hasAt (x :: l) a = hasAt l a := by unfold hasAt; rw [lb_lt_cons h]; simp
theorem hasAt_ge_cons {x : Dty} {l : List Dty} {a : Int} (h : ¬ x.at_ < a) : hasAt (x :: l) a = decide (x.at_ = a) := by unfold hasAt; rw [lb_ge_cons h]; simp
/-- Where the word goes, as it is found. -/
theorem ins_lb (a v : Int) : ∀ l : List Dty, ins a v l = if hasAt l a = true then l.set (lb l a) ⟨a, v, false⟩ else l.take (lb l a) ++ ⟨a, v, false⟩ :: l.drop (lb l a)
  | [] => by rw [hasAt_nil, lb_nil]; rfl
  | x :: l => by
    unfold ins
    by_cases h : x.at_ < a
    · rw [if_pos h, hasAt_lt_cons h, lb_lt_cons h, ins_lb a v l]
      split <;> simp
    · rw [if_neg h, hasAt_ge_cons h, lb_ge_cons h]
      by_cases he : x.at_ = a <;> simp [he]
theorem ins_hit {a : Int} {l : List Dty} (v : Int) (h : hasAt l a = true) : l.set (lb l a) ⟨a, v, false⟩ = ins a v l := by rw [ins_lb, if_pos h]
theorem ins_miss {a : Int} {l : List Dty} (v : Int) (h : hasAt l a = false) : l.take (lb l a) ++ ⟨a, v, false⟩ :: l.drop (lb l a) = ins a v l := by rw [ins_lb, h]; simp
theorem ins_len (a v : Int) : ∀ l : List Dty, (ins a v l).length ≤ l.length + 1 ∧ l.length ≤ (ins a v l).length
  | [] => by simp [ins]
  | x :: l => by
    have := ins_len a v l
    unfold ins
    split <;> (try split) <;> simp <;> omega
theorem flu_len (a : Int) (l : List Dty) : (flu a l).length = l.length := by simp [flu]
theorem flx_at (a : Int) (x : Dty) : (flx a x).at_ = x.at_ := by unfold flx; split <;> rfl
theorem flx_v (a : Int) (x : Dty) : (flx a x).v = x.v := by unfold flx; split <;> rfl
theorem imgF_len (l : List Dty) (m : List Int) : (imgF m l).length = m.length := setAll_len _ _

/-! ### What the reference does, element by element -/
def stG (a v : Int) : Bool → List Dty → List Dty
  | p, [] => if p then [] else [⟨a, v, false⟩]
  | p, x :: r => (if p = false ∧ a ≤ x.at_ then [⟨a, v, false⟩] else []) ++ ((if x.at_ = a then [] else [x]) ++ stG a v (p || decide (a ≤ x.at_)) r)
theorem stG_true {a v : Int} : ∀ {l : List Dty}, (∀ x ∈ l, a < x.at_) → stG a v true l = l
  | [], _ => rfl
  | x :: l, h => by
    have h1 := h x (by simp)
    unfold stG
    rw [Bool.true_or, stG_true fun y hy => h y (by simp [hy]), if_neg (fun hh => by simp at hh), if_neg (by omega)]
    rfl
theorem stG_ins {a v : Int} : ∀ {l : List Dty}, Srt l → stG a v false l = ins a v l
  | [], _ => rfl
  | x :: l, h => by
    have ht := srt_tail h
    have hh := srt_head h
    unfold stG ins
    by_cases h1 : x.at_ < a
    · have e : decide (a ≤ x.at_) = false := decide_eq_false (by omega)
      rw [if_pos h1, e, Bool.or_false, stG_ins ht, if_neg (by omega), if_neg (by omega)]
      rfl
    · have e : decide (a ≤ x.at_) = true := decide_eq_true (by omega)
      rw [if_neg h1, e, Bool.or_true, stG_true fun y hy => by have := hh y hy; omega, if_pos ⟨rfl, by omega⟩]
      by_cases h2 : x.at_ = a <;> simp [h2]

/-! ### Sorted lists -/
theorem incr_iff {w : Int} : ∀ {l : List Dty} {last : Int}, incr w last l = true ↔ (∀ x ∈ l, last < x.at_ ∧ x.at_ < w) ∧ l.Pairwise (fun x y => x.at_ < y.at_)
  | [], last => by simp [incr]
  | x :: r, last => by
    simp only [incr, Bool.and_eq_true, decide_eq_true_eq, List.pairwise_cons, incr_iff (l := r)]
    constructor
    · rintro ⟨⟨h1, h2⟩, h3, h4⟩
      refine ⟨fun y hy => ?_, fun y hy => (h3 y hy).1, h4⟩
      rcases List.mem_cons.1 hy with rfl | hy
      · exact ⟨h1, h2⟩
      · have := h3 y hy; omega
    · rintro ⟨h1, h2, h3⟩
      have hx := h1 x (by simp)
      exact ⟨hx, fun y hy => ⟨h2 y hy, (h1 y (by simp [hy])).2⟩, h3⟩
theorem srt_iff {l : List Dty} : Srt l ↔ l.Pairwise (fun x y => x.at_ < y.at_) := by
  rw [List.pairwise_iff_getElem]
  constructor
  · intro h i j hi hj hij
    have := h i j hij hj
    simpa [List.getD, hi, hj] using this
  · intro h i j hij hj
    have := h i j (by omega) hj hij
    have hi : i < l.length := by omega
    simpa [List.getD, hi, hj] using this
theorem ins_mem {a v : Int} : ∀ {l : List Dty} {x : Dty}, x ∈ ins a v l → x = ⟨a, v, false⟩ ∨ x ∈ l
  | [], x, h => by simp [ins] at h; exact .inl h
  | y :: l, x, h => by
    unfold ins at h
    split at h
    · rcases List.mem_cons.1 h with rfl | h
      · exact .inr (by simp)
      · rcases ins_mem h with h | h
        · exact .inl h
        · exact .inr (by simp [h])
    · split at h
      · rcases List.mem_cons.1 h with rfl | h
        · exact .inl rfl
        · exact .inr (by simp [h])
      · rcases List.mem_cons.1 h with rfl | h
        · exact .inl rfl
        · exact .inr h
theorem ins_pair {a v : Int} : ∀ {l : List Dty}, l.Pairwise (fun x y => x.at_ < y.at_) → (ins a v l).Pairwise (fun x y => x.at_ < y.at_)
  | [], _ => by simp [ins]
  | y :: l, h => by
    obtain ⟨h1, h2⟩ := List.pairwise_cons.1 h
    unfold ins
    split
    · rename_i hy
      refine List.pairwise_cons.2 ⟨fun z hz => ?_, ins_pair h2⟩
      rcases ins_mem hz with rfl | hz
      · exact hy
      · exact h1 z hz
    · split
      · rename_i hy
        subst hy
        exact List.pairwise_cons.2 ⟨fun z hz => h1 z hz, h2⟩
      · rename_i hy hne
        refine List.pairwise_cons.2 ⟨fun z hz => ?_, h⟩
        show a < z.at_
        rcases List.mem_cons.1 hz with rfl | hz
        · omega
        · have := h1 z hz; omega
theorem incr_ins {w a v : Int} {l : List Dty} (h : incr w (-1) l = true) (h0 : 0 ≤ a) (h1 : a < w) : incr w (-1) (ins a v l) = true := by
  rw [incr_iff] at h ⊢
  refine ⟨fun x hx => ?_, ins_pair h.2⟩
  rcases ins_mem hx with rfl | hx
  · exact ⟨by show -1 < a; omega, h1⟩
  · exact h.1 x hx
theorem incr_flu {w a : Int} : ∀ {l : List Dty} {last : Int}, incr w last (flu a l) = incr w last l
  | [], _ => rfl
  | x :: l, last => by
    show incr w last (flx a x :: flu a l) = _
    unfold incr
    rw [flx_at, incr_flu]
theorem incr_filter {w last : Int} {p : Dty → Bool} {l : List Dty} (h : incr w last l = true) : incr w last (l.filter p) = true := by
  rw [incr_iff] at h ⊢
  exact ⟨fun x hx => h.1 x (List.mem_filter.1 hx).1, h.2.filter _⟩

/-! ### Validity stays -/
theorem devOk_iff (d : Dev) : chkD d = 0 ↔ chk d.img.length = 0 ∧ incr d.img.length (-1) d.dirty = true ∧ -1 ≤ d.left ∧ d.left ≤ 1000000 ∧ (d.down = true → d.left = 0) := by
  rw [chkD_iff]
  unfold devOk
  simp only [Bool.and_eq_true, Bool.or_eq_true, Bool.not_eq_true', decide_eq_true_eq]
  cases d.down <;> simp [and_assoc]
theorem chkD_spent {d : Dev} (h : chkD d = 0) : chkD (spent d) = 0 := by
  rw [devOk_iff] at h ⊢
  obtain ⟨h1, h2, h3, h4, h5⟩ := h
  rw [spent_img, spent_dirty]
  refine ⟨h1, h2, ?_⟩
  unfold spent
  split
  · exact ⟨h3, h4, fun _ => ‹_›⟩
  · split
    · exact ⟨h3, h4, h5⟩
    · refine ⟨by show -1 ≤ d.left - 1; omega, by show d.left - 1 ≤ _; omega, fun hd => ?_⟩
      have := h5 hd
      omega
theorem chkD_with {d : Dev} (h : chkD d = 0) {m : List Int} {l : List Dty} (hm : m.length = d.img.length) (hl : incr d.img.length (-1) l = true) : chkD ⟨m, l, (spent d).left, (spent d).down⟩ = 0 := by
  have hs := (devOk_iff _).1 (chkD_spent h)
  have hd := (devOk_iff _).1 h
  rw [devOk_iff]
  exact ⟨by show chk m.length = 0; rw [hm]; exact hd.1, by show incr m.length (-1) l = true; rw [hm]; exact hl, hs.2.2⟩
theorem chkD_store {d : Dev} {a v : Int} (h : asked d a = 0) : chkD (storeD d a v) = 0 ∧ (storeD d a v).img = d.img := by
  obtain ⟨h0, h1, h2⟩ := asked_chk h
  unfold storeD
  split
  · exact ⟨chkD_with h0 rfl (incr_ins ((devOk_iff d).1 h0).2.1 h1 h2), rfl⟩
  · exact ⟨chkD_spent h0, spent_img d⟩
theorem chkD_flush {d : Dev} (a : Int) (h0 : chkD d = 0) : chkD (flushD d a) = 0 ∧ (flushD d a).img = d.img := by
  unfold flushD
  split
  · exact ⟨chkD_with h0 rfl (by rw [incr_flu]; exact ((devOk_iff d).1 h0).2.1), rfl⟩
  · exact ⟨chkD_spent h0, spent_img d⟩
theorem chkD_fence {d : Dev} (h0 : chkD d = 0) : chkD (fenceD d) = 0 ∧ (fenceD d).img.length = d.img.length := by
  unfold fenceD
  split
  · exact ⟨chkD_with h0 (imgF_len _ _) (incr_filter ((devOk_iff d).1 h0).2.1), imgF_len _ _⟩
  · exact ⟨chkD_spent h0, by rw [spent_img]⟩
theorem asked_of {d : Dev} {a : Int} (h : chkD d = 0) (h0 : 0 ≤ a) (h1 : a < d.img.length) : asked d a = 0 := by unfold asked; rw [if_pos h, if_pos ⟨h0, h1⟩]
theorem storeD_len (d : Dev) (a v : Int) : (storeD d a v).dirty.length ≤ d.dirty.length + 1 := by
  unfold storeD
  split
  · exact (ins_len a v d.dirty).1
  · rw [spent_dirty]; omega
theorem flushD_len (d : Dev) (a : Int) : (flushD d a).dirty.length = d.dirty.length := by
  unfold flushD
  split
  · exact flu_len _ _
  · rw [spent_dirty]
theorem fenceD_len (d : Dev) : (fenceD d).dirty.length ≤ d.dirty.length := by
  unfold fenceD
  split
  · exact List.length_filter_le _ _
  · rw [spent_dirty]; omega

/-! ### What is loaded -/
def val (l : List Dty) (a : Int) : Option Dty := l.find? fun x => decide (x.at_ = a)
theorem val_cons (x : Dty) (l : List Dty) (a : Int) : val (x :: l) a = if x.at_ = a then some x else val l a := by
  unfold val
  rw [List.find?_cons]
  by_cases h : x.at_ = a <;> simp [h]
theorem val_ins (a v b : Int) : ∀ l : List Dty, val (ins a v l) b = if a = b then some ⟨a, v, false⟩ else val l b
  | [] => by simp [ins, val_cons, val]
  | x :: l => by
    unfold ins
    split
    · rename_i h
      rw [val_cons, val_cons, val_ins a v b l]
      by_cases h1 : x.at_ = b
      · rw [if_pos h1, if_pos h1, if_neg (by omega)]
      · rw [if_neg h1, if_neg h1]
    · split
      · rename_i h1 h2
        rw [val_cons, val_cons]
        by_cases h3 : a = b
        · rw [if_pos h3, if_pos h3]
        · rw [if_neg h3, if_neg h3, if_neg (by omega)]
      · rw [val_cons]
theorem val_flu (a b : Int) : ∀ l : List Dty, val (flu a l) b = (val l b).map (flx a)
  | [] => rfl
  | x :: l => by
    show val (flx a x :: flu a l) b = _
    rw [val_cons, val_cons, flx_at, val_flu a b l]
    split <;> rfl
theorem val_none {l : List Dty} {b : Int} (h : ∀ x ∈ l, b < x.at_) : val l b = none := by
  unfold val
  rw [List.find?_eq_none]
  intro x hx
  have := h x hx
  simp
  omega
theorem val_filter (p : Dty → Bool) {b : Int} : ∀ {l : List Dty}, Srt l → val (l.filter p) b = (val l b).filter p
  | [], _ => rfl
  | x :: l, h => by
    have ih := val_filter p (b := b) (srt_tail h)
    rw [List.filter_cons, val_cons]
    split
    · rename_i hp
      rw [val_cons, ih]
      split
      · simp [Option.filter, hp]
      · rfl
    · rename_i hp
      rw [ih]
      split
      · rename_i hb
        rw [val_none fun y hy => by have := srt_head h y hy; omega]
        simp [Option.filter, hp]
      · rfl
theorem val_at {l : List Dty} {b : Int} {x : Dty} (h : val l b = some x) : x.at_ = b ∧ x ∈ l := ⟨by simpa using List.find?_some h, List.mem_of_find?_eq_some h⟩
theorem wordAt_val {d : Dev} (hs : Srt d.dirty) (a : Int) : wordAt d a = match val d.dirty a with | some x => x.v | none => d.img.getD a.toNat 0 := by
  have h : val d.dirty a = _ := find_lb (a := a) hs
  rw [h]
  unfold wordAt
  split <;> rfl
theorem imgF_at {m : List Int} {l : List Dty} {a : Int} (hs : Srt l) (hp : ∀ x ∈ l, 0 ≤ x.at_) (h0 : 0 ≤ a) (h1 : a < m.length) : (imgF m l).getD a.toNat 0 = match (val l a).filter (·.fl) with | some x => x.v | none => m.getD a.toNat 0 := by
  unfold imgF
  rw [setAll_get h0 m (srt_iff.2 ((srt_iff.1 hs).filter _)) (fun x hx => hp x (List.mem_filter.1 hx).1) h1]
  show (Option.map _ (val (l.filter fun x => x.fl) a)).getD _ = _
  rw [val_filter _ hs]
  cases (val l a).filter (·.fl) <;> rfl
theorem chkD_srt {d : Dev} (h : chkD d = 0) : Srt d.dirty := srt_iff.2 (incr_iff.1 ((devOk_iff d).1 h).2.1).2
theorem word_store {d : Dev} {a v b : Int} (h : asked d a = 0) : wordAt (storeD d a v) b = if madeB d = true ∧ b = a then v else wordAt d b := by
  have h1 := (chkD_store (v := v) h).1
  have h0 := (asked_chk h).1
  rw [wordAt_val (chkD_srt h1), wordAt_val (chkD_srt h0)]
  unfold storeD
  by_cases hm : madeB d = true
  · rw [if_pos hm]
    show (match val (ins a v d.dirty) b with | some x => x.v | none => d.img.getD b.toNat 0) = _
    rw [val_ins]
    by_cases he : a = b
    · rw [if_pos he, if_pos ⟨hm, he.symm⟩]
    · rw [if_neg he, if_neg (fun hh => he hh.2.symm)]
  · rw [if_neg hm, if_neg (fun hh => hm hh.1), spent_dirty, spent_img]
theorem word_flush {d : Dev} {a b : Int} (h0 : chkD d = 0) : wordAt (flushD d a) b = wordAt d b := by
  have h1 := (chkD_flush a h0).1
  rw [wordAt_val (chkD_srt h1), wordAt_val (chkD_srt h0)]
  unfold flushD
  by_cases hm : madeB d = true
  · rw [if_pos hm]
    show (match val (flu a d.dirty) b with | some x => x.v | none => d.img.getD b.toNat 0) = _
    rw [val_flu]
    cases val d.dirty b with
    | none => rfl
    | some x => exact flx_v a x
  · rw [if_neg hm, spent_dirty, spent_img]
theorem word_fence {d : Dev} {b : Int} (h0 : chkD d = 0) (hb : 0 ≤ b) (hb1 : b < d.img.length) : wordAt (fenceD d) b = wordAt d b := by
  have h1 := (chkD_fence h0).1
  have hs := chkD_srt h0
  rw [wordAt_val (chkD_srt h1), wordAt_val hs]
  unfold fenceD
  by_cases hm : madeB d = true
  · rw [if_pos hm]
    show (match val (unfl d.dirty) b with | some x => x.v | none => (imgF d.img d.dirty).getD b.toNat 0) = _
    rw [imgF_at hs (fun x hx => (devOk_pos h0 x hx).1) hb hb1]
    unfold unfl
    rw [val_filter _ hs]
    cases val d.dirty b with
    | none => rfl
    | some x => cases hx : x.fl <;> simp [hx, Option.filter]
  · rw [if_neg hm, spent_dirty, spent_img]
theorem words_ext {d e : Dev} (hd : chkD d = 0) (he : chkD e = 0) (hl : d.img.length = e.img.length) (h : ∀ b : Int, 0 ≤ b → b < d.img.length → wordAt d b = wordAt e b) : words d = words e := by
  refine list_ext0 (by rw [words_len, words_len, hl]) fun j hj => ?_
  rw [words_len] at hj
  have h1 := words_at (asked_of hd (show (0 : Int) ≤ (j : Int) by omega) (by omega))
  have h2 := words_at (asked_of he (show (0 : Int) ≤ (j : Int) by omega) (by omega))
  rw [Int.toNat_natCast] at h1 h2
  rw [h1, h2]
  exact h _ (by omega) (by omega)

theorem k_Great (d : Dev) : Con Try.prog 15 [devA d] [rB (decide (2100 < (d.img.length : Int) ∨ 2100 < (d.dirty.length : Int)))] := by
  rw [Bool.decide_or]
  exact k_ref03_Great d
theorem viewL_len (d : Dev) : (viewL d).length ≤ d.img.length := by
  unfold viewL
  split
  · rw [words_len]; omega
  · simp
end
end Go.Proofs.Ytijllihnheggbaa
