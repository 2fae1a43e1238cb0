/-
  Values seen as data: a part of the engine, of no one program. No condition.
-/
import Derived.Test.YtnmpdpijcehofaaE17
namespace Go.Proofs.Ytnmpdpijcehofaa.Eng
set_option linter.all false
noncomputable section
open Go.RowKit

section
variable {P : Program} {U : Nat → Prop} {w0 : Base} {N : Nat → Prop} {s : St} {a : Act} {w : World} {ι : Nat → Option Nat} {seed : Nat} {o : Oper}

theorem Take.weakN {N' : Nat → Prop} {nx' : Nat} {T : Nat → Prop} {F : List Nat} (h : Take U w0 N T F s a w ι) (hN : ∀ b, N b → N' b) : Take U w0 N' T F { s with nx := nx' } a w ι :=
  ⟨h.rel.weakN hN, h.tu, h.tm, h.fu, h.fi⟩
theorem Step.trans' {E E' E'' : Env} (h : Step E E') (k : Step E' E'') (_hS : ∀ b, E.S b → E'.S b) : Step E E'' := h.trans k
theorem unL_le : ∀ (seed : Nat) (cs : List RC), seed ≤ (unL seed cs).2.2
  | _, [] => Nat.le_refl _
  | seed, c :: cs => Nat.le_trans (unC_le seed c) (unL_le _ cs)
theorem unX_le (seed : Nat) (x : RX) : seed ≤ (unX seed x).2.2 := by
  cases x with
  | one c => exact unC_le seed c
  | agg cs => exact unL_le seed cs
theorem unXs_le : ∀ (seed : Nat) (cs : List RX), seed ≤ (unXs seed cs).2.2
  | _, [] => Nat.le_refl _
  | seed, c :: cs => Nat.le_trans (unX_le seed c) (unXs_le _ cs)

/-- The list of parts, whatever they are. -/
theorem Take.list {β γ : Type} {Sh : (Nat → Prop) → World → Value → β → List Nat → Prop} {un : Nat → β → γ × List (Nat × Ob) × Nat} {uns : Nat → List β → List γ × List (Nat × Ob) × Nat} {R : Env → Value → γ → Prop}
    (hun : ∀ seed, uns seed [] = ([], [], seed)) (hus : ∀ seed c cs, uns seed (c :: cs) = ((un seed c).1 :: (uns (un seed c).2.2 cs).1, (uns (un seed c).2.2 cs).2.1 ++ (un seed c).2.1, (uns (un seed c).2.2 cs).2.2))
    (hle : ∀ seed c, seed ≤ (un seed c).2.2) (hles : ∀ seed cs, seed ≤ (uns seed cs).2.2) (hkeep : ∀ {E E' : Env}, Step E E' → ∀ {x : Value} {g : γ}, R E x g → R E' x g)
    (hone : ∀ {N : Nat → Prop} {s : St} {ι : Nat → Option Nat} {seed : Nat} {T : Nat → Prop} {F G : List Nat} (_ : Take U w0 N T (F ++ G) s a w ι) (_ : (F ++ G).Nodup) {lim : Nat} (_ : ∀ k, seed ≤ k → k < lim → ¬ N k) {x : Value} {c : β} (_ : (un seed c).2.2 ≤ lim) (_ : Sh T w x c F),
      ∃ ι', Take U w0 (Span N seed (un seed c).2.2) T G (App (un seed c).2.1 (un seed c).2.2 s) a w ι' ∧ R (env U (Span N seed (un seed c).2.2) (App (un seed c).2.1 (un seed c).2.2 s) w ι') x (un seed c).1 ∧
        Step (env U N s w ι) (env U (Span N seed (un seed c).2.2) (App (un seed c).2.1 (un seed c).2.2 s) w ι'))
    {xs : List Value} {cs : List β} {F : List Nat} {T : Nat → Prop} (hx : ShowsL (Sh T w) xs cs F) :
    ∀ {N : Nat → Prop} {s : St} {ι : Nat → Option Nat} {seed : Nat} {G : List Nat} (_ : Take U w0 N T (F ++ G) s a w ι) (_ : (F ++ G).Nodup) {lim : Nat} (_ : ∀ k, seed ≤ k → k < lim → ¬ N k) (_ : (uns seed cs).2.2 ≤ lim),
      ∃ ι', Take U w0 (Span N seed (uns seed cs).2.2) T G (App (uns seed cs).2.1 (uns seed cs).2.2 s) a w ι' ∧ All2 (R (env U (Span N seed (uns seed cs).2.2) (App (uns seed cs).2.1 (uns seed cs).2.2 s) w ι')) xs (uns seed cs).1 ∧
        Step (env U N s w ι) (env U (Span N seed (uns seed cs).2.2) (App (uns seed cs).2.1 (uns seed cs).2.2 s) w ι') := by
  induction hx with
  | nil =>
    intro N s ι seed G h hnd lim hid hl
    rw [hun]
    refine ⟨ι, h.weakN (fun _ h => .inl h), .nil, Step.same rfl rfl rfl rfl fun _ h => .inl h⟩
  | @cons x c F1 xs cs F2 hx _ ih =>
    intro N s ι seed G h hnd lim hid hl
    rw [hus] at hl ⊢
    simp only at hl ⊢
    rw [List.append_assoc] at h hnd
    have hl1 : (un seed c).2.2 ≤ lim := Nat.le_trans (hles _ cs) hl
    obtain ⟨ι1, t1, r1, s1⟩ := hone h hnd hid hl1 hx
    have hnd2 : (F2 ++ G).Nodup := (List.nodup_append.1 hnd).2.1
    obtain ⟨ι2, t2, r2, s2⟩ := ih (seed := (un seed c).2.2) t1 hnd2 (lim := lim) (fun k hk hk' hN => by
      rcases hN with hN | ⟨h1, h2⟩
      · exact hid k (Nat.le_trans (hle seed c) hk) hk' hN
      · omega) hl
    have hN : ∀ b, Span (Span N seed (un seed c).2.2) (un seed c).2.2 (uns (un seed c).2.2 cs).2.2 b → Span N seed (uns (un seed c).2.2 cs).2.2 b := fun b hb => by
      have e1 := hle seed c
      have e2 := hles (un seed c).2.2 cs
      rcases hb with (hb | hb) | hb
      · exact .inl hb
      · exact .inr (by omega)
      · exact .inr (by omega)
    have e : (App (uns (un seed c).2.2 cs).2.1 (uns (un seed c).2.2 cs).2.2 (App (un seed c).2.1 (un seed c).2.2 s)) = App ((uns (un seed c).2.2 cs).2.1 ++ (un seed c).2.1) (uns (un seed c).2.2 cs).2.2 s := by
      simp [App]
    rw [e] at t2 r2 s2
    have s3 : Step (env U (Span (Span N seed (un seed c).2.2) (un seed c).2.2 (uns (un seed c).2.2 cs).2.2) (App ((uns (un seed c).2.2 cs).2.1 ++ (un seed c).2.1) (uns (un seed c).2.2 cs).2.2 s) w ι2)
      (env U (Span N seed (uns (un seed c).2.2 cs).2.2) (App ((uns (un seed c).2.2 cs).2.1 ++ (un seed c).2.1) (uns (un seed c).2.2 cs).2.2 s) w ι2) := Step.same rfl rfl rfl rfl hN
    refine ⟨ι2, t2.weakN (nx' := (uns (un seed c).2.2 cs).2.2) hN, .cons (hkeep s3 (hkeep s2 r1)) (r2.mono fun _ _ => hkeep s3), ?_⟩
    exact Step.trans s1 (Step.trans s2 s3)
theorem Take.x {T : Nat → Prop} {F G : List Nat} (h : Take U w0 N T (F ++ G) s a w ι) (hnd : (F ++ G).Nodup) {lim : Nat} (hid : ∀ k, seed ≤ k → k < lim → ¬ N k) {x : Value} {c : RX} (hl : (unX seed c).2.2 ≤ lim) (hx : ShowsX T w x c F) :
    ∃ ι', Take U w0 (Span N seed (unX seed c).2.2) T G (App (unX seed c).2.1 (unX seed c).2.2 s) a w ι' ∧ RepX (env U (Span N seed (unX seed c).2.2) (App (unX seed c).2.1 (unX seed c).2.2 s) w ι') x (unX seed c).1 ∧
      Step (env U N s w ι) (env U (Span N seed (unX seed c).2.2) (App (unX seed c).2.1 (unX seed c).2.2 s) w ι') := by
  cases c with
  | one c => exact h.c hnd hid hl hx
  | agg cs =>
    obtain ⟨arr, rfl, ha⟩ := hx
    obtain ⟨ι', t, r, st⟩ := Take.list (Sh := ShowsC) (un := unC) (uns := unL) (R := RepC) (fun _ => rfl) (fun _ _ _ => rfl) unC_le unL_le (fun hs => RepC.keep hs) (by intro N s ι seed T F G h hnd lim hid x c hl hx; exact h.c hnd hid hl hx) ha h hnd hid hl
    exact ⟨ι', t, ⟨arr, rfl, r⟩, st⟩
theorem Take.v {T : Nat → Prop} {F G : List Nat} (h : Take U w0 N T (F ++ G) s a w ι) (hnd : (F ++ G).Nodup) {lim : Nat} (hid : ∀ k, seed ≤ k → k < lim → ¬ N k) {x : Value} {r : RV} (hl : (unV' seed r).2.2 ≤ lim) (hx : ShowsV T w x r F) :
    ∃ ι', Take U w0 (Span N seed (unV' seed r).2.2) T G (App (unV' seed r).2.1 (unV' seed r).2.2 s) a w ι' ∧ RepV (env U (Span N seed (unV' seed r).2.2) (App (unV' seed r).2.1 (unV' seed r).2.2 s) w ι') x (unV' seed r).1 ∧
      Step (env U N s w ι) (env U (Span N seed (unV' seed r).2.2) (App (unV' seed r).2.1 (unV' seed r).2.2 s) w ι') := by
  have tup : ∀ (l : List RX), (unXs seed l).2.2 ≤ lim → (∃ arr : Array Value, x = .tuple arr ∧ ShowsL (ShowsX T w) arr.toList l F) → ∃ ι', Take U w0 (Span N seed (unXs seed l).2.2) T G (App (unXs seed l).2.1 (unXs seed l).2.2 s) a w ι' ∧ RepV (env U (Span N seed (unXs seed l).2.2) (App (unXs seed l).2.1 (unXs seed l).2.2 s) w ι') x (.tup (unXs seed l).1) ∧
      Step (env U N s w ι) (env U (Span N seed (unXs seed l).2.2) (App (unXs seed l).2.1 (unXs seed l).2.2 s) w ι') := fun l hl ⟨arr, hxe, ha⟩ => by
    subst hxe
    obtain ⟨ι', t, r, st⟩ := Take.list (Sh := ShowsX) (un := unX) (uns := unXs) (R := RepX) (fun _ => rfl) (fun _ _ _ => rfl) unX_le unXs_le (fun hs => RepX.keep hs) (by intro N s ι seed T F G h hnd lim hid x c hl hx; exact h.x hnd hid hl hx) ha h hnd hid hl
    exact ⟨ι', t, ⟨arr, rfl, r⟩, st⟩
  match r, hl, hx with
  | [y], hl, hx => exact h.x hnd hid hl hx
  | [], hl, hx => exact tup [] hl hx
  | y :: z :: l, hl, hx => exact tup (y :: z :: l) hl hx
end
end
end Go.Proofs.Ytnmpdpijcehofaa.Eng
