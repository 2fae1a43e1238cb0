/-
  Values seen as data: a part of the engine, of no one program. No condition.
-/
import Derived.Test.YtnmpdpijcehofaaE6
namespace Go.Proofs.Ytnmpdpijcehofaa.Eng
set_option linter.all false
noncomputable section
open Go.RowKit

/-! ### Reading and writing through a pointer -/
def cellsAt (hp : List (Nat × Ob)) (n : Nat) : AC → Option (List AC)
  | .ptr b off => match lk hp b with
    | some (.box cs) => if off + n ≤ cs.length then some ((cs.drop off).take n) else none
    | _ => none
  | .eptr b i off L => match lk hp b with
    | some (.row _ es _) => if es.length = L ∧ i < L ∧ off + n ≤ (es.getD i []).length then some ((((es.getD i []).drop off).take n).map .d) else none
    | _ => none
  | .cptr cs => if n ≤ cs.length then some ((cs.take n).map .d) else none
  | _ => none
def shift (hp : List (Nat × Ob)) (off : Nat) : AC → Option AC
  | .ptr b o => match lk hp b with
    | some (.box _) => some (.ptr b (o + off))
    | _ => none
  | .eptr b i o L => match lk hp b with
    | some (.row _ es _) => if es.length = L ∧ i < L then some (.eptr b i (o + off) L) else none
    | _ => none
  | .cptr cs => some (.cptr (cs.drop off))
  | _ => none

def Plus (N : Nat → Prop) (seed n b : Nat) : Prop := N b ∨ (seed ≤ b ∧ b < seed + n)
def Out (P : Program) (o : Oper) (a : Act) (w : World) (v : Value) (w' : World) : Prop :=
  (execOp a.eval o).run P w = .ok (.value v) w' ∨ (v = undef ∧ (execOp a.eval o).run P w = .ok .skip w')
def Good (P : Program) (S0 : Nat → Prop) (w0 : Base) (N : Nat → Prop) (s : St) (a : Act) (w : World) (seed : Nat) (o : Oper) (e : Eff) : Prop :=
  ∃ v w' ι', Out P o a w v w' ∧ Rel S0 w0 (Plus N seed e.cnt) { s with hp := e.ups ++ s.hp, nx := seed + e.cnt } a w' ι' ∧
    ∀ x, e.val = some x → RepV (env S0 (Plus N seed e.cnt) { s with hp := e.ups ++ s.hp, nx := seed + e.cnt } w' ι') v x

section
variable {P : Program} {S0 : Nat → Prop} {w0 : Base} {N : Nat → Prop} {s : St} {a : Act} {w : World} {ι : Nat → Option Nat} {seed : Nat} {o : Oper}

theorem Step.same {E E' : Env} (hS : E'.S = E.S) (hw : E'.w = E.w) (hi : E'.ι = E.ι) (hH : E'.H = E.H) (hN : ∀ b, E.N b → E'.N b) : Step E E' := by
  obtain ⟨S, w, i, H, N⟩ := E
  obtain ⟨S', w', i', H', N'⟩ := E'
  simp only at hS hw hi hH hN
  subst hS hw hi hH
  exact ⟨fun _ h => h, fun _ _ => rfl, hN, fun b sz es fz _ hb => ⟨sz, es, fz, hb, .inl ⟨.inr rfl, rfl, rfl, fun g _ cur ty hh => ⟨cur, hh, rfl⟩⟩⟩, fun b cs _ hb => ⟨cs, hb, rfl⟩⟩
theorem Rel.weakN {N' : Nat → Prop} {nx' : Nat} (h : Rel S0 w0 N s a w ι) (hN : ∀ b, N b → N' b) : Rel S0 w0 N' { s with nx := nx' } a w ι := by
  have hs : Step (env S0 N s w ι) (env S0 N' { s with nx := nx' } w ι) := Step.same rfl rfl rfl rfl hN
  exact h.change (hp' := s.hp) hs h.gr (fun b o hb => ⟨hN b (h.ob b o hb).1, RepO.keep hs rfl (fun _ _ => rfl) (h.ob b o hb).2⟩) h.inj
theorem rep_weakN {N' : Nat → Prop} {nx' : Nat} (hN : ∀ b, N b → N' b) {v : Value} {x : AV} (h : RepV (env S0 N s w ι) v x) : RepV (env S0 N' { s with nx := nx' } w ι) v x :=
  RepV.keep (E := env S0 N s w ι) (E' := env S0 N' { s with nx := nx' } w ι) (Step.same rfl rfl rfl rfl hN) h

/-- An operation that only computes. -/
theorem good_pure (h : Rel S0 w0 N s a w ι) {v : Value} {x : AV} (hr : (execOp a.eval o).run P w = .ok (.value v) w) (hx : RepV (env S0 N s w ι) v x) : Good P S0 w0 N s a w seed o { val := some x } :=
  ⟨v, w, ι, .inl hr, h.weakN (fun _ h => .inl h), fun y hy => by cases hy; exact rep_weakN (fun _ h => .inl h) hx⟩

theorem Rel.cellsAt (h : Rel S0 w0 N s a w ι) {x : Value} {c : AC} (hx : RepC (env S0 N s w ι) x c) {n : Nat} {cs : List AC} (hc : cellsAt s.hp n c = some cs) :
    ∃ (ad : Addr) (ys : List Value), x = .pointer (some ad) ∧ ys.length = n ∧ (∀ j u, ys[j]? = some u → w.cell? (ad.add j) = some u) ∧ All2 (RepC (env S0 N s w ι)) ys cs := by
  have mk : ∀ {ad : Addr} {cs : List AC}, (∀ k c, cs[k]? = some c → ∃ y, w.cell? (ad.add k) = some y ∧ RepC (env S0 N s w ι) y c) →
      ∃ ys : List Value, ys.length = cs.length ∧ (∀ j u, ys[j]? = some u → w.cell? (ad.add j) = some u) ∧ All2 (RepC (env S0 N s w ι)) ys cs := fun {ad cs} hk => by
    refine ⟨(List.range cs.length).map fun k => (w.cell? (ad.add k)).getD undef, by simp, fun j u hu => ?_, All2.of_get (by simp) fun k y c hy hc => ?_⟩
    · simp only [List.getElem?_map, Option.map_eq_some_iff] at hu
      obtain ⟨k, hk1, rfl⟩ := hu
      obtain ⟨hlt, hk2⟩ := List.getElem?_eq_some_iff.1 hk1
      simp at hk2 hlt
      subst hk2
      obtain ⟨y, hy, _⟩ := hk j cs[j] (List.getElem?_eq_getElem hlt)
      rw [hy]; rfl
    · obtain ⟨y', hy', hr⟩ := hk k c hc
      have hlt : k < cs.length := (List.getElem?_eq_some_iff.1 hc).1
      simp only [List.getElem?_map, List.getElem?_range hlt, Option.map_some, Option.some.injEq, hy', Option.getD_some] at hy
      subst hy
      exact hr
  cases c with
  | ptr b off =>
    simp only [Eng.cellsAt] at hc
    split at hc
    · rename_i l hb
      split at hc
      · rename_i hle
        cases hc
        obtain ⟨_, _, hx⟩ := hx
        obtain ⟨g, hg, rfl⟩ := hx l hb
        obtain ⟨_, cur, ty, hh, hcc, hsh⟩ := h.block hb hg
        obtain ⟨ys, h1, h2, h3⟩ := mk (ad := ⟨g, off, none⟩) (cs := (l.drop off).take n) (fun k c hk => by
          rw [List.getElem?_take] at hk
          split at hk
          · rw [List.getElem?_drop] at hk
            obtain ⟨y, hy, hr⟩ := hcc (off + k) c hk
            exact ⟨y, by rw [Addr.add_lit, cell_of_row w g _ cur ty (0, 0) hh]; exact hy, hr⟩
          · cases hk)
        exact ⟨_, ys, rfl, by rw [h1, List.length_take, List.length_drop]; omega, h2, h3⟩
      · cases hc
    · cases hc
  | eptr b i off L =>
    simp only [Eng.cellsAt] at hc
    split at hc
    · rename_i sz es fz hb
      split at hc
      · rename_i hle
        obtain ⟨hl, hi, hle⟩ := hle
        cases hc
        obtain ⟨_, _, hx⟩ := hx
        obtain ⟨_, hx⟩ := hx sz es fz hb
        obtain ⟨g, hg, rfl⟩ := hx hl hi
        obtain ⟨_, cur, ty, hh, hcc, hsh⟩ := h.block hb hg
        have he : es[i]? = some (es.getD i []) := by rw [List.getElem?_eq_getElem (by omega)]; simp [List.getD, List.getElem?_eq_getElem (show i < es.length by omega)]
        obtain ⟨ys, h1, h2, h3⟩ := mk (ad := ⟨g, i * sz + off, none⟩) (cs := ((((es.getD i []).drop off).take n).map .d)) (fun k c hk => by
          rw [List.getElem?_map] at hk
          obtain ⟨d, hk', rfl⟩ := Option.map_eq_some_iff.1 hk
          rw [List.getElem?_take] at hk'
          split at hk'
          · rw [List.getElem?_drop] at hk'
            have hf := flat_get hsh.2 he hk'
            obtain ⟨y, hy, hr⟩ := hcc (i * sz + (off + k)) (.d d) (by show (es.flatten.map AC.d)[_]? = _; rw [List.getElem?_map, hf]; rfl)
            exact ⟨y, by rw [Addr.add_lit, cell_of_row w g _ cur ty (0, 0) hh, Nat.add_assoc]; exact hy, hr⟩
          · cases hk')
        exact ⟨_, ys, rfl, by rw [h1, List.length_map, List.length_take, List.length_drop]; omega, h2, h3⟩
      · cases hc
    · cases hc
  | cptr l =>
    simp only [Eng.cellsAt] at hc
    split at hc
    · rename_i hle
      cases hc
      obtain ⟨ad, rfl, hS, hcc⟩ := hx
      obtain ⟨ys, h1, h2, h3⟩ := mk (ad := ad) (cs := (l.take n).map .d) (fun k c hk => by
        rw [List.getElem?_map] at hk
        obtain ⟨d, hk', rfl⟩ := Option.map_eq_some_iff.1 hk
        rw [List.getElem?_take] at hk'
        split at hk'
        · obtain ⟨y, hy, hr⟩ := hcc k d hk'
          exact ⟨y, hy, hr⟩
        · cases hk')
      exact ⟨ad, ys, rfl, by rw [h1, List.length_map, List.length_take]; omega, h2, h3⟩
    · cases hc
  | _ => simp [Eng.cellsAt] at hc

theorem Rel.shift (_ : Rel S0 w0 N s a w ι) {x : Value} {c c' : AC} {off : Nat} (hx : RepC (env S0 N s w ι) x c) (hc : shift s.hp off c = some c') :
    ∃ ad, x = .pointer (some ad) ∧ RepC (env S0 N s w ι) (.pointer (some (ad.add off))) c' := by
  cases c with
  | ptr b o =>
    simp only [Eng.shift] at hc
    split at hc
    · rename_i l hb
      cases hc
      obtain ⟨hN, _, hx⟩ := hx
      obtain ⟨g, hg, rfl⟩ := hx l hb
      refine ⟨_, rfl, hN, rfl, fun cs hcs => ⟨g, hg, ?_⟩⟩
      rw [Addr.add_lit]
    · cases hc
  | eptr b i o L =>
    simp only [Eng.shift] at hc
    split at hc
    · rename_i sz es fz hb
      split at hc
      · rename_i hl
        cases hc
        obtain ⟨hN, _, hx⟩ := hx
        obtain ⟨hle, hx⟩ := hx sz es fz hb
        obtain ⟨g, hg, rfl⟩ := hx hl.1 hl.2
        refine ⟨_, rfl, hN, rfl, fun sz1 es1 fz1 hb1 => ?_⟩
        have := hb.symm.trans hb1
        cases this
        refine ⟨hle, fun _ _ => ⟨g, hg, ?_⟩⟩
        rw [Addr.add_lit, Nat.add_assoc]
      · cases hc
    · cases hc
  | cptr l =>
    simp only [Eng.shift] at hc
    cases hc
    obtain ⟨ad, rfl, hS, hcc⟩ := hx
    refine ⟨ad, rfl, ad.add off, rfl, fun hne => ?_, fun k c hk => ?_⟩
    · rw [add_block]; exact hS (by rintro rfl; simp at hne)
    · rw [add_add']
      rw [List.getElem?_drop] at hk
      exact hcc _ c hk
  | _ => simp [Eng.shift] at hc
end
end
end Go.Proofs.Ytnmpdpijcehofaa.Eng
