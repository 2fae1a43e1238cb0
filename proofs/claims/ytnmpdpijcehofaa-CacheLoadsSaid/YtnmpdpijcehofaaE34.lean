/-
  What comes in, of any type of numbers, booleans, slices and structs: its data. A part of the engine, of no one program. No condition.
-/
import Derived.Test.YtnmpdpijcehofaaE29
namespace Go.Proofs.Ytnmpdpijcehofaa.Eng
set_option linter.all false
noncomputable section
open Go.ChangeShapes Go.WideShapes Go.ChangeAt Go.RowKit

inductive CT where
  | i (k : IntKind)
  | b
  | sl (e : List CT)
inductive OkD : D → CT → Prop
  | i {k : IntKind} {n : Int} (h : (Lit.int k n).wf = true) : OkD (.v (.int k n)) (.i k)
  | b {x : Bool} : OkD (.v (.bool x)) .b
  | sl {es : List (List D)} {e : List CT} (hl : es.length ≤ maxLen) (hw : ∀ x ∈ es, x.length = e.length) (hd : ∀ x ∈ es, ∀ (k : Nat) d c, x[k]? = some d → e[k]? = some c → OkD d c) : OkD (.sl e.length es) (.sl e)
def fieldsT (f : TypeId → Option (List CT)) (size : TypeId → Nat) : Nat → List Field → Option (List CT)
  | _, [] => some []
  | off, fl :: fs => if fl.offset = off then match f fl.type with
      | some c => if size fl.type = c.length then (fieldsT f size (off + c.length) fs).map (c ++ ·) else none
      | none => none else none
def cellsT (P : Program) : Nat → TypeId → Option (List CT)
  | 0, _ => none
  | n + 1, t => match P.underlying t with
    | some (.int k) => some [.i k]
    | some .bool => some [.b]
    | some (.slice e) => match cellsT P n e with
      | some c => if P.cellsOf e = c.length ∧ 0 < c.length then some [.sl c] else none
      | none => none
    | some (.struct fs) => match fieldsT (cellsT P n) P.cellsOf 0 fs.toList with
      | some c => if P.cellsOf t = c.length then some c else none
      | none => none
    | _ => none
section
variable {H : Type} {enc : TypeId × Value → H} {P : Program} {w : World} {base : Nat} {spare : Nat → Bool} {held : Bool} {S : Nat → Prop}
theorem in_fields {cs : List Value} {f : TypeId → Option (List CT)} : ∀ {fs : List Field} {off : Nat} {c : List CT}, fieldsT f P.cellsOf off fs = some c →
    (∀ fl ∈ fs, ∀ ct, f fl.type = some ct → ∃ ds, All2 OkD ds ct ∧ All2 (Shows S w) ((cs.drop fl.offset).take (P.cellsOf fl.type)) ds) →
    ∃ ds, All2 OkD ds c ∧ All2 (Shows S w) ((cs.drop off).take c.length) ds
  | [], off, c, h, _ => by simp only [fieldsT, Option.some.injEq] at h; subst h; exact ⟨[], .nil, by simpa using All2.nil⟩
  | fl :: fs, off, c, h, hall => by
    simp only [fieldsT] at h
    split at h
    · rename_i ho
      split at h
      · rename_i c1 h1
        split at h
        · rename_i hsz
          obtain ⟨c2, h2, rfl⟩ := Option.map_eq_some_iff.1 h
          obtain ⟨d1, k1, k2⟩ := hall fl (by simp) c1 h1
          obtain ⟨d2, k3, k4⟩ := in_fields h2 fun fl' hf => hall fl' (by simp [hf])
          refine ⟨d1 ++ d2, k1.append k3, ?_⟩
          rw [List.length_append, List.take_add, List.drop_drop]
          rw [ho, hsz] at k2
          exact k2.append k4
        · cases h
      · cases h
    · cases h
theorem in_cells : ∀ (m : Nat) {fuel : Nat} {t : TypeId} {ct : List CT} {cs : List Value} {x : DataW H × List MemPlace}, cellsT P m t = some ct → DataW.trod enc P w base spare held fuel t cs = some x → (∀ p ∈ x.2, S p.block) →
    ∃ ds, All2 OkD ds ct ∧ All2 (Shows S w) cs ds
  | 0, _, _, _, _, _, h, _, _ => by simp [cellsT] at h
  | m + 1, fuel, t, ct, cs, x, h, hx, hS => by
    simp only [cellsT] at h
    split at h
    · rename_i k hu
      cases h
      obtain ⟨n, rfl, _, hw⟩ := DataW.trod_int hu hx
      exact ⟨_, .cons (.i hw) .nil, .cons (.v rfl) .nil⟩
    · rename_i hu
      cases h
      obtain ⟨b, rfl, _⟩ := DataW.trod_bool hu hx
      exact ⟨_, .cons .b .nil, .cons (.v rfl) .nil⟩
    · rename_i e hu
      split at h
      · rename_i c hc
        split at h
        · rename_i hsz
          cases h
          rcases DataW.trod_slice hu hx with ⟨rfl, _⟩ | ⟨a, len, cap, elems, rest, n, _, rfl, rfl, _, hl, hm, hlen, hel, _⟩
          · exact ⟨[.sl c.length []], .cons (.sl (by simp) (by simp) (by simp)) .nil, .cons .nil .nil⟩
          · have each : ∀ i, i < len → ∃ (cs' : List Value) (ds : List D), cs'.length = c.length ∧ (∀ j, j < c.length → w.cell? (a.add (i * c.length + j)) = cs'[j]?) ∧ All2 OkD ds c ∧ All2 (Shows S w) cs' ds := by
              intro i hi
              have h1 := hel i hi
              rw [List.getElem?_eq_getElem (by omega : i < elems.length)] at h1
              obtain ⟨cs', h2, h3⟩ := Option.bind_eq_some_iff.1 h1
              obtain ⟨_, h4, h5⟩ := World.cells?_some h2
              obtain ⟨ds, k1, k2⟩ := in_cells m hc h3 fun p hp => hS p (by
                refine List.mem_append_right _ (List.mem_flatMap.2 ⟨elems[i], ?_, hp⟩)
                exact List.mem_append_left _ (List.getElem_mem _))
              rw [hsz.1] at h4 h5
              exact ⟨cs', ds, h4, fun j hj => by rw [← h5 j hj, add_add'], k1, k2⟩
            let g : Nat → List D := fun i => if hi : i < len then (each i hi).choose_spec.choose else []
            have hg : ∀ i, (hi : i < len) → ∃ cs', cs'.length = c.length ∧ (∀ j, j < c.length → w.cell? (a.add (i * c.length + j)) = cs'[j]?) ∧ All2 OkD (g i) c ∧ All2 (Shows S w) cs' (g i) := fun i hi => by
              have := (each i hi).choose_spec.choose_spec
              have e : g i = (each i hi).choose_spec.choose := dif_pos hi
              rw [e]
              exact ⟨_, this⟩
            have hgl : ∀ i, i < len → (g i).length = c.length := fun i hi => by obtain ⟨_, _, _, h3, _⟩ := hg i hi; exact h3.length
            have hes : ∀ x ∈ (List.range len).map g, x.length = c.length := fun x hx => by
              obtain ⟨i, hi, rfl⟩ := List.mem_map.1 hx
              exact hgl i (by simpa using hi)
            have hcell : ∀ (k : Nat) (d : D), ((List.range len).map g).flatten[k]? = some d → ∃ v, w.cell? (a.add k) = some v ∧ Shows S w v d := fun k d hk => by
              have hkl := (List.getElem?_eq_some_iff.1 hk).1
              rw [flat_len hes, List.length_map, List.length_range] at hkl
              have hpos := hsz.2
              have hi : k / c.length < len := Nat.div_lt_of_lt_mul (by rw [Nat.mul_comm]; exact hkl)
              have hj : k % c.length < c.length := Nat.mod_lt _ hpos
              have hij : k / c.length * c.length + k % c.length = k := by rw [Nat.mul_comm]; exact Nat.div_add_mod k c.length
              obtain ⟨cs', h1, h2, h3, h4⟩ := hg _ hi
              have hgj : (g (k / c.length))[k % c.length]? = some ((g (k / c.length))[k % c.length]'(by rw [hgl _ hi]; exact hj)) := List.getElem?_eq_getElem _
              have hfl := flat_get hes (i := k / c.length) (e := g (k / c.length)) (by simp [hi]) hgj
              rw [hij, hk] at hfl
              cases hfl
              obtain ⟨v, hv1, hv2⟩ := h4.get hgj
              exact ⟨v, by rw [← hv1, ← h2 _ hj, hij], hv2⟩
            refine ⟨[.sl c.length ((List.range len).map g)], .cons (.sl (by simp; omega) hes fun x hx k d ct' hk hct => ?_) .nil, .cons (.sl (fun k => (w.cell? (a.add k)).getD undef) (by simp) (fun hne => ?_) hl hm hes (fun k d hk => ?_) (fun k d hk => ?_)) .nil⟩
            · obtain ⟨i, hi, rfl⟩ := List.mem_map.1 hx
              obtain ⟨_, _, _, h3, _⟩ := hg i (by simpa using hi)
              exact h3.get' hk hct
            · have h0 : 0 < len := by
                rcases Nat.eq_zero_or_pos len with h0 | h0
                · subst h0; simp at hne
                · exact h0
              refine hS (.cell a.block (a.off + 0)) (List.mem_append_left _ (List.mem_map.2 ⟨0, ?_, rfl⟩))
              rw [List.mem_range, hsz.1]
              exact Nat.mul_pos (by omega) hsz.2
            · obtain ⟨v, h1, _⟩ := hcell k d hk
              rw [h1]; rfl
            · obtain ⟨v, h1, h2⟩ := hcell k d hk
              rw [h1]; exact h2
        · cases h
      · cases h
    · rename_i fs hu
      split at h
      · rename_i c hc
        split at h
        · rename_i hsz
          cases h
          obtain ⟨xs, n, _, rfl, hcl, hxl, hf⟩ := DataW.trod_struct hu hx
          obtain ⟨ds, k1, k2⟩ := in_fields (S := S) (w := w) (cs := cs) hc fun fl hfl ct hct => by
            obtain ⟨i, hi⟩ := List.getElem?_of_mem hfl
            have hi' : fs[i]? = some fl := by simpa using hi
            have h1 := hf i fl hi'
            have hlt : i < xs.length := by rw [hxl]; exact (Array.getElem?_eq_some_iff.1 hi').1
            rw [List.getElem?_eq_getElem hlt] at h1
            exact in_cells m hct h1 fun p hp => hS p (List.mem_flatMap.2 ⟨_, List.getElem_mem _, hp⟩)
          refine ⟨ds, k1, ?_⟩
          have : (cs.drop 0).take ct.length = cs := by rw [List.drop_zero, ← hsz, ← hcl, List.take_length]
          rw [this] at k2
          exact k2
        · cases h
      · cases h
    · cases h
variable {r : Reach} {b0 : Nat} {t : TypeId} {v : Value} {d : DataW H} {ps : List MemPlace}
/-- A struct comes in. -/
theorem in_struct {fs : Array Field} (ht : P.underlying t = some (.struct fs)) {m : Nat} {ct : List CT} (hc : cellsT P m t = some ct) (hv : Value.okWide P w r b0 t v) (h : DataW.Trod enc P w base spare held t v d ps) (hS : ∀ x ∈ ps, S x.block) :
    ∃ ds, All2 OkD ds ct ∧ ShowsA S w v (.agg ds) := by
  unfold Value.okWide at hv
  rw [ht] at hv
  obtain ⟨cs, rfl, _, _⟩ := hv
  obtain ⟨fuel, hf⟩ := h
  obtain ⟨ds, k1, k2⟩ := in_cells m hc hf hS
  exact ⟨ds, k1, cs, rfl, k2⟩
/-- A slice comes in. -/
theorem in_slice {e : TypeId} (ht : P.underlying t = some (.slice e)) {m : Nat} {ct : CT} (hc : cellsT P m t = some [ct]) (hv : Value.okWide P w r b0 t v) (h : DataW.Trod enc P w base spare held t v d ps) (hS : ∀ x ∈ ps, S x.block) :
    ∃ c, OkD c ct ∧ ShowsA S w v (.one c) := by
  obtain ⟨a0, n0, c0, rfl⟩ := okWide_slice ht hv
  obtain ⟨fuel, hf⟩ := h
  obtain ⟨ds, k1, k2⟩ := in_cells m hc hf hS
  cases k1 with
  | cons h1 ht =>
    cases ht
    cases k2 with
    | cons h2 _ => exact ⟨_, h1, h2⟩
end
/-! ### Out of the cells: rows of one kind -/
theorem okD_i {d : D} {k : IntKind} (h : OkD d (.i k)) : ∃ n : Int, (Lit.int k n).wf = true ∧ d = .v (.int k n) := by
  cases h with
  | i h => exact ⟨_, h, rfl⟩
theorem okD_b {d : D} (h : OkD d .b) : ∃ x : Bool, d = .v (.bool x) := by
  cases h with
  | b => exact ⟨_, rfl⟩
theorem okD_sl {α : Type} {en : α → List D} {good : α → Prop} {e : List CT} (hrow : ∀ row, All2 OkD row e → ∃ a, good a ∧ row = en a) {d : D} (h : OkD d (.sl e)) : ∃ l : List α, l.length ≤ maxLen ∧ (∀ a ∈ l, good a) ∧ d = .sl e.length (l.map en) := by
  cases h with
  | @sl es _ hl hw hd =>
    have key : ∀ es : List (List D), (∀ x ∈ es, x.length = e.length) → (∀ x ∈ es, ∀ (k : Nat) d c, x[k]? = some d → e[k]? = some c → OkD d c) → ∃ l : List α, (∀ a ∈ l, good a) ∧ es = l.map en := by
      intro es
      induction es with
      | nil => intro _ _; exact ⟨[], by simp, rfl⟩
      | cons x es ih =>
        intro hw hd
        obtain ⟨l, h1, rfl⟩ := ih (fun y hy => hw y (by simp [hy])) (fun y hy => hd y (by simp [hy]))
        obtain ⟨a, h2, rfl⟩ := hrow x (All2.of_get (hw x (by simp)) fun k d c => hd x (by simp) k d c)
        exact ⟨a :: l, by simpa using ⟨h2, h1⟩, rfl⟩
    obtain ⟨l, h1, rfl⟩ := key es hw hd
    exact ⟨l, by simpa using hl, h1, rfl⟩
theorem okD_nums {d : D} {k : IntKind} (h : OkD d (.sl [.i k])) : ∃ l : List Int, l.length ≤ maxLen ∧ Wf k l ∧ d = .sl 1 (l.map (numD k)) :=
  okD_sl (good := fun n => (Lit.int k n).wf = true) (fun row hr => by
    cases hr with
    | cons h1 ht =>
      cases ht
      obtain ⟨n, hn, rfl⟩ := okD_i h1
      exact ⟨n, hn, rfl⟩) h
end
end Go.Proofs.Ytnmpdpijcehofaa.Eng
