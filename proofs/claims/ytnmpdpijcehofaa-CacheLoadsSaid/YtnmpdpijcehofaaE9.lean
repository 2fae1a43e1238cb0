/-
  Values seen as data: a part of the engine, of no one program. No condition.
-/
import Derived.Test.YtnmpdpijcehofaaE8
namespace Go.Proofs.Ytnmpdpijcehofaa.Eng
set_option linter.all false
noncomputable section
open Go.RowKit

section
variable {P : Program} {S0 : Nat → Prop} {w0 : Base} {N : Nat → Prop} {s : St} {a : Act} {w : World} {ι : Nat → Option Nat} {seed : Nat} {o : Oper}

def dv (l : List Value) : List D := l.map .v
theorem good_alloc (h : Rel S0 w0 N s a w ι) (hid : ∀ k, k < 1 → ¬ N (seed + k)) {t : TypeId} {i : TI} (ho : o.op = .alloc t) (hi : ti P t = some i) :
    Good P S0 w0 N s a w seed o { val := some (one (.ptr seed 0)), ups := [(seed, .box (i.zero.map fun z => .d (.v z)))], cnt := 1 } := by
  obtain ⟨j, d, z, h1, h2, h3, h4, rfl, h5⟩ := ti_info hi
  refine good_new h hid (cur := z.cells) (ty := t) (v := .pointer (some ⟨w.heap.size, 0, none⟩)) ?_ ?_ ?_ ?_
  · simp [execOp, ho, Instr.alloc, zeroValue, typeInfo, h1, h3, newVar, newRow]
  · intro k c hk
    simp only [Ob.cells, List.getElem?_map, Option.map_eq_some_iff] at hk
    obtain ⟨u, hu, rfl⟩ := hk
    exact ⟨u, by simpa using hu, Shows.v (h5 u (List.mem_of_getElem? hu))⟩
  · simp [Ob.shape]
  · intro E e1 e2 e3 e4
    refine ⟨e3, rfl, fun cs hcs => ⟨_, e1, rfl⟩⟩
theorem good_box (h : Rel S0 w0 N s a w ι) (hid : ∀ k, k < 1 → ¬ N (seed + k)) {t : TypeId} {x : Operand} {v : AV} {cs : List AC} (ho : o.op = .box t x) (hx : evO s x = some v) (hc : cellsOf v = some cs) :
    Good P S0 w0 N s a w seed o { val := some (one (.ptr seed 0)), ups := [(seed, .box cs)], cnt := 1 } := by
  obtain ⟨h1, h2⟩ := cellsOf_rep (h.ev hx) hc
  refine good_new h hid (cur := (a.eval x).cells) (ty := t) (v := .pointer (some ⟨w.heap.size, 0, none⟩)) ?_ ?_ ?_ ?_
  · simp [execOp, ho, Instr.box, newVar, newRow]
  · intro k c hk
    obtain ⟨y, hy, hr⟩ := h1.get hk
    exact ⟨y, by simpa using hy, hr⟩
  · have := h1.length; simpa [Ob.shape] using this
  · intro E e1 e2 e3 e4
    refine ⟨e3, rfl, fun cs hcs => ⟨_, e1, rfl⟩⟩

/-! ### Parts put into cells -/
theorem putCells (off : Nat) : ∀ (vs : List Value) (j : Nat) (cs : Array Value), off + j + vs.length ≤ cs.size →
    ((vs.zipIdx j).foldl (fun cs (p : Value × Nat) => cs.setIfInBounds (off + p.2) p.1) cs).toList = spl cs.toList (off + j) vs
  | [], j, cs, _ => by simp [spl]
  | v :: vs, j, cs, h => by
    simp only [List.zipIdx_cons, List.foldl_cons]
    rw [putCells off vs (j + 1) _ (by simp at h ⊢; omega)]
    simp only [Array.toList_setIfInBounds]
    apply List.ext_getElem?
    intro k
    simp only [List.length_cons] at h
    rw [spl_get (by simp; omega), spl_get (by simp; omega)]
    simp only [List.getElem?_set, Array.length_toList, List.length_cons]
    by_cases h1 : k < off + j
    · rw [if_pos (by omega), if_neg (by omega), if_pos h1]
    · by_cases h2 : k = off + j
      · subst h2
        have hlt : off + j < cs.size := by omega
        simp [hlt]
      · rw [if_neg (by omega), if_neg h1]
        by_cases h3 : k < off + (j + 1) + vs.length
        · rw [if_pos h3, if_pos (by omega)]
          have : k - (off + j) = (k - (off + (j + 1))) + 1 := by omega
          rw [this, List.getElem?_cons_succ]
        · rw [if_neg h3, if_neg (by omega), if_neg (by omega)]
theorem fill_step {place : Nat → Option (Nat × Nat)} {cells : Array Value} {i off size : Nat} {v : Value} {rest : List (Nat × Value)} (hp : place i = some (off, size)) (hs : v.cells.size = size) (hf : off + size ≤ cells.size) :
    Instr.fill place cells ((i, v) :: rest) = Instr.fill place (spl cells.toList off v.cells.toList).toArray rest := by
  have hpc := putCells off v.cells.toList 0 cells (by simp; omega)
  have e : v.cells.zipIdx.foldl (fun cs (p : Value × Nat) => cs.setIfInBounds (off + p.2) p.1) cells = (spl cells.toList off v.cells.toList).toArray := by
    rw [Nat.add_zero] at hpc
    rw [← hpc, Array.toArray_toList, ← Array.foldl_toList]
    congr 1
    simp
  simp only [Instr.fill, hp]
  rw [if_neg (by simp; omega)]
  exact congrArg (fun z => Instr.fill place z rest) e
theorem All2.spl {α β : Type} {R : α → β → Prop} {l m : List α} {bs n : List β} (h : All2 R l bs) (h' : All2 R m n) (o : Nat) : All2 R (spl l o m) (spl bs o n) := by
  unfold Eng.spl
  rw [h'.length]
  exact (h.take o).append (h'.append (h.drop _))

def fillA (place : Nat → Option (Nat × Nat)) (s : St) : List (Nat × Operand) → List AC → Option (List AC)
  | [], cs => some cs
  | (i, x) :: rest, cs => match place i, (evO s x).bind cellsOf with
    | some (off, size), some new => if new.length = size ∧ off + size ≤ cs.length then fillA place s rest (spl cs off new) else none
    | _, _ => none
theorem fillA_run (h : Rel S0 w0 N s a w ι) {place : Nat → Option (Nat × Nat)} : ∀ {parts : List (Nat × Operand)} {cs out : List AC} {cells : Array Value}, All2 (RepC (env S0 N s w ι)) cells.toList cs → fillA place s parts cs = some out →
    ∃ cells', Instr.fill place cells (parts.map fun p => (p.1, a.eval p.2)) = some cells' ∧ All2 (RepC (env S0 N s w ι)) cells'.toList out
  | [], cs, out, cells, hc, ho => by simp only [fillA, Option.some.injEq] at ho; subst ho; exact ⟨cells, rfl, hc⟩
  | (i, x) :: rest, cs, out, cells, hc, ho => by
    simp only [fillA] at ho
    split at ho
    · rename_i off size new hp hn
      split at ho
      · rename_i hh
        obtain ⟨v, hv, hcv⟩ := Option.bind_eq_some_iff.1 hn
        obtain ⟨h1, h2⟩ := cellsOf_rep (h.ev hv) hcv
        have hl := hc.length
        have hl1 := h1.length
        simp at hl hl1
        simp only [List.map_cons]
        rw [fill_step hp (by omega) (by omega)]
        exact fillA_run h (cells := _) (by simpa using hc.spl h1 off) ho
      · cases ho
    · cases ho
def build1 (P : Program) (s : St) (t : TypeId) (parts : List (Nat × Operand)) : Option Eff :=
  match ti P t with
  | some ⟨.st fs, _, _, z⟩ => if fs.all (fun f => (ti P f.2).isSome) then
      (fillA (fun k => (fs[k]?).bind fun f => (ti P f.2).map fun i => (f.1, i.size)) s parts (z.map fun z => .d (.v z))).map fun cs => { val := some (.x (.agg cs)) } else none
  | some ⟨.arr _ e, _, _, z⟩ => match ti P e with
      | some j => (fillA (fun k => some (k * j.size, j.size)) s parts (z.map fun z => .d (.v z))).map fun cs => { val := some (.x (.agg cs)) }
      | none => none
  | _ => none
theorem run_mapM {α β : Type} {f : α → Sem β} {g : α → β} {w : World} : ∀ {l : List α}, (∀ x ∈ l, (f x).run P w = .ok (g x) w) → (l.mapM f).run P w = .ok (l.map g) w
  | [], _ => by simp
  | x :: l, h => by
    have ih := run_mapM (f := f) (g := g) (w := w) (l := l) (fun y hy => h y (List.mem_cons_of_mem _ hy))
    rw [List.mapM_cons]
    simp only [Sem.run_bind, h x List.mem_cons_self, Result.andThen_ok, ih, Sem.run_pure, List.map_cons]
theorem fill_congr {place place' : Nat → Option (Nat × Nat)} (h : ∀ k, place' k = place k) (parts : List (Nat × Value)) (cells : Array Value) : Instr.fill place' cells parts = Instr.fill place cells parts := by
  rw [show place' = place from funext h]
theorem good_build (h : Rel S0 w0 N s a w ι) {t : TypeId} {parts : Array (Nat × Operand)} {e : Eff} (ho : o.op = .build t parts) (he : build1 P s t parts.toList = some e) : Good P S0 w0 N s a w seed o e := by
  have hparts : (parts.map fun (p : Nat × Operand) => (p.1, a.eval p.2)).toList = parts.toList.map fun p => (p.1, a.eval p.2) := by simp
  unfold build1 at he
  split at he
  · rename_i fs n b z hi
    obtain ⟨j, d, zz, h1, hd, h3, h4, hx, h5⟩ := ti_info hi
    simp only [TI.mk.injEq] at hx
    obtain ⟨hk, rfl, rfl, rfl⟩ := hx
    split at he
    · rename_i hall
      obtain ⟨cs, hc, rfl⟩ := Option.map_eq_some_iff.1 he
      cases d <;> simp [tk] at hk
      rename_i fields
      subst hk
      have hz : All2 (RepC (env S0 N s w ι)) zz.cells.toList (zz.cells.toList.map fun z => .d (.v z)) := All2.self fun x hx => Shows.v (h5 x hx)
      obtain ⟨cells', hf, hr⟩ := fillA_run h hz hc
      refine good_pure h (v := .agg cells') ?_ ⟨cells', rfl, hr⟩
      have hsz : ∀ f ∈ fields.toList, (do pure (f.offset, ← sizeOf f.type) : Sem (Nat × Nat)).run P w = .ok (f.offset, ((ti P f.type).map (·.size)).getD 0) w := fun f hf => by
        have h6 := List.all_eq_true.1 hall (f.offset, f.type) (List.mem_map.2 ⟨f, hf, rfl⟩)
        obtain ⟨i, hi'⟩ := Option.isSome_iff_exists.1 h6
        simp [ti_size hi', hi']
      have hm := run_mapM (P := P) (w := w) hsz
      have hpl : ∀ k, ((fields.toList.map fun f => (f.offset, ((ti P f.type).map (·.size)).getD 0)).toArray)[k]? = ((fields.toList.map fun f => (f.offset, f.type))[k]?).bind fun (f : Nat × TypeId) => (ti P f.2).map fun i => (f.1, i.size) := fun k => by
        rw [List.getElem?_toArray, List.getElem?_map, List.getElem?_map]
        cases hfk : fields.toList[k]? with
        | none => rfl
        | some f =>
          have h6 := List.all_eq_true.1 hall (f.offset, f.type) (List.mem_map.2 ⟨f, List.mem_of_getElem? hfk, rfl⟩)
          obtain ⟨i, hi'⟩ := Option.isSome_iff_exists.1 h6
          simp [hi']
      have hf' := (fill_congr hpl (parts.toList.map fun p => (p.1, a.eval p.2)) zz.cells).trans hf
      simp only [execOp, ho, Instr.build, Sem.run_bind, zeroValue, typeInfo, run_program, Result.andThen_ok, h1, h3, Sem.run_pure, run_underlying hd, Array.mapM_eq_mapM_toList, Sem.run_map, hm, hparts, hf']
    · cases he
  · rename_i n0 e0 n b z hi
    obtain ⟨j, d, zz, h1, hd, h3, h4, hx, h5⟩ := ti_info hi
    simp only [TI.mk.injEq] at hx
    obtain ⟨hk, rfl, rfl, rfl⟩ := hx
    split at he
    · rename_i j' hj'
      obtain ⟨cs, hc, rfl⟩ := Option.map_eq_some_iff.1 he
      cases d <;> simp [tk] at hk
      obtain ⟨rfl, rfl⟩ := hk
      have hz : All2 (RepC (env S0 N s w ι)) zz.cells.toList (zz.cells.toList.map fun z => .d (.v z)) := All2.self fun x hx => Shows.v (h5 x hx)
      obtain ⟨cells', hf, hr⟩ := fillA_run h hz hc
      refine good_pure h (v := .agg cells') ?_ ⟨cells', rfl, hr⟩
      simp only [execOp, ho, Instr.build, Sem.run_bind, zeroValue, typeInfo, run_program, Result.andThen_ok, h1, h3, Sem.run_pure, run_underlying hd, ti_size hj', hparts, hf]
    · cases he
  · cases he
end
end
end Go.Proofs.Ytnmpdpijcehofaa.Eng
