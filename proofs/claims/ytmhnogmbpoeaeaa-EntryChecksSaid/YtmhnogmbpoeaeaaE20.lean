/-
  Values seen as data: a part of the engine, of no one program. No condition.
-/
import Derived.Test.YtmhnogmbpoeaeaaE8
import Derived.MapKept
import Derived.ChangeKeysEq
import Derived.Scope
namespace Go.Proofs.Ytmhnogmbpoeaeaa.Eng
set_option linter.all false
noncomputable section
open Go.RowKit

section
variable {P : Program} {S0 : Nat → Prop} {w0 : Base} {N : Nat → Prop} {s : St} {a : Act} {w : World} {ι : Nat → Option Nat} {seed : Nat} {o : Oper}

def dv (l : List Value) : List D := l.map .v
theorem good_alloc (h : Rel S0 w0 N s a w ι) (hid : ∀ k, k < 1 → ¬ N (seed + k)) {t : TypeId} {i : TI} (ho : o.op = .alloc t) (hi : ti P t = some i) :
    Good P S0 w0 N s a w seed o { val := some (one (.ptr seed 0)), ups := [(seed, .box (i.zero.map fun z => .d (.v z)))], cnt := 1 } := by
  obtain ⟨j, d, z, h1, h2, h3, h4, rfl, h5⟩ := ti_info hi
  refine good_new h hid (cur := z.cells) (ty := t) (v := .pointer (some ⟨w.heap.size, 0, none⟩)) ?_ ?_ ?_ ?_
  · simp [execOp, ho, Instr.alloc, zeroValue, typeInfo, h1, h3, newVar, newRow]
  · intro k c hk
    simp only [Ob.cells, List.getElem?_map, Option.map_eq_some_iff] at hk
    obtain ⟨u, hu, rfl⟩ := hk
    exact ⟨u, by simpa using hu, Shows.v (h5 u (List.mem_of_getElem? hu))⟩
  · simp [Ob.shape]
  · intro E e1 e2 e3 e4
    refine ⟨e3, rfl, fun cs hcs => ⟨_, e1, rfl⟩⟩
theorem good_box (h : Rel S0 w0 N s a w ι) (hid : ∀ k, k < 1 → ¬ N (seed + k)) {t : TypeId} {x : Operand} {v : AV} {cs : List AC} (ho : o.op = .box t x) (hx : evO s x = some v) (hc : cellsOf v = some cs) :
    Good P S0 w0 N s a w seed o { val := some (one (.ptr seed 0)), ups := [(seed, .box cs)], cnt := 1 } := by
  obtain ⟨h1, h2⟩ := cellsOf_rep (h.ev hx) hc
  refine good_new h hid (cur := (a.eval x).cells) (ty := t) (v := .pointer (some ⟨w.heap.size, 0, none⟩)) ?_ ?_ ?_ ?_
  · simp [execOp, ho, Instr.box, newVar, newRow]
  · intro k c hk
    obtain ⟨y, hy, hr⟩ := h1.get hk
    exact ⟨y, by simpa using hy, hr⟩
  · have := h1.length; simpa [Ob.shape] using this
  · intro E e1 e2 e3 e4
    refine ⟨e3, rfl, fun cs hcs => ⟨_, e1, rfl⟩⟩

/-! ### Parts put into cells -/
theorem putCells (off : Nat) : ∀ (vs : List Value) (j : Nat) (cs : Array Value), off + j + vs.length ≤ cs.size →
    ((vs.zipIdx j).foldl (fun cs (p : Value × Nat) => cs.setIfInBounds (off + p.2) p.1) cs).toList = spl cs.toList (off + j) vs
  | [], j, cs, _ => by simp [spl]
  | v :: vs, j, cs, h => by
    simp only [List.zipIdx_cons, List.foldl_cons]
    rw [putCells off vs (j + 1) _ (by simp at h ⊢; omega)]
    simp only [Array.toList_setIfInBounds]
    apply List.ext_getElem?
    intro k
    simp only [List.length_cons] at h
    rw [spl_get (by simp; omega), spl_get (by simp; omega)]
    simp only [List.getElem?_set, Array.length_toList, List.length_cons]
    by_cases h1 : k < off + j
    · rw [if_pos (by omega), if_neg (by omega), if_pos h1]
    · by_cases h2 : k = off + j
      · subst h2
        have hlt : off + j < cs.size := by omega
        simp [hlt]
      · rw [if_neg (by omega), if_neg h1]
        by_cases h3 : k < off + (j + 1) + vs.length
        · rw [if_pos h3, if_pos (by omega)]
          have : k - (off + j) = (k - (off + (j + 1))) + 1 := by omega
          rw [this, List.getElem?_cons_succ]
        · rw [if_neg h3, if_neg (by omega), if_neg (by omega)]
theorem fill_step {place : Nat → Option (Nat × Nat)} {cells : Array Value} {i off size : Nat} {v : Value} {rest : List (Nat × Value)} (hp : place i = some (off, size)) (hs : v.cells.size = size) (hf : off + size ≤ cells.size) :
    Instr.fill place cells ((i, v) :: rest) = Instr.fill place (spl cells.toList off v.cells.toList).toArray rest := by
  have hpc := putCells off v.cells.toList 0 cells (by simp; omega)
  have e : v.cells.zipIdx.foldl (fun cs (p : Value × Nat) => cs.setIfInBounds (off + p.2) p.1) cells = (spl cells.toList off v.cells.toList).toArray := by
    rw [Nat.add_zero] at hpc
    rw [← hpc, Array.toArray_toList, ← Array.foldl_toList]
    congr 1
    simp
  simp only [Instr.fill, hp]
  rw [if_neg (by simp; omega)]
  exact congrArg (fun z => Instr.fill place z rest) e
theorem All2.spl {α β : Type} {R : α → β → Prop} {l m : List α} {bs n : List β} (h : All2 R l bs) (h' : All2 R m n) (o : Nat) : All2 R (spl l o m) (spl bs o n) := by
  unfold Eng.spl
  rw [h'.length]
  exact (h.take o).append (h'.append (h.drop _))

def fillA (place : Nat → Option (Nat × Nat)) (s : St) : List (Nat × Operand) → List AC → Option (List AC)
  | [], cs => some cs
  | (i, x) :: rest, cs => match place i, (evO s x).bind cellsOf with
    | some (off, size), some new => if new.length = size ∧ off + size ≤ cs.length then fillA place s rest (spl cs off new) else none
    | _, _ => none
theorem fillA_run (h : Rel S0 w0 N s a w ι) {place : Nat → Option (Nat × Nat)} : ∀ {parts : List (Nat × Operand)} {cs out : List AC} {cells : Array Value}, All2 (RepC (env S0 N s w ι)) cells.toList cs → fillA place s parts cs = some out →
    ∃ cells', Instr.fill place cells (parts.map fun p => (p.1, a.eval p.2)) = some cells' ∧ All2 (RepC (env S0 N s w ι)) cells'.toList out
  | [], cs, out, cells, hc, ho => by simp only [fillA, Option.some.injEq] at ho; subst ho; exact ⟨cells, rfl, hc⟩
  | (i, x) :: rest, cs, out, cells, hc, ho => by
    simp only [fillA] at ho
    split at ho
    · rename_i off size new hp hn
      split at ho
      · rename_i hh
        obtain ⟨v, hv, hcv⟩ := Option.bind_eq_some_iff.1 hn
        obtain ⟨h1, h2⟩ := cellsOf_rep (h.ev hv) hcv
        have hl := hc.length
        have hl1 := h1.length
        simp at hl hl1
        simp only [List.map_cons]
        rw [fill_step hp (by omega) (by omega)]
        exact fillA_run h (cells := _) (by simpa using hc.spl h1 off) ho
      · cases ho
    · cases ho
def build1 (P : Program) (s : St) (t : TypeId) (parts : List (Nat × Operand)) : Option Eff :=
  match ti P t with
  | some ⟨.st fs, _, _, z⟩ => if fs.all (fun f => (ti P f.2).isSome) then
      (fillA (fun k => (fs[k]?).bind fun f => (ti P f.2).map fun i => (f.1, i.size)) s parts (z.map fun z => .d (.v z))).map fun cs => { val := some (.x (.agg cs)) } else none
  | some ⟨.arr _ e, _, _, z⟩ => match ti P e with
      | some j => (fillA (fun k => some (k * j.size, j.size)) s parts (z.map fun z => .d (.v z))).map fun cs => { val := some (.x (.agg cs)) }
      | none => none
  | _ => none
theorem run_mapM {α β : Type} {f : α → Sem β} {g : α → β} {w : World} : ∀ {l : List α}, (∀ x ∈ l, (f x).run P w = .ok (g x) w) → (l.mapM f).run P w = .ok (l.map g) w
  | [], _ => by simp
  | x :: l, h => by
    have ih := run_mapM (f := f) (g := g) (w := w) (l := l) (fun y hy => h y (List.mem_cons_of_mem _ hy))
    rw [List.mapM_cons]
    simp only [Sem.run_bind, h x List.mem_cons_self, Result.andThen_ok, ih, Sem.run_pure, List.map_cons]
theorem fill_congr {place place' : Nat → Option (Nat × Nat)} (h : ∀ k, place' k = place k) (parts : List (Nat × Value)) (cells : Array Value) : Instr.fill place' cells parts = Instr.fill place cells parts := by
  rw [show place' = place from funext h]
theorem good_build (h : Rel S0 w0 N s a w ι) {t : TypeId} {parts : Array (Nat × Operand)} {e : Eff} (ho : o.op = .build t parts) (he : build1 P s t parts.toList = some e) : Good P S0 w0 N s a w seed o e := by
  have hparts : (parts.map fun (p : Nat × Operand) => (p.1, a.eval p.2)).toList = parts.toList.map fun p => (p.1, a.eval p.2) := by simp
  unfold build1 at he
  split at he
  · rename_i fs n b z hi
    obtain ⟨j, d, zz, h1, hd, h3, h4, hx, h5⟩ := ti_info hi
    simp only [TI.mk.injEq] at hx
    obtain ⟨hk, rfl, rfl, rfl⟩ := hx
    split at he
    · rename_i hall
      obtain ⟨cs, hc, rfl⟩ := Option.map_eq_some_iff.1 he
      cases d <;> simp [tk] at hk
      rename_i fields
      subst hk
      have hz : All2 (RepC (env S0 N s w ι)) zz.cells.toList (zz.cells.toList.map fun z => .d (.v z)) := All2.self fun x hx => Shows.v (h5 x hx)
      obtain ⟨cells', hf, hr⟩ := fillA_run h hz hc
      refine good_pure h (v := .agg cells') ?_ ⟨cells', rfl, hr⟩
      have hsz : ∀ f ∈ fields.toList, (do pure (f.offset, ← sizeOf f.type) : Sem (Nat × Nat)).run P w = .ok (f.offset, ((ti P f.type).map (·.size)).getD 0) w := fun f hf => by
        have h6 := List.all_eq_true.1 hall (f.offset, f.type) (List.mem_map.2 ⟨f, hf, rfl⟩)
        obtain ⟨i, hi'⟩ := Option.isSome_iff_exists.1 h6
        simp [ti_size hi', hi']
      have hm := run_mapM (P := P) (w := w) hsz
      have hpl : ∀ k, ((fields.toList.map fun f => (f.offset, ((ti P f.type).map (·.size)).getD 0)).toArray)[k]? = ((fields.toList.map fun f => (f.offset, f.type))[k]?).bind fun (f : Nat × TypeId) => (ti P f.2).map fun i => (f.1, i.size) := fun k => by
        rw [List.getElem?_toArray, List.getElem?_map, List.getElem?_map]
        cases hfk : fields.toList[k]? with
        | none => rfl
        | some f =>
          have h6 := List.all_eq_true.1 hall (f.offset, f.type) (List.mem_map.2 ⟨f, List.mem_of_getElem? hfk, rfl⟩)
          obtain ⟨i, hi'⟩ := Option.isSome_iff_exists.1 h6
          simp [hi']
      have hf' := (fill_congr hpl (parts.toList.map fun p => (p.1, a.eval p.2)) zz.cells).trans hf
      simp only [execOp, ho, Instr.build, Sem.run_bind, zeroValue, typeInfo, run_program, Result.andThen_ok, h1, h3, Sem.run_pure, run_underlying hd, Array.mapM_eq_mapM_toList, Sem.run_map, hm, hparts, hf']
    · cases he
  · rename_i n0 e0 n b z hi
    obtain ⟨j, d, zz, h1, hd, h3, h4, hx, h5⟩ := ti_info hi
    simp only [TI.mk.injEq] at hx
    obtain ⟨hk, rfl, rfl, rfl⟩ := hx
    split at he
    · rename_i j' hj'
      obtain ⟨cs, hc, rfl⟩ := Option.map_eq_some_iff.1 he
      cases d <;> simp [tk] at hk
      obtain ⟨rfl, rfl⟩ := hk
      have hz : All2 (RepC (env S0 N s w ι)) zz.cells.toList (zz.cells.toList.map fun z => .d (.v z)) := All2.self fun x hx => Shows.v (h5 x hx)
      obtain ⟨cells', hf, hr⟩ := fillA_run h hz hc
      refine good_pure h (v := .agg cells') ?_ ⟨cells', rfl, hr⟩
      simp only [execOp, ho, Instr.build, Sem.run_bind, zeroValue, typeInfo, run_program, Result.andThen_ok, h1, h3, Sem.run_pure, run_underlying hd, ti_size hj', hparts, hf]
    · cases he
  · cases he
end
end
end Go.Proofs.Ytmhnogmbpoeaeaa.Eng
namespace Go.Proofs.Ytmhnogmbpoeaeaa.Eng
set_option linter.all false
noncomputable section
open Go.RowKit

theorem flat_set {α : Type} {sz : Nat} : ∀ {es : List (List α)}, (∀ e ∈ es, e.length = sz) → ∀ {i : Nat} {e : List α}, i < es.length → e.length = sz → (es.set i e).flatten = spl es.flatten (i * sz) e
  | [], _, i, e, hi, _ => by simp at hi
  | e0 :: es, h, 0, e, _, he => by
    have h0 : e0.length = sz := h e0 (by simp)
    simp only [List.set_cons_zero, List.flatten_cons, spl, Nat.zero_mul, List.take_zero, List.nil_append, Nat.zero_add]
    rw [List.drop_append, List.drop_eq_nil_of_le (by omega), List.nil_append, show e.length - e0.length = 0 by omega, List.drop_zero]
  | e0 :: es, h, i + 1, e, hi, he => by
    have h0 : e0.length = sz := h e0 (by simp)
    rw [List.set_cons_succ, List.flatten_cons, flat_set (fun e' he' => h e' (by simp [he'])) (by simpa using hi) he, List.flatten_cons]
    have e1 : (i + 1) * sz = e0.length + i * sz := by rw [h0, Nat.add_mul]; omega
    have e2 : e0.take (e0.length + i * sz) = e0 := List.take_of_length_le (by omega)
    have e3 : e0.drop (e0.length + i * sz + e.length) = [] := List.drop_eq_nil_of_le (by omega)
    have e4 : e0.length + i * sz - e0.length = i * sz := by omega
    have e5 : e0.length + i * sz + e.length - e0.length = i * sz + e.length := by omega
    unfold spl
    rw [e1, List.take_append, e2, e4, List.drop_append, e3, List.nil_append, e5, List.append_assoc]
theorem spl_map {α β : Type} (f : α → β) (l m : List α) (o : Nat) : spl (l.map f) o (m.map f) = (spl l o m).map f := by
  simp [spl, List.map_take, List.map_drop]
theorem rep_get {α : Type} {l : List α} {n k : Nat} (hk : k < n * l.length) : ((List.replicate n l).flatten)[k]? = l[k % l.length]? := by
  have hpos : 0 < l.length := by rcases Nat.eq_zero_or_pos l.length with h | h; rw [h] at hk; omega; exact h
  have hq : k / l.length < n := by rw [Nat.div_lt_iff_lt_mul hpos]; exact hk
  have hr := Nat.mod_lt k hpos
  have h1 : (List.replicate n l)[k / l.length]? = some l := by rw [List.getElem?_replicate, if_pos hq]
  have h2 := flat_get (sz := l.length) (es := List.replicate n l) (fun e he => by rw [List.eq_of_mem_replicate he]) h1 (k := k % l.length) (c := l[k % l.length]) (List.getElem?_eq_getElem hr)
  rw [show k / l.length * l.length + k % l.length = k by rw [Nat.mul_comm]; exact Nat.div_add_mod k l.length] at h2
  rw [h2, List.getElem?_eq_getElem hr]

def allD : List AC → Option (List D)
  | [] => some []
  | .d x :: cs => (allD cs).map (x :: ·)
  | _ :: _ => none
theorem allD_eq : ∀ {cs : List AC} {ds : List D}, allD cs = some ds → cs = ds.map .d
  | [], ds, h => by simp only [allD, Option.some.injEq] at h; subst h; rfl
  | c :: cs, ds, h => by
    cases c with
    | d x =>
      simp only [allD, Option.map_eq_some_iff] at h
      obtain ⟨ds', h1, rfl⟩ := h
      rw [allD_eq h1]; rfl
    | _ => simp [allD] at h

section
variable {P : Program} {S0 : Nat → Prop} {w0 : Base} {N : Nat → Prop} {s : St} {a : Act} {w : World} {ι : Nat → Option Nat} {seed : Nat} {o : Oper}

def rowsA (s : St) (sz : Nat) : List (Nat × Operand) → List (List D) → Option (List (List D))
  | [], es => some es
  | (i, x) :: rest, es => match ((evO s x).bind cellsOf).bind allD with
    | some new => if new.length = sz ∧ i < es.length then rowsA s sz rest (es.set i new) else none
    | none => none
theorem rowsA_run (h : Rel S0 w0 N s a w ι) {sz : Nat} : ∀ {parts : List (Nat × Operand)} {es out : List (List D)} {cells : Array Value}, (∀ e ∈ es, e.length = sz) → All2 (RepC (env S0 N s w ι)) cells.toList (es.flatten.map .d) → rowsA s sz parts es = some out →
    ∃ cells', Instr.fill (fun i => some (i * sz, sz)) cells (parts.map fun p => (p.1, a.eval p.2)) = some cells' ∧ All2 (RepC (env S0 N s w ι)) cells'.toList (out.flatten.map .d) ∧ (∀ e ∈ out, e.length = sz) ∧ out.length = es.length
  | [], es, out, cells, hw, hc, ho => by simp only [rowsA, Option.some.injEq] at ho; subst ho; exact ⟨cells, rfl, hc, hw, rfl⟩
  | (i, x) :: rest, es, out, cells, hw, hc, ho => by
    simp only [rowsA] at ho
    split at ho
    · rename_i new hn
      split at ho
      · rename_i hh
        obtain ⟨l, hn1, hn2⟩ := Option.bind_eq_some_iff.1 hn
        obtain ⟨v, hv, hcv⟩ := Option.bind_eq_some_iff.1 hn1
        obtain rfl := allD_eq hn2
        obtain ⟨h1, h2⟩ := cellsOf_rep (h.ev hv) hcv
        have hl := hc.length
        have hl1 := h1.length
        rw [List.length_map, flat_len hw] at hl
        simp at hl hl1
        simp only [List.map_cons]
        have hfit : i * sz + sz ≤ cells.size := by rw [hl]; have := Nat.mul_le_mul_right sz (show i + 1 ≤ es.length by omega); rw [Nat.add_mul] at this; omega
        rw [fill_step rfl (by omega) hfit]
        have hw' : ∀ e ∈ es.set i new, e.length = sz := fun e he => by
          rcases List.mem_or_eq_of_mem_set he with h' | rfl
          · exact hw e h'
          · exact hh.1
        have h3 := rowsA_run h (cells := (spl cells.toList (i * sz) (a.eval x).cells.toList).toArray) hw' (by
          rw [flat_set hw hh.2 hh.1, ← spl_map]
          simpa using hc.spl h1 (i * sz)) ho
        simpa using h3
      · cases ho
    · cases ho

theorem zero_rows {E : Env} {z : List Value} (hz : ∀ v ∈ z, v.oneCell' = true) {n m : Nat} (hm : m = n * z.length) {cur : Array Value} (hc : ∀ k, k < m → cur[k]? = z[k % z.length]?) :
    ∀ (k : Nat) (c : AC), ((List.replicate n (dv z)).flatten.map AC.d)[k]? = some c → ∃ y, cur[k]? = some y ∧ RepC E y c := by
  intro k c hk
  rw [List.getElem?_map] at hk
  obtain ⟨d, hd, rfl⟩ := Option.map_eq_some_iff.1 hk
  have hl : (dv z).length = z.length := by simp [dv]
  have hlt : k < n * (dv z).length := by
    have := (List.getElem?_eq_some_iff.1 hd).1
    rw [flat_len (sz := (dv z).length) (fun e he => by rw [List.eq_of_mem_replicate he]), List.length_replicate] at this
    exact this
  rw [rep_get hlt, hl] at hd
  unfold dv at hd
  rw [List.getElem?_map] at hd
  obtain ⟨u, hu, rfl⟩ := Option.map_eq_some_iff.1 hd
  exact ⟨u, by rw [hc k (by rw [hm, ← hl]; exact hlt)]; exact hu, Shows.v (hz u (List.mem_of_getElem? hu))⟩

theorem own_rep {E : Env} {b g L cap sz : Nat} {es : List (List D)} {fz : Bool} {cur : Array Value} {ty : TypeId} (hN : E.N b) (hi : E.ι b = some g) (hH : E.H b = some (.row sz es fz)) (hl : es.length = L) (hc : L ≤ cap) (hm : cap ≤ maxLen) (hh : E.w.heap[g]? = some (.cells cur ty (0, 0))) (hs : cur.size = cap * sz) :
    RepC E (.slice (some ⟨g, 0, none⟩) L cap) (.own b L) := by
  refine ⟨hN, rfl, fun sz1 es1 fz1 hb => ?_⟩
  have := hH.symm.trans hb
  cases this
  exact ⟨by omega, fun _ => .inr ⟨g, cap, hi, rfl, hc, hm, cur, ty, hh, hs⟩⟩

def bslice1 (P : Program) (s : St) (seed : Nat) (t : TypeId) (len : Nat) (parts : List (Nat × Operand)) : Option Eff :=
  match ti P t with
  | some ⟨.sl e, _, _, _⟩ => match ti P e with
    | some j => if len * j.size ≤ 16777216 ∧ 0 < j.size then (rowsA s j.size parts (List.replicate len (dv j.zero))).map fun es => { val := some (one (.own seed len)), ups := [(seed, .row j.size es false)], cnt := 1 } else none
    | none => none
  | _ => none
theorem good_bslice (h : Rel S0 w0 N s a w ι) (hid : ∀ k, k < 1 → ¬ N (seed + k)) {t : TypeId} {len : Nat} {parts : Array (Nat × Operand)} {e : Eff} (ho : o.op = .buildSlice t len parts) (he : bslice1 P s seed t len parts.toList = some e) : Good P S0 w0 N s a w seed o e := by
  have hparts : (parts.map fun (p : Nat × Operand) => (p.1, a.eval p.2)).toList = parts.toList.map fun p => (p.1, a.eval p.2) := by simp
  unfold bslice1 at he
  split at he
  · rename_i e0 n b z hi
    split at he
    · rename_i j hj
      split at he
      · rename_i hsz
        obtain ⟨es, hes, rfl⟩ := Option.map_eq_some_iff.1 he
        have hsl := ti_slice hi rfl
        obtain ⟨k, d, zz, h1, hd, h3, h4, rfl, h5⟩ := ti_info hj
        simp only at hes hsz
        have hzl : zz.cells.toList.length = k.size := by simpa using h4
        have hbase : All2 (RepC (env S0 N s w ι)) ((Array.range (len * k.size)).map (fun x => (if len * k.size = 0 then #[] else zz.cells)[x % (if len * k.size = 0 then #[] else zz.cells).size]!)).toList ((List.replicate len (dv zz.cells.toList)).flatten.map .d) := by
          have hw : ∀ e ∈ List.replicate len (dv zz.cells.toList), e.length = k.size := fun e he => by rw [List.eq_of_mem_replicate he]; simpa [dv] using h4
          refine All2.of_get (by rw [List.length_map, flat_len hw]; simp) fun q y c hy hc => ?_
          have hq : q < len * k.size := by
            have := (List.getElem?_eq_some_iff.1 hc).1
            rw [List.length_map, flat_len hw, List.length_replicate] at this
            exact this
          have hne : ¬ len * k.size = 0 := by omega
          have hmod : q % k.size < zz.cells.size := by rw [h4]; exact Nat.mod_lt _ hsz.2
          simp only [hne, if_false, h4] at hy
          have hy' : y = zz.cells[q % k.size] := by
            simp [hq] at hy
            rw [← hy]
            simp [hmod]
          obtain ⟨y', hy1, hr⟩ := zero_rows (E := env S0 N s w ι) h5 (n := len) (m := len * k.size) (by rw [hzl]) (cur := (Array.range (len * k.size)).map (fun x => zz.cells[x % k.size]!)) (fun q hq => by
            have hmod : q % k.size < zz.cells.size := by rw [h4]; exact Nat.mod_lt _ hsz.2
            simp [hq, hzl, hmod]) q c hc
          have : y' = y := by
            simp [hq] at hy1
            rw [hy', ← hy1]
            simp [hmod]
          rw [← this]
          exact hr
        obtain ⟨cells', hf, hr, hw, hlen⟩ := rowsA_run h (fun e he => by rw [List.eq_of_mem_replicate he]; simpa [dv] using h4) hbase hes
        have hcl := hr.length
        rw [List.length_map, flat_len hw, hlen] at hcl
        simp at hcl
        refine good_new h hid (cur := cells') (ty := e0) (v := .slice (some ⟨w.heap.size, 0, none⟩) len len) ?_ ?_ ?_ ?_
        · have h24 : ¬ (2 ^ 24 < len * k.size) := by omega
          by_cases h0 : len * k.size = 0
          · obtain rfl : len = 0 := by
              rcases Nat.eq_zero_or_pos len with h' | h'
              · exact h'
              · have := Nat.mul_pos h' hsz.2; omega
            simp at hf
            simp [execOp, ho, Instr.buildSlice, run_underlying hsl, sizeOf, typeInfo, h1, hparts, hf, newRow]
          · simp only [h0, if_false] at hf
            simp [execOp, ho, Instr.buildSlice, run_underlying hsl, sizeOf, typeInfo, h1, h0, hparts, hf, newRow, h24, zeroValue, h3]
        · intro q c hq
          obtain ⟨y, hy, hrr⟩ := hr.get hq
          exact ⟨y, by simpa using hy, hrr⟩
        · exact ⟨hsz.2, hw⟩
        · intro E e1 e2 e3 e4
          refine own_rep e3 e1 e2 (by simpa using hlen) (Nat.le_refl _) ?_ (by rw [e4]; exact heap_alloc_new w _) hcl
          simp only [maxLen]
          have : len ≤ len * k.size := Nat.le_mul_of_pos_right _ hsz.2
          omega
      · cases he
    · cases he
  · cases he
def mslice1 (P : Program) (s : St) (seed : Nat) (t : TypeId) (l c : Operand) : Option Eff :=
  match ti P t, evP s l, evP s c with
  | some ⟨.sl e, _, _, _⟩, some (.int _ l), some (.int _ c) => match ti P e with
    | some j => if 0 ≤ l ∧ l ≤ c ∧ (j.bytes : Int) * c ≤ 281474976710656 ∧ c ≤ 9223372036854775807 ∧ 0 < j.size then
        some { val := some (one (.own seed l.toNat)), ups := [(seed, .row j.size (List.replicate l.toNat (dv j.zero)) false)], cnt := 1 } else none
    | none => none
  | _, _, _ => none
theorem good_mslice (h : Rel S0 w0 N s a w ι) (hid : ∀ k, k < 1 → ¬ N (seed + k)) {t : TypeId} {l c : Operand} {e : Eff} (ho : o.op = .makeSlice t l c) (he : mslice1 P s seed t l c = some e) : Good P S0 w0 N s a w seed o e := by
  unfold mslice1 at he
  split at he
  · rename_i e0 n b z kl l' kc c' hi hl hc
    split at he
    · rename_i j hj
      split at he
      · rename_i hcond
        obtain ⟨g0, g1, g2, g3, g4⟩ := hcond
        cases he
        have hsl := ti_slice hi rfl
        obtain ⟨k, d, zz, h1, hd, h3, h4, rfl, h5⟩ := ti_info hj
        simp only at g2 g4 ⊢
        have hzl : zz.cells.toList.length = k.size := by simpa using h4
        have hr := run_make (P := P) w t e0 k zz hsl h1 h3 kl kc l' c' g0 g1 g2 g3
        refine good_new h hid (cur := madeCells zz.cells (c'.toNat * k.size)) (ty := e0) (v := .slice (some ⟨w.heap.size, 0, none⟩) l'.toNat c'.toNat) ?_ ?_ ?_ ?_
        · simp [execOp, ho, h.evP hl, h.evP hc, hr]
        · have hle : l'.toNat * k.size ≤ c'.toNat * k.size := Nat.mul_le_mul_right _ (by omega)
          refine zero_rows h5 (m := l'.toNat * k.size) (by rw [hzl]) (fun q hq => ?_)
          have hmod : q % k.size < zz.cells.size := by rw [h4]; exact Nat.mod_lt _ g4
          have hlt : q < c'.toNat * k.size := by omega
          rw [hzl]
          rw [Array.getElem?_toList, Array.getElem?_eq_getElem hmod]
          simp only [madeCells, Array.getElem?_map, h4]
          rw [Array.getElem?_eq_getElem (by simpa using hlt)]
          simp [hmod]
        · refine ⟨g4, fun e he => ?_⟩
          rw [List.eq_of_mem_replicate he]
          simpa [dv] using h4
        · intro E e1 e2 e3 e4
          refine own_rep e3 e1 e2 (by simp) (by omega) ?_ (by rw [e4]; exact heap_alloc_new w _) (size_madeCells _ _)
          simp only [maxLen]; omega
      · cases he
    · cases he
  · cases he
end
end
end Go.Proofs.Ytmhnogmbpoeaeaa.Eng
namespace Go.Proofs.Ytmhnogmbpoeaeaa.Eng
set_option linter.all false
noncomputable section
open Go.RowKit

section
variable {P : Program} {S0 : Nat → Prop} {w0 : Base} {N : Nat → Prop} {s : St} {a : Act} {w : World} {ι : Nat → Option Nat} {seed : Nat} {o : Oper}

def addrAt (es : List (List D)) (i : Nat) : AC → AC
  | .own b L => .eptr b i 0 L
  | .view b lo _ L => .eptr b (lo + i) 0 L
  | _ => .cptr (es.getD i [])
theorem getD_some {α : Type} {es : List (List α)} {i : Nat} (h : i < es.length) : es[i]? = some (es.getD i []) := by
  simp [List.getD, List.getElem?_eq_getElem h]
theorem Rel.addrAt (h : Rel S0 w0 N s a w ι) {x : Value} {c : AC} (hx : RepC (env S0 N s w ι) x c) {sz : Nat} {es : List (List D)} (hd : dataC s.hp c = some (.sl sz es)) {i : Nat} (hi : i < es.length) :
    ∃ ad cap, x = .slice (some ad) es.length cap ∧ RepC (env S0 N s w ι) (.pointer (some (ad.add (i * sz)))) (addrAt es i c) := by
  cases c with
  | d c =>
    have hx' := hx
    simp only [dataC, Option.some.injEq] at hd
    subst hd
    cases hx' with
    | nil => simp at hi
    | @sl ad n cap _ _ f hn hS hc hm hw hr hd =>
      subst hn
      refine ⟨ad, cap, rfl, _, rfl, fun _ => ?_, fun k c hk => ?_⟩
      · rw [add_block]; exact hS (by rintro rfl; simp at hi)
      · have := flat_get hw (getD_some hi) hk
        rw [add_add']
        exact ⟨_, hr _ c this, hd _ c this⟩
  | own b L =>
    simp only [dataC] at hd
    split at hd
    · rename_i sz' es' fz hb
      split at hd
      · rename_i hl
        simp only [Option.some.injEq, D.sl.injEq] at hd
        obtain ⟨rfl, rfl⟩ := hd
        obtain ⟨hN, _, hx⟩ := hx
        obtain ⟨_, hx⟩ := hx _ _ fz hb
        rcases hx hl with ⟨hn, rfl⟩ | ⟨g, cap, hg, rfl, hc, hm, _⟩
        · have h2 := (h.ob b _ hb).2
          unfold RepO at h2
          have hg' : (env S0 N s w ι).ι b = none := hn
          rw [hg'] at h2
          obtain ⟨sz', fz', he⟩ := h2
          cases he
          simp at hi
        · refine ⟨_, cap, by rw [hl], hN, rfl, fun sz1 es1 fz1 hb1 => ?_⟩
          have := hb.symm.trans hb1
          cases this
          exact ⟨by omega, fun _ _ => ⟨g, hg, by rw [Addr.add_lit]; simp⟩⟩
      · cases hd
    · cases hd
  | view b lo n L =>
    simp only [dataC] at hd
    split at hd
    · rename_i sz' es' fz hb
      split at hd
      · rename_i hl
        simp only [Option.some.injEq, D.sl.injEq] at hd
        obtain ⟨rfl, rfl⟩ := hd
        obtain ⟨hN, _, hx⟩ := hx
        obtain ⟨_, hx⟩ := hx _ _ fz hb
        obtain ⟨A, cap, rfl, hc, hm, hA0, hA⟩ := hx hl.1
        have hlen : ((es'.drop lo).take n).length = n := by rw [List.length_take, List.length_drop]; omega
        rw [hlen] at hi ⊢
        obtain ⟨g, hg, rfl⟩ := hA (by omega)
        refine ⟨_, cap, rfl, hN, rfl, fun sz1 es1 fz1 hb1 => ?_⟩
        have := hb.symm.trans hb1
        cases this
        exact ⟨by omega, fun _ _ => ⟨g, hg, by rw [Addr.add_lit, Nat.add_mul]; simp⟩⟩
      · cases hd
    · cases hd
  | _ => simp [dataC] at hd

def idx1 (P : Program) (s : St) (t : TypeId) (x i : Operand) : Option Eff :=
  match ti P t, evO s x, evP s i with
  | some ⟨.sl e, _, _, _⟩, some (.x (.one c)), some (.int _ k) => match ti P e, dataC s.hp c with
    | some j, some (.sl sz es) => if 0 ≤ k ∧ k < es.length ∧ sz = j.size then some { val := some (one (addrAt es k.toNat c)) } else none
    | _, _ => none
  | some ⟨.arr n e, _, _, _⟩, some (.x (.one c)), some (.int _ k) => match ti P e with
    | some j => if 0 ≤ k ∧ k < n then (shift s.hp (k.toNat * j.size) c).map fun c' => { val := some (one c') } else none
    | none => none
  | _, _, _ => none
theorem good_idx (h : Rel S0 w0 N s a w ι) {t : TypeId} {x i : Operand} {e : Eff} (ho : o.op = .indexAddr t x i) (he : idx1 P s t x i = some e) : Good P S0 w0 N s a w seed o e := by
  unfold idx1 at he
  split at he
  · rename_i e0 _ _ _ c kk k hi hx hk
    split at he
    · rename_i j sz es hj hd
      split at he
      · rename_i hcond
        cases he
        obtain ⟨h1, h2, rfl⟩ := hcond
        have hsl := ti_slice hi rfl
        obtain ⟨ad, cap, hv, hr⟩ := h.addrAt (h.ev hx) hd (i := k.toNat) (by omega)
        refine good_pure h (v := _) ?_ hr
        simp [execOp, ho, hv, h.evP hk, Instr.indexAt, asIntOf, run_underlying hsl, h1, h2, ti_size hj]
      · cases he
    · cases he
  · rename_i n e0 _ _ _ c kk k hi hx hk
    split at he
    · rename_i j hj
      split at he
      · rename_i hcond
        obtain ⟨c', hc, rfl⟩ := Option.map_eq_some_iff.1 he
        obtain ⟨jj, d, zz, _, hd, _, _, hxx, _⟩ := ti_info hi
        simp only [TI.mk.injEq] at hxx
        cases d <;> simp [tk] at hxx
        obtain ⟨⟨rfl, rfl⟩, _⟩ := hxx
        obtain ⟨ad, hp, hr⟩ := h.shift (h.ev hx) hc
        refine good_pure h (v := .pointer (some (ad.add (k.toNat * j.size)))) ?_ hr
        simp [execOp, ho, hp, h.evP hk, Instr.indexAt, asIntOf, run_underlying hd, Instr.sureAddr, hcond.1, hcond.2, ti_size hj]
      · cases he
    · cases he
  · cases he
def index1 (P : Program) (s : St) (t : TypeId) (x i : Operand) : Option Eff :=
  match ti P t, evO s x, evP s i with
  | some ⟨.arr n e, _, _, _⟩, some (.x (.agg cs)), some (.int _ k) => match ti P e with
    | some j => if 0 ≤ k ∧ k < n then (partOf (k.toNat * j.size) j.size j.k.isAgg cs).map fun v => { val := some v } else none
    | none => none
  | _, _, _ => none
theorem good_index (h : Rel S0 w0 N s a w ι) {t : TypeId} {x i : Operand} {e : Eff} (ho : o.op = .index t x i) (he : index1 P s t x i = some e) : Good P S0 w0 N s a w seed o e := by
  unfold index1 at he
  split at he
  · rename_i n e0 _ _ _ cs kk k hi hx hk
    split at he
    · rename_i j hj
      split at he
      · rename_i hcond
        obtain ⟨v, hv, rfl⟩ := Option.map_eq_some_iff.1 he
        obtain ⟨jj, d, zz, _, hd, _, _, hxx, _⟩ := ti_info hi
        simp only [TI.mk.injEq] at hxx
        cases d <;> simp [tk] at hxx
        obtain ⟨⟨rfl, rfl⟩, _⟩ := hxx
        obtain ⟨arr, hp, hr⟩ := h.ev hx
        obtain ⟨u, hu, hr'⟩ := part_run hr hj hv w
        refine good_pure h (v := u) ?_ hr'
        simp [execOp, ho, hp, h.evP hk, Instr.index, asIntOf, run_underlying hd, hcond.1, hcond.2, ti_size hj, hu]
      · cases he
    · cases he
  · cases he

/-- s[lo:hi]. -/
def cutC (es : List (List D)) (sz lo n : Nat) : AC → AC
  | .own b L => .view b lo n L
  | .view b lo0 _ L => .view b (lo0 + lo) n L
  | _ => .d (.sl sz ((es.drop lo).take n))
theorem Rel.cutC (h : Rel S0 w0 N s a w ι) {x : Value} {c : AC} (hx : RepC (env S0 N s w ι) x c) {sz : Nat} {es : List (List D)} (hd : dataC s.hp c = some (.sl sz es)) :
    ∃ A cap, x = .slice A es.length cap ∧ es.length ≤ cap ∧ ∀ lo n m, lo + n ≤ es.length → lo + n ≤ m → m ≤ cap → RepC (env S0 N s w ι) (.slice (if m = lo then A else A.map (·.add (lo * sz))) n (m - lo)) (cutC es sz lo n c) := by
  cases c with
  | d c =>
    simp only [dataC, Option.some.injEq] at hd
    subst hd
    cases hx with
    | nil =>
      refine ⟨none, 0, rfl, Nat.le_refl _, fun lo n m h1 h2 h3 => ?_⟩
      obtain ⟨rfl, rfl, rfl⟩ : lo = 0 ∧ n = 0 ∧ m = 0 := by simp at h1; omega
      exact Shows.nil
    | @sl ad n cap _ _ f hn hS hc hm hw hr hd =>
      subst hn
      refine ⟨some ad, cap, rfl, hc, fun lo n m h1 h2 h3 => ?_⟩
      have hlen : n = ((es.drop lo).take n).length := by rw [List.length_take, List.length_drop]; omega
      have hw' : ∀ e ∈ (es.drop lo).take n, e.length = sz := fun e he => hw e (List.mem_of_mem_drop (List.mem_of_mem_take he))
      have hfl : ∀ k c, ((es.drop lo).take n).flatten[k]? = some c → es.flatten[lo * sz + k]? = some c := fun k c hk => by
        rw [flat_take (fun e he => hw e (List.mem_of_mem_drop he)), flat_drop hw, List.getElem?_take] at hk
        split at hk
        · rwa [List.getElem?_drop] at hk
        · cases hk
      by_cases hml : m = lo
      · subst hml
        rw [if_pos rfl]
        obtain rfl : n = 0 := by omega
        exact Shows.sl (fun _ => undef) (by simp) (by simp) (by omega) (by omega) (by simp) (by simp) (by simp)
      · rw [if_neg hml]
        refine Shows.sl (fun k => f (lo * sz + k)) hlen (fun hne => ?_) (by omega) (by omega) hw' (fun k c hk => ?_) (fun k c hk => hd _ c (hfl k c hk))
        · show _ ; rw [add_block]; exact hS (by rintro rfl; simp at hne)
        · rw [add_add']; exact hr _ c (hfl k c hk)
  | own b L =>
    simp only [dataC] at hd
    split at hd
    · rename_i sz' es' fz hb
      split at hd
      · rename_i hl
        simp only [Option.some.injEq, D.sl.injEq] at hd
        obtain ⟨rfl, rfl⟩ := hd
        obtain ⟨hN, _, hx⟩ := hx
        obtain ⟨hle, hx⟩ := hx _ _ fz hb
        rcases hx hl with ⟨hn, rfl⟩ | ⟨g, cap, hg, rfl, hc, hm, _⟩
        · have h2 := (h.ob b _ hb).2
          unfold RepO at h2
          have hg' : (env S0 N s w ι).ι b = none := hn
          rw [hg'] at h2
          obtain ⟨sz', fz', he⟩ := h2
          cases he
          refine ⟨none, 0, rfl, Nat.le_refl _, fun lo n m h1 h2 h3 => ?_⟩
          obtain ⟨rfl, rfl, rfl⟩ : lo = 0 ∧ n = 0 ∧ m = 0 := by simp at h1; omega
          refine ⟨hN, rfl, fun sz1 es1 fz1 hb1 => ?_⟩
          have := hb.symm.trans hb1
          cases this
          exact ⟨hle, fun _ => ⟨none, 0, by simp, by simp, by simp [maxLen], by simp, by simp⟩⟩
        · refine ⟨_, cap, by rw [hl], by omega, fun lo n m h1 h2 h3 => ⟨hN, rfl, fun sz1 es1 fz1 hb1 => ?_⟩⟩
          have := hb.symm.trans hb1
          cases this
          refine ⟨hle, fun _ => ⟨_, _, rfl, by omega, by omega, fun hA => ?_, fun hn => ⟨g, hg, ?_⟩⟩⟩
          · split at hA <;> simp at hA
          · rw [if_neg (by omega)]; simp [Addr.add_lit]
      · cases hd
    · cases hd
  | view b lo0 n0 L =>
    simp only [dataC] at hd
    split at hd
    · rename_i sz' es' fz hb
      split at hd
      · rename_i hl
        simp only [Option.some.injEq, D.sl.injEq] at hd
        obtain ⟨rfl, rfl⟩ := hd
        obtain ⟨hN, _, hx⟩ := hx
        obtain ⟨hle, hx⟩ := hx _ _ fz hb
        obtain ⟨A, cap, rfl, hc, hm, hA0, hA⟩ := hx hl.1
        have hlen : ((es'.drop lo0).take n0).length = n0 := by rw [List.length_take, List.length_drop]; omega
        rw [hlen]
        refine ⟨A, cap, rfl, hc, fun lo n m h1 h2 h3 => ⟨hN, rfl, fun sz1 es1 fz1 hb1 => ?_⟩⟩
        have := hb.symm.trans hb1
        cases this
        refine ⟨hle, fun _ => ⟨_, _, rfl, by omega, by omega, fun hAn => ?_, fun hn => ?_⟩⟩
        · split at hAn
          · have := hA0 hAn; omega
          · cases A with
            | none => have := hA0 rfl; omega
            | some _ => simp at hAn
        · obtain ⟨g, hg, rfl⟩ := hA (by omega)
          refine ⟨g, hg, ?_⟩
          rw [if_neg (by omega)]
          simp [Addr.add_lit, Nat.add_mul]
      · cases hd
    · cases hd
  | _ => simp [dataC] at hd

def optInt (s : St) (x : Option Operand) : Option (Option Int) :=
  match x with
  | none => some none
  | some y => match evP s y with
    | some (.int _ k) => some (some k)
    | _ => none
def slice1 (P : Program) (s : St) (t : TypeId) (x : Operand) (lo hi mx : Option Operand) : Option Eff :=
  match ti P t, evO s x, optInt s lo, optInt s hi, optInt s mx with
  | some ⟨.sl e, _, _, _⟩, some (.x (.one c)), some l, some h, some m => match ti P e, dataC s.hp c with
    | some j, some (.sl sz es) =>
      if 0 ≤ l.getD 0 ∧ l.getD 0 ≤ h.getD es.length ∧ h.getD es.length ≤ es.length ∧ h.getD es.length ≤ m.getD es.length ∧ m.getD es.length ≤ es.length ∧ (m.isSome = true → h.isSome = true) ∧ sz = j.size then
        some { val := some (one (cutC es sz (l.getD 0).toNat ((h.getD es.length).toNat - (l.getD 0).toNat) c)) } else none
    | _, _ => none
  | _, _, _, _, _ => none
theorem bound_run (h : Rel S0 w0 N s a w ι) {x : Option Operand} {k : Option Int} (hx : optInt s x = some k) : (x = none ∧ k = none) ∨ ∃ y kk n, x = some y ∧ k = some n ∧ a.eval y = .int kk n := by
  cases x with
  | none => simp only [optInt, Option.some.injEq] at hx; exact .inl ⟨rfl, hx.symm⟩
  | some y =>
    simp only [optInt] at hx
    split at hx
    · rename_i kk n hy
      cases hx
      exact .inr ⟨y, kk, n, rfl, rfl, h.evP hy⟩
    · cases hx
theorem sb_run {len cap : Nat} (w : World) (kl kh km : IntKind) (l h m : Option Int) (c1 : 0 ≤ l.getD 0) (c2 : l.getD 0 ≤ h.getD len) (c3 : h.getD len ≤ len) (c4 : h.getD len ≤ m.getD len) (c5 : m.getD len ≤ len) (c6 : m.isSome = true → h.isSome = true) (hc : len ≤ cap) :
    (Instr.sliceBounds true len cap (l.map (.int kl)) (h.map (.int kh)) (m.map (.int km))).run P w = .ok ((l.getD 0).toNat, (h.getD len).toNat, (m.map Int.toNat).getD cap) w := by
  cases l <;> cases h <;> cases m <;> simp only [Option.getD_none, Option.getD_some, Option.map_none, Option.map_some] at c1 c2 c3 c4 c5 ⊢ <;> (try simp at c6) <;>
    simp [Instr.sliceBounds, run_sliceBound_if] <;> (repeat (split; rotate_left; · exfalso; omega)) <;> first | rfl | (intro hh; exfalso; have := hh (by omega); omega)
theorem good_slice (h : Rel S0 w0 N s a w ι) {t : TypeId} {x : Operand} {lo hi mx : Option Operand} {e : Eff} (ho : o.op = .slice t x lo hi mx) (he : slice1 P s t x lo hi mx = some e) : Good P S0 w0 N s a w seed o e := by
  unfold slice1 at he
  split at he
  · rename_i e0 _ _ _ c l hh m hi0 hx hl hhi hm
    split at he
    · rename_i j sz es hj hd
      split at he
      · rename_i hcond
        cases he
        obtain ⟨c1, c2, c3, c4, c5, c6, rfl⟩ := hcond
        have hsl := ti_slice hi0 rfl
        obtain ⟨A, cap, hv, hcap, hr⟩ := h.cutC (h.ev hx) hd
        have key : ∀ {x : Option Operand} {k : Option Int}, optInt s x = some k → ∃ kk, x.map a.eval = k.map (Value.int kk) := fun {x k} hx => by
          rcases bound_run h hx with ⟨rfl, rfl⟩ | ⟨y, kk, n, rfl, rfl, hy⟩
          · exact ⟨.i64, rfl⟩
          · exact ⟨kk, by simp [hy]⟩
        obtain ⟨kl, b1⟩ := key hl
        obtain ⟨kh, b2⟩ := key hhi
        obtain ⟨km, b3⟩ := key hm
        have hr' := hr (l.getD 0).toNat ((hh.getD es.length).toNat - (l.getD 0).toNat) ((m.map Int.toNat).getD cap) (by omega) (by cases m <;> simp at c4 c5 ⊢ <;> omega) (by cases m <;> simp at c5 ⊢; omega)
        refine good_pure h (v := _) ?_ hr'
        have hsb := sb_run (P := P) w kl kh km l hh m c1 c2 c3 c4 c5 c6 hcap
        simp only [execOp, ho, hv, b1, b2, b3, Instr.sliceAt, Sem.run_bind, run_underlying hsl, Result.andThen_ok, Instr.slice, hsb, ti_size hj, Sem.run_pure]
      · cases he
    · cases he
  · cases he

def len1 (P : Program) (s : St) (t : TypeId) (x : Operand) : Option Eff :=
  match ti P t, evO s x with
  | some ⟨.sl _, _, _, _⟩, some (.x (.one c)) => match dataC s.hp c with
    | some (.sl _ es) => some { val := some (vv (.int .i64 es.length)) }
    | some (.v (.slice none 0 0)) => some { val := some (vv (.int .i64 0)) }
    | _ => none
  | some ⟨.arr n _, _, _, _⟩, some _ => some { val := some (vv (.int .i64 n)) }
  | _, _ => none
theorem good_len (h : Rel S0 w0 N s a w ι) {x : Operand} {t : TypeId} {e : Eff} (ho : o.op = .call { callee := .builtin .len, args := #[x], argTypes := #[t] }) (he : len1 P s t x = some e) : Good P S0 w0 N s a w seed o e := by
  unfold len1 at he
  split at he
  · rename_i e0 _ _ _ c hi hx
    have hsl := ti_slice hi rfl
    split at he
    · rename_i sz es hd
      cases he
      refine good_val h ?_ rfl
      have hv : ∃ A cap, a.eval x = .slice A es.length cap := by
        rcases h.slOf (h.ev hx) hd with ⟨_, ⟨h1, h2⟩ | ⟨ad, cap, h1, _⟩⟩
        · subst h2; exact ⟨none, 0, h1⟩
        · exact ⟨some ad, cap, h1⟩
      obtain ⟨A, cap, hv⟩ := hv
      simp [execOp, ho, resolve, invoke, builtin, hv, Builtin.len_, run_underlying hsl, goInt]
    · rename_i hd
      cases he
      refine good_val h ?_ rfl
      have hv : a.eval x = .slice none 0 0 := by
        cases c with
        | d d =>
          simp only [dataC, Option.some.injEq] at hd
          subst hd
          exact plain_eq (h.ev hx) rfl
        | own b L => simp only [dataC] at hd; split at hd <;> (try split at hd) <;> simp at hd
        | view b lo n L => simp only [dataC] at hd; split at hd <;> (try split at hd) <;> simp at hd
        | _ => simp [dataC] at hd
      simp [execOp, ho, resolve, invoke, builtin, hv, Builtin.len_, run_underlying hsl, goInt]
    · cases he
  · rename_i n e0 _ _ _ av hi hx
    cases he
    refine good_val h ?_ rfl
    obtain ⟨jj, d, zz, _, hd, _, _, hxx, _⟩ := ti_info hi
    simp only [TI.mk.injEq] at hxx
    cases d <;> simp [tk] at hxx
    obtain ⟨⟨rfl, rfl⟩, _⟩ := hxx
    simp [execOp, ho, resolve, invoke, builtin, Builtin.len_, run_underlying hd, goInt]
  · cases he
end
end
end Go.Proofs.Ytmhnogmbpoeaeaa.Eng
namespace Go.Proofs.Ytmhnogmbpoeaeaa.Eng
set_option linter.all false
noncomputable section
open Go.RowKit

section
variable {P : Program} {S0 : Nat → Prop} {w0 : Base} {N : Nat → Prop} {s : St} {a : Act} {w : World} {ι : Nat → Option Nat} {seed : Nat} {o : Oper}

theorem gr_setRow {w : World} {g : Nat} {cur cur' : Array Value} {ty : TypeId} (hw : w.heap[g]? = some (.cells cur ty (0, 0))) (w0 : Base) (hg : w0.w.heap.size ≤ g) (h : Gr w0.w w) : Gr w0.w (w.setRow g cur') :=
  ⟨⟨h.below.os, h.below.tape, h.below.output, by simp; exact h.below.size, fun k hk => (setRow_other w g k cur' (by omega)).trans (h.below.block k hk)⟩, fun ad => by
    refine Eq.trans ?_ (h.marks ad)
    unfold World.frozen?
    by_cases he : ad.block = g
    · rw [he, setRow_heap w g cur cur' ty (0, 0) hw, hw]
    · rw [setRow_other w g ad.block cur' he]⟩

/-- Cells are written through a pointer. -/
def putAt (hp : List (Nat × Ob)) (new : List AC) : AC → Option (Nat × Ob)
  | .ptr b off => match lk hp b with
    | some (.box cs) => if off + new.length ≤ cs.length then some (b, .box (spl cs off new)) else none
    | _ => none
  | .eptr b i off L => match lk hp b, allD new with
    | some (.row sz es false), some nd => if es.length = L ∧ i < L ∧ off + nd.length ≤ sz ∧ (es.getD i []).length = sz then some (b, .row sz (es.set i (spl (es.getD i []) off nd)) false) else none
    | _, _ => none
  | _ => none
theorem Rel.putAt (h : Rel S0 w0 N s a w ι) {x : Value} {c : AC} (hx : RepC (env S0 N s w ι) x c) {new : List AC} {vs : List Value} (hv : All2 (RepC (env S0 N s w ι)) vs new) {b : Nat} {ob : Ob} (hp : putAt s.hp new c = some (b, ob)) :
    ∃ ad w', x = .pointer (some ad) ∧ (storeCells ad vs).run P w = .ok () w' ∧ Rel S0 w0 N { s with hp := (b, ob) :: s.hp } a w' ι := by
  have hone : ∀ v ∈ vs, v.oneCell' = true := by
    have key : ∀ {xs : List Value} {cs : List AC}, All2 (RepC (env S0 N s w ι)) xs cs → ∀ v ∈ xs, v.oneCell' = true := fun {xs cs} h => by
      induction h with
      | nil => simp
      | cons h _ ih => intro v hv; rcases List.mem_cons.1 hv with rfl | hv; exact h.one; exact ih v hv
    exact key hv
  have hlen := hv.length
  cases c with
  | ptr b' off =>
    simp only [Eng.putAt] at hp
    split at hp
    · rename_i l hb
      split at hp
      · rename_i hle
        simp only [Option.some.injEq, Prod.mk.injEq] at hp
        obtain ⟨rfl, rfl⟩ := hp
        obtain ⟨_, _, hx⟩ := hx
        obtain ⟨g, hg, rfl⟩ := hx l hb
        obtain ⟨hge, cur, ty, hh, hcc, hsh⟩ := h.block hb hg
        have hsz : cur.size = l.length := hsh
        have hst := run_storeCells_at P g off ty vs 0 cur w hh (by omega) hone
        simp only [Nat.add_zero] at hst
        refine ⟨_, _, rfl, hst, ?_⟩
        have hcl : cur.toList.length = l.length := by simpa using hsz
        refine h.rewrite hb hg rfl hh (setRow_heap w g cur _ ty (0, 0) hh) ?_ (fun k hk => setRow_other w g k _ hk) (by simp) (gr_setRow hh w0 hge h.gr) rfl ?_ ?_
        · have := spl_len (l := cur.toList) (m := vs) (o := off) (by omega)
          simp only [spl, Array.length_toList] at this
          simpa using this
        · intro k c hk
          simp only [Ob.cells] at hk
          rw [spl_get (by omega)] at hk
          have hsp := spl_get (l := cur.toList) (m := vs) (o := off) (by omega) k
          have hgoal : ((cur.toList.take off ++ vs ++ cur.toList.drop (off + vs.length)).toArray)[k]? = (spl cur.toList off vs)[k]? := by simp [spl]
          rw [hgoal, hsp]
          split at hk
          · rename_i h1
            rw [if_pos h1]
            obtain ⟨y, hy, hr⟩ := hcc k c hk
            exact ⟨y, by simpa using hy, hr⟩
          · rename_i h1
            rw [if_neg h1]
            rw [← hlen] at hk
            split at hk
            · rename_i h2
              rw [if_pos h2]
              obtain ⟨y, hy, hr⟩ := hv.get hk
              exact ⟨y, hy, hr⟩
            · rename_i h2
              rw [if_neg h2]
              obtain ⟨y, hy, hr⟩ := hcc k c hk
              exact ⟨y, by simpa using hy, hr⟩
        · exact spl_len (by omega)
      · cases hp
    · cases hp
  | eptr b' i off L =>
    simp only [Eng.putAt] at hp
    split at hp
    · rename_i sz es nd hb hnd
      split at hp
      · rename_i hle
        obtain ⟨hl, hi, hle, hel⟩ := hle
        simp only [Option.some.injEq, Prod.mk.injEq] at hp
        obtain ⟨rfl, rfl⟩ := hp
        obtain rfl := allD_eq hnd
        obtain ⟨_, _, hx⟩ := hx
        obtain ⟨_, hx⟩ := hx sz es false hb
        obtain ⟨g, hg, rfl⟩ := hx hl hi
        obtain ⟨hge, cur, ty, hh, hcc, hsh⟩ := h.block hb hg
        replace hsh : ∀ e ∈ es, e.length = sz := hsh.2
        rw [List.length_map] at hlen
        have hil : i < es.length := by omega
        have hflat : (es.set i (spl (es.getD i []) off nd)).flatten = spl es.flatten (i * sz + off) nd := by
          have hsl : (spl (es.getD i []) off nd).length = sz := by rw [spl_len (by omega)]; exact hel
          rw [flat_set hsh hil hsl]
          apply List.ext_getElem?
          intro k
          have hfl := flat_len hsh
          have hmul : i * sz + sz ≤ es.length * sz := by have := Nat.mul_le_mul_right sz (show i + 1 ≤ es.length by omega); rw [Nat.add_mul] at this; omega
          have hA := spl_get (l := es.flatten) (m := spl (es.getD i []) off nd) (o := i * sz) (by rw [hsl]; omega) k
          have hB := spl_get (l := es.flatten) (m := nd) (o := i * sz + off) (by omega) k
          rw [hA, hB, hsl]
          by_cases h1 : k < i * sz
          · rw [if_pos h1, if_pos (by omega)]
          · rw [if_neg h1]
            by_cases h2 : k < i * sz + sz
            · rw [if_pos h2, spl_get (by omega)]
              have hget : ∀ q, q < sz → es.flatten[i * sz + q]? = (es.getD i [])[q]? := fun q hq => by
                rw [List.getElem?_eq_getElem (show q < (es.getD i []).length by omega)]
                exact flat_get hsh (getD_some hil) (List.getElem?_eq_getElem _)
              have hk2 := hget (k - i * sz) (by omega)
              rw [show i * sz + (k - i * sz) = k by omega] at hk2
              by_cases h3 : k - i * sz < off
              · rw [if_pos h3, if_pos (show k < i * sz + off by omega), hk2]
              · rw [if_neg h3, if_neg (show ¬ k < i * sz + off by omega)]
                by_cases h4 : k - i * sz < off + nd.length
                · rw [if_pos h4, if_pos (show k < i * sz + off + nd.length by omega)]; congr 1; omega
                · rw [if_neg h4, if_neg (show ¬ k < i * sz + off + nd.length by omega), hk2]
            · rw [if_neg h2, if_neg (show ¬ k < i * sz + off by omega), if_neg (show ¬ k < i * sz + off + nd.length by omega)]
        have hcsz : i * sz + off + vs.length ≤ cur.size := by
          have hmul : i * sz + sz ≤ es.length * sz := by have := Nat.mul_le_mul_right sz (show i + 1 ≤ es.length by omega); rw [Nat.add_mul] at this; omega
          have hfl := flat_len hsh
          by_cases h0 : es.flatten.length = 0
          · have : sz = 0 := by
              rcases Nat.eq_zero_or_pos sz with h' | h'
              · exact h'
              · have := Nat.mul_pos (show 0 < es.length by omega) h'; omega
            omega
          · obtain ⟨y, hy, _⟩ := hcc (es.flatten.length - 1) (.d es.flatten[es.flatten.length - 1]) (by
              show (es.flatten.map AC.d)[_]? = _
              rw [List.getElem?_map, List.getElem?_eq_getElem (by omega)]; rfl)
            have := (Array.getElem?_eq_some_iff.1 hy).1
            omega
        have hst := run_storeCells_at P g (i * sz + off) ty vs 0 cur w hh (by omega) hone
        simp only [Nat.add_zero] at hst
        refine ⟨_, _, rfl, hst, ?_⟩
        refine h.rewrite hb hg rfl hh (setRow_heap w g cur _ ty (0, 0) hh) ?_ (fun k hk => setRow_other w g k _ hk) (by simp) (gr_setRow hh w0 hge h.gr) rfl ?_ ?_
        · have := spl_len (l := cur.toList) (m := vs) (o := i * sz + off) (by simpa using hcsz)
          simp only [spl, Array.length_toList] at this
          simpa using this
        · intro k c hk
          have hk' : ((es.set i (spl (es.getD i []) off nd)).flatten.map AC.d)[k]? = some c := hk
          rw [hflat, List.getElem?_map] at hk'
          obtain ⟨d, hd, rfl⟩ := Option.map_eq_some_iff.1 hk'
          have hfit : i * sz + off + nd.length ≤ es.flatten.length := by
            have hmul : i * sz + sz ≤ es.length * sz := by have := Nat.mul_le_mul_right sz (show i + 1 ≤ es.length by omega); rw [Nat.add_mul] at this; omega
            have hfl := flat_len hsh
            omega
          rw [spl_get hfit] at hd
          have hsp := spl_get (l := cur.toList) (m := vs) (o := i * sz + off) (by simpa using hcsz) k
          have hgoal : ((cur.toList.take (i * sz + off) ++ vs ++ cur.toList.drop (i * sz + off + vs.length)).toArray)[k]? = (spl cur.toList (i * sz + off) vs)[k]? := by simp [spl]
          rw [hgoal, hsp, hlen]
          have hold : ∀ {d}, es.flatten[k]? = some d → ∃ y, cur[k]? = some y ∧ RepC (env S0 N s w ι) y (.d d) := fun {d} hd => hcc k (.d d) (by show (es.flatten.map AC.d)[k]? = _; rw [List.getElem?_map, hd]; rfl)
          split at hd
          · rename_i h1
            rw [if_pos h1]
            obtain ⟨y, hy, hr⟩ := hold hd
            exact ⟨y, by simpa using hy, hr⟩
          · rename_i h1
            rw [if_neg h1]
            split at hd
            · rename_i h2
              rw [if_pos h2]
              obtain ⟨y, hy, hr⟩ := hv.get (k := k - (i * sz + off)) (b := .d d) (by rw [List.getElem?_map, hd]; rfl)
              exact ⟨y, hy, hr⟩
            · rename_i h2
              rw [if_neg h2]
              obtain ⟨y, hy, hr⟩ := hold hd
              exact ⟨y, by simpa using hy, hr⟩
        · refine ⟨rfl, by simp, fun e he => ?_⟩
          rcases List.mem_or_eq_of_mem_set he with h' | rfl
          · exact hsh e h'
          · rw [spl_len (by omega)]; exact hel
      · cases hp
    · cases hp
  | _ => simp [Eng.putAt] at hp

def isNil : Operand → Bool
  | .const (.slice none 0 0) => true
  | _ => false
theorem isNil_eq {x : Operand} (h : isNil x = true) : x = .const (.slice none 0 0) := by
  cases x with
  | const v =>
    cases v with
    | slice p n c => cases p <;> cases n <;> cases c <;> first | rfl | simp [isNil] at h
    | _ => simp [isNil] at h
  | _ => simp [isNil] at h
theorem nil_rep {E : Env} {b : Nat} {sz : Nat} {fz : Bool} (hN : E.N b) (hi : E.ι b = none) (hH : E.H b = some (.row sz [] fz)) : RepC E nilS (.own b 0) :=
  ⟨hN, rfl, fun sz1 es1 fz1 hb => by
    have := hH.symm.trans hb
    cases this
    exact ⟨Nat.le_refl _, fun _ => .inl ⟨hi, rfl⟩⟩⟩
theorem good_nil (h : Rel S0 w0 N s a w ι) (hid : ∀ k, k < 1 → ¬ N (seed + k)) {x : Operand} (ho : o.op = .assign x) (hx : isNil x = true) :
    Good P S0 w0 N s a w seed o { val := some (one (.own seed 0)), ups := [(seed, .row 0 [] false)], cnt := 1 } := by
  obtain rfl := isNil_eq hx
  have h1 := h.virt (id := seed) (nx' := seed + 1) (by simpa using hid 0 (by omega)) 0 false
  have hN : ∀ b, With N seed b → Plus N seed 1 b := fun b hb => hb.imp id (fun e => by omega)
  refine ⟨nilS, w, _, .inl ?_, h1.weakN (nx' := seed + 1) hN, fun y hy => ?_⟩
  · simp [execOp, ho, Act.eval, nilS]
  · cases hy
    refine nil_rep (.inr ⟨Nat.le_refl _, by show seed < seed + 1; omega⟩) (upd_same _ _ _) (sz := 0) (fz := false) ?_
    simp [env, lk_nil, lk_cons]

def store1 (P : Program) (s : St) (seed : Nat) (t : TypeId) (x y : Operand) : Option Eff :=
  match evO s x, ti P t with
  | some (.x (.one c)), some i =>
    if isNil y then
      if i.size = 1 then (putAt ((seed, .row 0 [] false) :: s.hp) [.own seed 0] c).map fun u => { val := none, ups := [u, (seed, .row 0 [] false)], cnt := 1 } else none
    else match (evO s y).bind cellsOf with
      | some new => if new.length = i.size then (putAt s.hp new c).map fun u => { val := none, ups := [u] } else none
      | none => none
  | _, _ => none
theorem good_store (h : Rel S0 w0 N s a w ι) (hid : ∀ k, k < 1 → ¬ N (seed + k)) {t : TypeId} {x y : Operand} {e : Eff} (ho : o.op = .store t x y) (he : store1 P s seed t x y = some e) : Good P S0 w0 N s a w seed o e := by
  unfold store1 at he
  split at he
  · rename_i c i hx hi
    split at he
    · rename_i hn
      obtain rfl := isNil_eq hn
      split at he
      · rename_i hsz
        obtain ⟨⟨b, ob⟩, hu, rfl⟩ := Option.map_eq_some_iff.1 he
        have h1 := h.virt (id := seed) (nx' := seed + 1) (by simpa using hid 0 (by omega)) 0 false
        have hN : ∀ b, With N seed b → Plus N seed 1 b := fun b hb => hb.imp id (fun e => by omega)
        have h2 := h1.weakN (nx' := seed + 1) hN
        have hxr : RepV (env S0 (Plus N seed 1) { s with hp := (seed, .row 0 [] false) :: s.hp, nx := seed + 1 } w (upd ι seed none)) (a.eval x) (.x (.one c)) := by
          refine h2.ev (o := x) ?_
          cases x <;> exact hx
        have hnr : RepC (env S0 (Plus N seed 1) { s with hp := (seed, .row 0 [] false) :: s.hp, nx := seed + 1 } w (upd ι seed none)) nilS (.own seed 0) := by
          refine nil_rep (.inr ⟨Nat.le_refl _, by show seed < seed + 1; omega⟩) (upd_same _ _ _) (sz := 0) (fz := false) ?_
          simp [env, lk_nil, lk_cons]
        obtain ⟨ad, w', hp, hst, hr⟩ := h2.putAt hxr (.cons hnr .nil) hu
        refine ⟨undef, w', _, .inr ⟨rfl, ?_⟩, hr, fun y hy => by cases hy⟩
        have hp' : a.eval x = .pointer (some ad) := hp
        have he' : a.eval (.const (.slice none 0 0)) = nilS := rfl
        have hc' : nilS.cells = #[nilS] := rfl
        have hst' : (storeCells ad [nilS]).run P w = .ok () w' := hst
        simp only [execOp, ho, hp', he', Instr.storeAt, Instr.sureAddr, storeVar, Sem.run_bind, Sem.run_pure, Result.andThen_ok, ti_size hi, hsz, hc']
        simp [hst']
      · cases he
    · split at he
      · rename_i new hnew
        split at he
        · rename_i hsz
          obtain ⟨⟨b, ob⟩, hu, rfl⟩ := Option.map_eq_some_iff.1 he
          obtain ⟨v, hv, hcv⟩ := Option.bind_eq_some_iff.1 hnew
          obtain ⟨h1, _⟩ := cellsOf_rep (h.ev hv) hcv
          obtain ⟨ad, w', hp, hst, hr⟩ := h.putAt (h.ev hx) h1 hu
          refine ⟨undef, w', ι, .inr ⟨rfl, ?_⟩, hr.weakN (fun _ h => .inl h), fun y hy => by cases hy⟩
          have hl := h1.length
          simp at hl
          simp only [execOp, ho, hp, Instr.storeAt, Instr.sureAddr, storeVar, Sem.run_bind, Sem.run_pure, Result.andThen_ok, ti_size hi]
          rw [if_neg (by omega), hst]
          rfl
        · cases he
      · cases he
  · cases he
end
end
end Go.Proofs.Ytmhnogmbpoeaeaa.Eng
namespace Go.Proofs.Ytmhnogmbpoeaeaa.Eng
set_option linter.all false
noncomputable section
open Go.RowKit

section
variable {P : Program} {S0 : Nat → Prop} {w0 : Base} {N : Nat → Prop} {s : St} {a : Act} {w : World} {ι : Nat → Option Nat} {seed : Nat} {o : Oper}

/-- An object laid again as it is. -/
theorem Rel.same (h : Rel S0 w0 N s a w ι) {b : Nat} {ob : Ob} (hb : lk s.hp b = some ob) : Rel S0 w0 N { s with hp := (b, ob) :: s.hp } a w ι := by
  have e : lk ((b, ob) :: s.hp) = lk s.hp := by
    funext k
    rw [lk_cons]
    split
    · rename_i hk; subst hk; exact hb.symm
    · rfl
  have ee : env S0 N { s with hp := (b, ob) :: s.hp } w ι = env S0 N s w ι := by unfold env; rw [e]
  refine ⟨fun t x ht => ?_, fun b' o' hb' => ?_, fun b1 b2 o1 o2 g h1 h2 => ?_, h.gr, h.nt, h.df, by rw [ee]; exact h.st⟩
  · rw [ee]; exact h.fr t x ht
  · rw [ee]; rw [show lk ({ s with hp := (b, ob) :: s.hp } : St).hp = lk s.hp from e] at hb'; exact h.ob b' o' hb'
  · rw [show lk ({ s with hp := (b, ob) :: s.hp } : St).hp = lk s.hp from e] at h1 h2; exact h.inj b1 b2 o1 o2 g h1 h2

/-- An empty row that is nil has any width. -/
theorem Rel.resz (h : Rel S0 w0 N s a w ι) {b sz sz' : Nat} {fz : Bool} (hb : lk s.hp b = some (.row sz [] fz)) (hn : ι b = none) : Rel S0 w0 N { s with hp := (b, .row sz' [] fz) :: s.hp } a w ι ∧
    Step (env S0 N s w ι) (env S0 N { s with hp := (b, .row sz' [] fz) :: s.hp } w ι) := by
  have hs : Step (env S0 N s w ι) (env S0 N { s with hp := (b, .row sz' [] fz) :: s.hp } w ι) := by
    refine ⟨fun k hk => ?_, fun _ _ => rfl, fun _ h => h, fun b1 sz1 es1 fz1 hN hb1 => ?_, fun b1 cs hN hb1 => ?_, fun b1 kd kv hN hb1 => ?_⟩
    · obtain ⟨h1, h2, h3⟩ := hk
      refine ⟨h1, h2, fun b' o' hb' hm => ?_⟩
      replace hb' : lk ((b, _) :: s.hp) b' = some o' := hb'
      by_cases he : b = b'
      · subst he
        show ι b ≠ some k
        rw [hn]; simp
      · rw [lk_cons, if_neg he] at hb'
        exact h3 b' o' hb' hm
    · replace hb1 : lk ((b, _) :: s.hp) b1 = some (.row sz1 es1 fz1) := hb1
      by_cases he : b = b1
      · subst he
        rw [lk_cons, if_pos rfl] at hb1
        cases hb1
        exact ⟨sz, [], fz, hb, .inl ⟨.inl hn, rfl, rfl, fun g _ cur ty hh => ⟨cur, hh, rfl⟩⟩⟩
      · rw [lk_cons, if_neg he] at hb1
        exact ⟨sz1, es1, fz1, hb1, .inl ⟨.inr rfl, rfl, rfl, fun g _ cur ty hh => ⟨cur, hh, rfl⟩⟩⟩
    · replace hb1 : lk ((b, _) :: s.hp) b1 = some (.box cs) := hb1
      by_cases he : b = b1
      · subst he
        rw [lk_cons, if_pos rfl] at hb1
        cases hb1
      · rw [lk_cons, if_neg he] at hb1
        exact ⟨cs, hb1, rfl⟩
    · replace hb1 : lk ((b, _) :: s.hp) b1 = some (.mp kd kv) := hb1
      by_cases he : b = b1
      · subst he
        rw [lk_cons, if_pos rfl] at hb1
        cases hb1
      · rw [lk_cons, if_neg he] at hb1
        exact ⟨kv, hb1, rfl⟩
  refine ⟨h.change (nx' := s.nx) hs h.gr (fun b1 o1 hb1 => ?_) (fun b1 b2 o1 o2 g h1 h2 e1 e2 => ?_), hs⟩
  · by_cases he : b = b1
    · subst he
      rw [lk_cons, if_pos rfl] at hb1
      cases hb1
      refine ⟨(h.ob b _ hb).1, ?_⟩
      unfold RepO
      have hi : (env S0 N { s with hp := (b, .row sz' [] fz) :: s.hp, nx := s.nx } w ι).ι b = none := hn
      rw [hi]
      exact ⟨_, _, rfl⟩
    · rw [lk_cons, if_neg he] at hb1
      obtain ⟨hN, hr⟩ := h.ob b1 o1 hb1
      exact ⟨hN, RepO.keep hs rfl (fun _ _ => rfl) hr⟩
  · have pick : ∀ {x o1}, lk ((b, Ob.row sz' [] fz) :: s.hp) x = some o1 → ∃ o2, lk s.hp x = some o2 := fun {x o1} hx => by
      by_cases he : b = x
      · subst he; exact ⟨_, hb⟩
      · rw [lk_cons, if_neg he] at hx; exact ⟨o1, hx⟩
    obtain ⟨_, k1⟩ := pick h1
    obtain ⟨_, k2⟩ := pick h2
    exact h.inj b1 b2 _ _ g k1 k2 e1 e2

def elemsC (hp : List (Nat × Ob)) (c : AC) : Option (Nat × List (List D)) :=
  match dataC hp c with
  | some (.sl sz es) => some (sz, es)
  | some (.v (.slice none 0 0)) => some (0, [])
  | _ => none
theorem Rel.elems (h : Rel S0 w0 N s a w ι) {x : Value} {c : AC} (hx : RepC (env S0 N s w ι) x c) {sz : Nat} {es : List (List D)} (hd : elemsC s.hp c = some (sz, es)) :
    SlOf (Shows (Tr S0 w ι (lk s.hp)) w) w x sz es := by
  unfold elemsC at hd
  split at hd
  · rename_i sz' es' hd'
    simp only [Option.some.injEq, Prod.mk.injEq] at hd
    obtain ⟨rfl, rfl⟩ := hd
    exact h.slOf hx hd'
  · rename_i hd'
    simp only [Option.some.injEq, Prod.mk.injEq] at hd
    obtain ⟨rfl, rfl⟩ := hd
    refine ⟨by simp, .inl ⟨?_, rfl⟩⟩
    cases c with
    | d c =>
      simp only [dataC, Option.some.injEq] at hd'
      subst hd'
      exact plainC_eq hx rfl
    | own b L => simp only [dataC] at hd'; split at hd' <;> (try split at hd') <;> simp at hd'
    | view b lo n L => simp only [dataC] at hd'; split at hd' <;> (try split at hd') <;> simp at hd'
    | _ => simp [dataC] at hd'
  · cases hd
/-- The cells of a slice, as values. -/
theorem slOf_cells {R : Value → D → Prop} {w : World} {x : Value} {sz : Nat} {es : List (List D)} (h : SlOf R w x sz es) :
    ∃ news : List Value, Source w x es.length sz news ∧ All2 R news es.flatten := by
  obtain ⟨hw, ⟨rfl, rfl⟩ | ⟨ad, cap, rfl, hc, hm, hk⟩⟩ := h
  · exact ⟨[], ⟨by simp, .inl ⟨rfl, rfl⟩⟩, .nil⟩
  · refine ⟨(List.range es.flatten.length).map fun k => (w.cell? (ad.add k)).getD undef, ⟨by simp only [List.length_map, List.length_range]; exact flat_len hw, .inr ⟨ad, cap, rfl, fun j u hu => ?_⟩⟩, All2.of_get (by simp) fun k y c hy hc => ?_⟩
    · simp only [List.getElem?_map, Option.map_eq_some_iff] at hu
      obtain ⟨k, hk1, rfl⟩ := hu
      obtain ⟨hlt, hk2⟩ := List.getElem?_eq_some_iff.1 hk1
      simp only [List.getElem_range] at hk2
      rw [List.length_range] at hlt
      subst hk2
      obtain ⟨y, hy, _⟩ := hk j es.flatten[j] (List.getElem?_eq_getElem hlt)
      rw [hy]; rfl
    · obtain ⟨y', hy', hr⟩ := hk k c hc
      have hlt : k < es.flatten.length := (List.getElem?_eq_some_iff.1 hc).1
      simp only [List.getElem?_map, List.getElem?_range hlt, Option.map_some, Option.some.injEq, hy', Option.getD_some] at hy
      subst hy
      exact hr
theorem All2.one {S : Nat → Prop} {w : World} {xs : List Value} {ds : List D} (h : All2 (Shows S w) xs ds) : ∀ v ∈ xs, v.oneCell' = true := by
  induction h with
  | nil => simp
  | cons h _ ih => intro v hv; rcases List.mem_cons.1 hv with rfl | hv; exact h.one; exact ih v hv

def app1 (P : Program) (s : St) (seed : Nat) (t t' : TypeId) (x y : Operand) : Option Eff :=
  match ti P t, evO s x, evO s y with
  | some ⟨.sl e, _, _, _⟩, some (.x (.one c)), some (.x (.one c2)) => match ti P e, elemsC s.hp c2 with
    | some j, some (sz2, es2) =>
      if t = t' ∧ 0 < j.size ∧ (sz2 = j.size ∨ es2.length = 0) then match c with
        | .own b L => match lk s.hp b with
          | some (.row sz es false) => if es.length = L ∧ (sz = j.size ∨ sz = 0) ∧ L + es2.length ≤ maxLen ∧ (L + es2.length) * j.bytes ≤ 140737488355328 then
              some { val := some (one (.own b (L + es2.length))), ups := [(b, .row j.size (es ++ es2) false)] } else none
          | _ => none
        | .d (.v (.slice none 0 0)) => if es2.length ≤ maxLen ∧ es2.length * j.bytes ≤ 140737488355328 then
              some { val := some (one (.own seed es2.length)), ups := [(seed, .row j.size es2 false)], cnt := 1 } else none
        | _ => none
      else none
    | _, _ => none
  | _, _, _ => none
/-- The append itself, onto a row of the call's own. -/
theorem Rel.app (h : Rel S0 w0 N s a w ι) {t ty e : TypeId} {j : TI} (hsl : P.underlying t = some (.slice e)) (hj : ti P e = some j) (hjs : 0 < j.size) {x y : Value} {b L sz sz2 : Nat} {es es2 : List (List D)}
    (hx : RepC (env S0 N s w ι) x (.own b L)) (hb : lk s.hp b = some (.row sz es false)) (hl : es.length = L) (hsz : sz = j.size ∨ sz = 0) (hy : SlOf (Shows (Tr S0 w ι (lk s.hp)) w) w y sz2 es2) (hs2 : sz2 = j.size ∨ es2.length = 0)
    (h63 : L + es2.length ≤ maxLen) (hbytes : (L + es2.length) * j.bytes ≤ 140737488355328) :
    ∃ v w' ι', (Builtin.append_ #[t, t] ty #[x, y]).run P w = .ok v w' ∧ Rel S0 w0 N { s with hp := (b, .row j.size (es ++ es2) false) :: s.hp } a w' ι' ∧
      RepC (env S0 N { s with hp := (b, .row j.size (es ++ es2) false) :: s.hp } w' ι') v (.own b (L + es2.length)) := by
  obtain ⟨i, d, z, hi, hd, hz, hzs, rfl, hone⟩ := ti_info hj
  simp only at hjs hsz hs2 hbytes ⊢
  have hxx := hx
  obtain ⟨hN, _, hx⟩ := hx
  obtain ⟨_, hx⟩ := hx sz es false hb
  have hxc := hx hl
  obtain ⟨news, hsrc, hnews⟩ := slOf_cells hy
  have hw2 : ∀ e ∈ es2, e.length = i.size := fun e he => by
    rcases hs2 with h' | h'
    · rw [← h']; exact hy.1 e he
    · have := List.length_pos_of_mem he; omega
  have hsrc' : Source w y es2.length i.size news := by
    refine ⟨?_, hsrc.2⟩
    rw [hsrc.1]
    rcases hs2 with h' | h'
    · rw [h']
    · rw [h']; simp
  -- the base, as run_app wants it
  have hbase : ∃ olds : List Value, ((x = nilS ∧ L = 0 ∧ olds = []) ∨ ∃ g cap cur bt, x = .slice (some ⟨g, 0, none⟩) L cap ∧ w.heap[g]? = some (.cells cur bt (0, 0)) ∧ L ≤ cap ∧ cap ≤ maxLen ∧ cur.size = cap * i.size ∧ olds = cur.toList.take (L * i.size)) ∧ olds.length = es.flatten.length ∧ All2 (Shows (Tr S0 w ι (lk s.hp)) w) olds es.flatten := by
    rcases hxc with ⟨hn, rfl⟩ | ⟨g, cap, hg, rfl, hc, hm, cur, ty', hh, hs⟩
    · have h2 := (h.ob b _ hb).2
      unfold RepO at h2
      have hg' : (env S0 N s w ι).ι b = none := hn
      rw [hg'] at h2
      obtain ⟨sz', fz', he⟩ := h2
      cases he
      exact ⟨[], .inl ⟨rfl, by simp at hl; omega, rfl⟩, rfl, .nil⟩
    · obtain ⟨_, cur', ty'', hh', hcc, hsh⟩ := h.block hb hg
      have : cur = cur' ∧ ty' = ty'' := by have := hh.symm.trans hh'; simpa [env] using this
      obtain ⟨rfl, rfl⟩ := this
      have hs0 : 0 < sz := hsh.1
      have hwid : ∀ e ∈ es, e.length = sz := hsh.2
      obtain rfl : sz = i.size := by rcases hsz with h' | h'; exact h'; omega
      have hfl := flat_len hwid
      have hle : L * i.size ≤ cap * i.size := Nat.mul_le_mul_right _ hc
      refine ⟨_, .inr ⟨g, cap, cur, ty', rfl, hh, hc, hm, hs, rfl⟩, ?_, All2.of_get ?_ fun k y c hy hc => ?_⟩
      · rw [List.length_take, Array.length_toList, hfl, hl, hs]; omega
      · rw [List.length_take, Array.length_toList, hfl, hl, hs]; omega
      · obtain ⟨y', hy', hr⟩ := hcc k (.d c) (by show (es.flatten.map AC.d)[k]? = _; rw [List.getElem?_map, hc]; rfl)
        rw [List.getElem?_take] at hy
        split at hy
        · have : y = y' := by
            have : cur.toList[k]? = cur[k]? := by simp
            rw [this, hy'] at hy
            exact (Option.some.inj hy).symm
          rw [this]; exact hr
        · cases hy
  obtain ⟨olds, hv, hol, hoa⟩ := hbase
  obtain ⟨v', w', hrun, hcase⟩ := run_app (P := P) w t ty e i z hsl hi hz hzs x L olds y es2.length news hsrc' hnews.one h63 hbytes hv
  have hfl2 := flat_len hw2
  have hnl := hnews.length
  rcases hcase with ⟨hm0, e1, e2⟩ | ⟨g, cap, cur, bt, hpos, rfl, hg, hcm, hcs, hroom, rfl, rfl⟩ | ⟨cap, rest, hpos, hroom, hcm, rfl, rfl, hlen⟩
  · subst e1 e2
    obtain rfl : es2 = [] := List.eq_nil_of_length_eq_zero hm0
    simp only [List.append_nil, List.length_nil, Nat.add_zero]
    have kept : ∀ {sz}, lk s.hp b = some (.row sz es false) → Rel S0 w0 N { s with hp := (b, .row sz es false) :: s.hp } a w' ι ∧ RepC (env S0 N { s with hp := (b, .row sz es false) :: s.hp } w' ι) v' (.own b L) := fun {sz} hb => by
      have h1 := h.same hb
      have e : lk ((b, Ob.row sz es false) :: s.hp) = lk s.hp := by
        funext k
        rw [lk_cons]
        split
        · rename_i hk; subst hk; exact hb.symm
        · rfl
      have ee : env S0 N { s with hp := (b, .row sz es false) :: s.hp } w' ι = env S0 N s w' ι := by unfold env; rw [e]
      exact ⟨h1, by rw [ee]; exact hxx⟩
    rcases hsz with h' | h'
    · subst h'
      obtain ⟨q1, q2⟩ := kept hb
      exact ⟨_, _, ι, hrun, q1, q2⟩
    · subst h'
      rcases hxc with ⟨hn, hq⟩ | ⟨g, cap, hg, _⟩
      · have h2 := (h.ob b _ hb).2
        unfold RepO at h2
        have hg' : (env S0 N s w' ι).ι b = none := hn
        rw [hg'] at h2
        obtain ⟨_, _, he⟩ := h2
        cases he
        obtain ⟨q1, q2⟩ := h.resz (sz' := i.size) hb hn
        exact ⟨_, _, ι, hrun, q1, hxx.keep q2⟩
      · obtain ⟨_, _, _, _, _, hsh⟩ := h.block hb hg
        exact absurd hsh.1 (by omega)
  · have hne : ¬ es2.length = 0 := by omega
    have hwall : ∀ e ∈ es ++ es2, e.length = i.size := fun e he => by
      rcases List.mem_append.1 he with he | he
      · rcases hxc with ⟨_, h'⟩ | ⟨g1, cap1, hg1, _⟩
        · cases h'
        · obtain ⟨_, _, _, _, _, hsh⟩ := h.block hb hg1
          rcases hsz with h' | h'
          · rw [← h']; exact hsh.2 e he
          · have := hsh.1; omega
      · exact hw2 e he
    rcases hxc with ⟨_, h'⟩ | ⟨g1, cap1, hg1, h', _⟩
    · cases h'
    · simp only [Value.slice.injEq, Option.some.injEq, Addr.mk.injEq, and_true, true_and] at h'
      obtain ⟨rfl, rfl⟩ := h'
      obtain ⟨hge, cur1, ty1, hh1, _, _⟩ := h.block hb hg1
      have hall := hoa.append hnews
      rw [← List.flatten_append] at hall
      rcases hv with ⟨h', _⟩ | ⟨g2, cap2, cur2, bt2, h', hh2, _, _, _, ho2⟩
      · cases h'
      · simp only [Value.slice.injEq, Option.some.injEq, Addr.mk.injEq, and_true, true_and] at h'
        obtain ⟨rfl, rfl⟩ := h'
        have hcc2 := hg.symm.trans hh2
        simp only [Option.some.injEq, Obj.cells.injEq, and_true] at hcc2
        obtain ⟨rfl, rfl⟩ := hcc2
        have htl : L * i.size + news.length ≤ cur.size := by
          rw [hsrc'.1, hcs, ← Nat.add_mul]; exact Nat.mul_le_mul_right _ hroom
        have hturn := h.turn (g' := g) (sz' := i.size) (es' := es ++ es2) hb (by rw [List.length_append]; omega) (w' := w.setRow g (cur.toList.take (L * i.size) ++ news ++ cur.toList.drop (L * i.size + news.length)).toArray)
          (ty := bt) (.inl hg1) (setRow_heap w g cur _ bt (0, 0) hg) (fun k _ hk => setRow_other w g k _ hk) (by simp) (gr_setRow hg w0 hge h.gr) ⟨hjs, hwall⟩ (fun k c hk => by
            obtain ⟨y', hy', hr⟩ := hall.get hk
            refine ⟨y', ?_, hr⟩
            rw [List.getElem?_toArray, ← ho2, List.getElem?_append_left]
            · exact hy'
            · exact (List.getElem?_eq_some_iff.1 hy').1)
        refine ⟨_, _, _, hrun, hturn, ?_⟩
        refine own_rep (sz := i.size) (es := es ++ es2) (fz := false) hN (upd_same _ _ _) (by simp [env, lk_nil, lk_cons]) (by rw [List.length_append]; omega) hroom hcm (setRow_heap w g cur _ bt (0, 0) hg) ?_
        rw [← hcs]
        simp only [List.size_toArray, List.length_append, List.length_take, List.length_drop, Array.length_toList]
        omega
  · have hne : ¬ es2.length = 0 := by omega
    have hwall : ∀ e ∈ es ++ es2, e.length = i.size := fun e he => by
      rcases List.mem_append.1 he with he | he
      · rcases hxc with ⟨hn, h'⟩ | ⟨g1, cap1, hg1, _⟩
        · have h2 := (h.ob b _ hb).2
          unfold RepO at h2
          have hg' : (env S0 N s w ι).ι b = none := hn
          rw [hg'] at h2
          obtain ⟨sz', fz', he'⟩ := h2
          cases he'
          simp at he
        · obtain ⟨_, _, _, _, _, hsh⟩ := h.block hb hg1
          rcases hsz with h' | h'
          · rw [← h']; exact hsh.2 e he
          · have := hsh.1; omega
      · exact hw2 e he
    have hall := hoa.append hnews
    rw [← List.flatten_append] at hall
    have hturn := h.turn (g' := w.heap.size) (sz' := i.size) (es' := es ++ es2) hb (by rw [List.length_append]; omega) (w' := w.drew.alloc (.cells (olds ++ news ++ rest).toArray e))
      (ty := e) (.inr (Nat.le_refl _)) (heap_alloc_new w.drew _) (fun k hk _ => Below.heap_alloc w.drew _ k hk) (by simp) ((h.gr.drew).alloc _ _) ⟨hjs, hwall⟩ (fun k c hk => by
        obtain ⟨y', hy', hr⟩ := hall.get hk
        refine ⟨y', ?_, hr⟩
        rw [List.getElem?_toArray, List.getElem?_append_left]
        · exact hy'
        · exact (List.getElem?_eq_some_iff.1 hy').1)
    refine ⟨_, _, _, hrun, hturn, ?_⟩
    refine own_rep (sz := i.size) (es := es ++ es2) (fz := false) hN (upd_same _ _ _) (by simp [env, lk_nil, lk_cons]) (by rw [List.length_append]; omega) hroom hcm (heap_alloc_new w.drew _) ?_
    simpa using hlen
end
end
end Go.Proofs.Ytmhnogmbpoeaeaa.Eng
namespace Go.Proofs.Ytmhnogmbpoeaeaa.Eng
set_option linter.all false
noncomputable section
open Go.RowKit

section
variable {P : Program} {S0 : Nat → Prop} {w0 : Base} {N : Nat → Prop} {s : St} {a : Act} {w : World} {ι : Nat → Option Nat} {seed : Nat} {o : Oper}

theorem good_app (h : Rel S0 w0 N s a w ι) (hid : ∀ k, k < 1 → ¬ N (seed + k)) {t t' : TypeId} {x y : Operand} {e : Eff} (ho : o.op = .call { callee := .builtin .append, args := #[x, y], argTypes := #[t, t'] }) (he : app1 P s seed t t' x y = some e) : Good P S0 w0 N s a w seed o e := by
  unfold app1 at he
  split at he
  · rename_i e0 _ _ _ c c2 hi hx hy
    have hsl := ti_slice hi rfl
    split at he
    · rename_i j sz2 es2 hj hd2
      split at he
      · rename_i hcond
        obtain ⟨rfl, hjs, hs2⟩ := hcond
        have hyr := h.elems (h.ev hy) hd2
        split at he
        · rename_i b L
          split at he
          · rename_i sz es hb
            split at he
            · rename_i hc
              obtain ⟨hl, hsz, h63, hby⟩ := hc
              cases he
              obtain ⟨v, w', ι', hrun, hr, hrep⟩ := h.app (ty := o.type) hsl hj hjs (h.ev hx) hb hl hsz hyr hs2 h63 hby
              refine ⟨v, w', ι', .inl ?_, hr.weakN (fun _ h => .inl h), fun q hq => ?_⟩
              · simp [execOp, ho, resolve, invoke, builtin, hrun]
              · cases hq
                exact RepC.keep (E := env S0 N { s with hp := (b, .row j.size (es ++ es2) false) :: s.hp } w' ι') (E' := env S0 (Plus N seed 0) { s with hp := (b, .row j.size (es ++ es2) false) :: s.hp, nx := seed } w' ι') (Step.same rfl rfl rfl rfl (fun _ h => Or.inl h)) hrep
            · cases he
          · cases he
        · split at he
          · rename_i hc
            cases he
            have h1 := h.virt (id := seed) (nx' := seed + 1) (by simpa using hid 0 (by omega)) 0 false
            have hN : ∀ b, With N seed b → Plus N seed 1 b := fun b hb => hb.imp id (fun e => by omega)
            have h2 := h1.weakN (nx' := seed + 1) hN
            have hxn : a.eval x = nilS := plain_eq (h.ev hx) rfl
            have hst : Step (env S0 N s w ι) (env S0 (Plus N seed 1) { s with hp := (seed, .row 0 [] false) :: s.hp, nx := seed + 1 } w (upd ι seed none)) := by
              have hne : ∀ {b}, N b → b ≠ seed := fun hb e => (by simpa using hid 0 (by omega) : ¬ N seed) (e ▸ hb)
              refine ⟨fun k hk => ?_, fun _ _ => rfl, fun b hb => .inl hb, fun b sz es fz hN' hb => ?_, fun b cs hN' hb => ?_, fun b kd kv hN' hb => ?_⟩
              · obtain ⟨k1, k2, k3⟩ := hk
                refine ⟨k1, k2, fun b' o' hb' hm => ?_⟩
                replace hb' : lk ((seed, _) :: s.hp) b' = some o' := hb'
                show upd ι seed none b' ≠ some k
                by_cases he : b' = seed
                · subst he; rw [upd_same]; simp
                · rw [upd_other _ _ _ he]
                  rw [lk_cons, if_neg (Ne.symm he)] at hb'
                  exact k3 b' o' hb' hm
              · replace hb : lk ((seed, _) :: s.hp) b = some (.row sz es fz) := hb
                rw [lk_cons, if_neg (Ne.symm (hne hN'))] at hb
                exact ⟨sz, es, fz, hb, .inl ⟨.inr rfl, rfl, upd_other _ _ _ (hne hN'), fun g _ cur ty hh => ⟨cur, hh, rfl⟩⟩⟩
              · replace hb : lk ((seed, _) :: s.hp) b = some (.box cs) := hb
                rw [lk_cons, if_neg (Ne.symm (hne hN'))] at hb
                exact ⟨cs, hb, upd_other _ _ _ (hne hN')⟩
              · replace hb : lk ((seed, _) :: s.hp) b = some (.mp kd kv) := hb
                rw [lk_cons, if_neg (Ne.symm (hne hN'))] at hb
                exact ⟨kv, hb, upd_other _ _ _ (hne hN')⟩
            have hyr' : SlOf (Shows (Tr S0 w (upd ι seed none) (lk ((seed, .row 0 [] false) :: s.hp))) w) w (a.eval y) sz2 es2 := by
              obtain ⟨q1, q2⟩ := hyr
              refine ⟨q1, q2.imp id fun ⟨ad, cap, e1, e2, e3, e4⟩ => ⟨ad, cap, e1, e2, e3, fun k c hk => ?_⟩⟩
              obtain ⟨y', hy', hr⟩ := e4 k c hk
              exact ⟨y', hy', Shows.keep hst.S hst.c hr⟩
            have hnil : RepC (env S0 (Plus N seed 1) { s with hp := (seed, .row 0 [] false) :: s.hp, nx := seed + 1 } w (upd ι seed none)) (a.eval x) (.own seed 0) := by
              rw [hxn]
              refine nil_rep (.inr ⟨Nat.le_refl _, by show seed < seed + 1; omega⟩) (upd_same _ _ _) (sz := 0) (fz := false) ?_
              simp [env, lk_nil, lk_cons]
            obtain ⟨v, w', ι', hrun, hr, hrep⟩ := h2.app (ty := o.type) (es := []) (sz := 0) hsl hj hjs hnil (by simp [lk_nil, lk_cons]) rfl (.inr rfl) hyr' hs2 (by omega) (by simpa using hc.2)
            simp only [List.nil_append, Nat.zero_add] at hr hrep
            -- the object laid twice under one number reads as the last
            have e : lk ((seed, Ob.row j.size es2 false) :: (seed, .row 0 [] false) :: s.hp) = lk ((seed, Ob.row j.size es2 false) :: s.hp) := by
              funext k
              simp only [lk_cons]
              split <;> rfl
            refine ⟨v, w', ι', .inl ?_, ?_, fun q hq => ?_⟩
            · simp [execOp, ho, resolve, invoke, builtin, hrun]
            · have ee : env S0 (Plus N seed 1) { s with hp := (seed, .row j.size es2 false) :: (seed, .row 0 [] false) :: s.hp, nx := seed + 1 } w' ι' = env S0 (Plus N seed 1) { s with hp := (seed, .row j.size es2 false) :: s.hp, nx := seed + 1 } w' ι' := by unfold env; rw [e]
              refine ⟨fun t x ht => ?_, fun b o' hb' => ?_, fun b1 b2 o1 o2 g q1 q2 => ?_, hr.gr, hr.nt, hr.df, by have := hr.st; rw [ee] at this; exact this⟩
              · have := hr.fr t x ht; rw [ee] at this; exact this
              · have := hr.ob b o' (by rw [← hb']; exact congrFun e b); rw [ee] at this; exact this
              · exact hr.inj b1 b2 o1 o2 g (by rw [← q1]; exact congrFun e b1) (by rw [← q2]; exact congrFun e b2)
            · cases hq
              have ee : env S0 (Plus N seed 1) { s with hp := (seed, .row j.size es2 false) :: (seed, .row 0 [] false) :: s.hp, nx := seed + 1 } w' ι' = env S0 (Plus N seed 1) { s with hp := (seed, .row j.size es2 false) :: s.hp, nx := seed + 1 } w' ι' := by unfold env; rw [e]
              rw [ee] at hrep
              exact hrep
          · cases he
        · cases he
      · cases he
    · cases he
  · cases he

def cop1 (P : Program) (s : St) (t t' : TypeId) (x y : Operand) : Option Eff :=
  match ti P t, evO s x, evO s y with
  | some ⟨.sl e, _, _, _⟩, some (.x (.one c)), some (.x (.one c2)) => match ti P e, elemsC s.hp c2 with
    | some j, some (sz2, es2) =>
      if 0 < j.size ∧ (sz2 = j.size ∨ es2.length = 0) then match (match c with | .own b L => some (b, 0, L, L) | .view b lo n L => some (b, lo, n, L) | _ => none) with
        | some (b, lo, n, L) => match lk s.hp b with
          | some (.row sz es false) => if es.length = L ∧ lo + n ≤ L ∧ (sz = j.size ∨ es.length = 0) then
              some { val := some (vv (.int .i64 (min es2.length n : Nat))), ups := [(b, .row sz (spl es lo (es2.take n)) false)] } else none
          | _ => none
        | none => none
      else none
    | _, _ => none
  | _, _, _ => none
theorem good_cop (h : Rel S0 w0 N s a w ι) {t t' : TypeId} {x y : Operand} {e : Eff} (ho : o.op = .call { callee := .builtin .copy, args := #[x, y], argTypes := #[t, t'] }) (he : cop1 P s t t' x y = some e) : Good P S0 w0 N s a w seed o e := by
  unfold cop1 at he
  split at he
  · rename_i e0 _ _ _ c c2 hi hx hy
    have hsl := ti_slice hi rfl
    split at he
    · rename_i j sz2 es2 hj hd2
      split at he
      · rename_i hcond
        obtain ⟨hjs, hs2⟩ := hcond
        have hyr := h.elems (h.ev hy) hd2
        split at he
        · rename_i b lo n L hcc
          split at he
          · rename_i sz es hb
            split at he
            · rename_i hc
              obtain ⟨hl, hlo, hsz⟩ := hc
              cases he
              -- the destination
              have hdst : ∃ A cap, a.eval x = .slice A n cap ∧ (0 < n → ∃ g, ι b = some g ∧ A = some ⟨g, lo * sz, none⟩) := by
                have hxr := h.ev hx
                cases c with
                | own b' L' =>
                  simp only [Option.some.injEq, Prod.mk.injEq] at hcc
                  obtain ⟨rfl, rfl, h11, rfl⟩ := hcc
                  subst h11
                  obtain ⟨_, _, hxr⟩ := hxr
                  obtain ⟨_, hxr⟩ := hxr sz es false hb
                  rcases hxr hl with ⟨_, hq⟩ | ⟨g, cap, hg, hq, _⟩
                  · have h2 := (h.ob b' _ hb).2
                    exact ⟨none, 0, by
                      have : L' = 0 := by
                        have hq' : nilS = nilS := rfl
                        rcases hxr hl with ⟨hn, _⟩ | ⟨g, cap, _, hq2, _⟩
                        · unfold RepO at h2
                          have hg' : (env S0 N s w ι).ι b' = none := hn
                          rw [hg'] at h2
                          obtain ⟨_, _, he'⟩ := h2
                          cases he'
                          simpa using hl.symm
                        · rw [hq] at hq2; cases hq2
                      rw [this]; exact hq, fun hpos => by
                        rcases hxr hl with ⟨hn, _⟩ | ⟨g, cap, _, hq2, _⟩
                        · unfold RepO at h2
                          have hg' : (env S0 N s w ι).ι b' = none := hn
                          rw [hg'] at h2
                          obtain ⟨_, _, he'⟩ := h2
                          cases he'
                          simp at hl
                          omega
                        · rw [hq] at hq2; cases hq2⟩
                  · exact ⟨_, cap, hq, fun _ => ⟨g, hg, by simp⟩⟩
                | view b' lo' n' L' =>
                  simp only [Option.some.injEq, Prod.mk.injEq] at hcc
                  obtain ⟨rfl, rfl, rfl, rfl⟩ := hcc
                  obtain ⟨_, _, hxr⟩ := hxr
                  obtain ⟨_, hxr⟩ := hxr sz es false hb
                  obtain ⟨A, cap, hq, _, _, _, hA⟩ := hxr hl
                  exact ⟨A, cap, hq, hA⟩
                | _ => simp at hcc
              obtain ⟨A, cap, hv, hA⟩ := hdst
              obtain ⟨news, hsrc, hnews⟩ := slOf_cells hyr
              have hyv : ∃ B cy, a.eval y = .slice B es2.length cy := by
                rcases hyr with ⟨_, ⟨q1, q2⟩ | ⟨ad, cy, q1, _⟩⟩
                · rw [q2]; exact ⟨none, 0, q1⟩
                · exact ⟨some ad, cy, q1⟩
              obtain ⟨B, cy, hyv⟩ := hyv
              have hnl : news.length = es2.length * j.size := by
                rw [hsrc.1]
                rcases hs2 with h' | h'
                · rw [h']
                · rw [h']; simp
              have hw2 : ∀ e ∈ es2, e.length = j.size := fun e he => by
                rcases hs2 with h' | h'
                · rw [← h']; exact hyr.1 e he
                · have := List.length_pos_of_mem he; omega
              have hkl : (news.take (Nat.min es2.length n * j.size)).length = Nat.min es2.length n * j.size := by
                rw [List.length_take, hnl]
                exact Nat.min_eq_left (Nat.mul_le_mul_right _ (Nat.min_le_left _ _))
              have hfc : (Builtin.firstCells j.size (Nat.min es2.length n) (a.eval y)).run P w = .ok (news.take (Nat.min es2.length n * j.size)).toArray w := by
                rcases hsrc.2 with ⟨q1, q2⟩ | ⟨ad, c', q1, q2⟩
                · rw [q1]
                  have : news = [] := List.eq_nil_of_length_eq_zero (by rw [hnl, q2]; simp)
                  rw [this]
                  simp [nilS, Builtin.firstCells]
                · rw [q1]
                  refine run_firstCells_some (P := P) w j.size _ ad _ _ _ hkl (fun q u hu => ?_)
                  rw [List.getElem?_take] at hu
                  split at hu
                  · exact q2 q u hu
                  · cases hu
              by_cases hk : Nat.min es2.length n = 0
              · have hsp : spl es lo (es2.take n) = es := by
                  have : (es2.take n).length = 0 := by rw [List.length_take, Nat.min_comm]; exact hk
                  rw [List.eq_nil_of_length_eq_zero this]
                  simp [spl]
                refine ⟨goInt (Nat.min es2.length n : Nat), w, ι, .inl ?_, ?_, fun q hq => ?_⟩
                · rw [hk] at hfc
                  rw [hyv] at hfc
                  simp only [Nat.zero_mul, List.take_zero] at hfc
                  cases A <;> simp [execOp, ho, resolve, invoke, builtin, hv, hyv, Builtin.copy_, run_underlying hsl, Builtin.lenOf, ti_size hj, hk, hfc, storeCells]
                · rw [hsp]; exact (h.same hb).weakN (fun _ h => .inl h)
                · cases hq; exact rep_v rfl
              · have hkpos : 0 < Nat.min es2.length n := by omega
                have hnpos : 0 < n := Nat.lt_of_lt_of_le hkpos (Nat.min_le_right _ _)
                obtain ⟨g, hg, rfl⟩ := hA hnpos
                obtain ⟨hge, cur, ty, hh, hcell, hsh⟩ := h.block hb hg
                have hszj : sz = j.size := by
                  rcases hsz with h' | h'
                  · exact h'
                  · omega
                subst hszj
                have hwid : ∀ e ∈ es, e.length = j.size := hsh.2
                have hfl := flat_len hwid
                have hkn : Nat.min es2.length n ≤ n := Nat.min_le_right _ _
                have hmul : lo * j.size + Nat.min es2.length n * j.size ≤ es.flatten.length := by
                  rw [hfl, ← Nat.add_mul]; exact Nat.mul_le_mul_right _ (by omega)
                have hcsz : es.flatten.length ≤ cur.size := by
                  rcases Nat.eq_zero_or_pos es.flatten.length with h0 | h0
                  · omega
                  · obtain ⟨y', hy', _⟩ := hcell (es.flatten.length - 1) (.d es.flatten[es.flatten.length - 1]) (by
                      show (es.flatten.map AC.d)[_]? = _
                      rw [List.getElem?_map, List.getElem?_eq_getElem (by omega)]; rfl)
                    have := (Array.getElem?_eq_some_iff.1 hy').1
                    omega
                have hst := run_storeCells_at P g (lo * j.size) ty (news.take (Nat.min es2.length n * j.size)) 0 cur w hh (by rw [hkl]; omega) (fun v hv => hnews.one v (List.mem_of_mem_take hv))
                simp only [Nat.add_zero] at hst
                have hfl2 : (es2.take n).flatten = es2.flatten.take (Nat.min es2.length n * j.size) := by
                  rw [flat_take hw2]
                  rcases Nat.le_total es2.length n with h' | h'
                  · have e1 : Nat.min es2.length n = es2.length := Nat.min_eq_left h'
                    rw [e1, List.take_of_length_le (by rw [flat_len hw2]; exact Nat.mul_le_mul_right _ h'), List.take_of_length_le (by rw [flat_len hw2]; omega)]
                  · have e1 : Nat.min es2.length n = n := Nat.min_eq_right h'
                    rw [e1]
                have htl : (es2.take n).length = Nat.min es2.length n := by rw [List.length_take]; exact Nat.min_comm _ _
                have hall := hnews.take (Nat.min es2.length n * j.size)
                rw [← hfl2] at hall
                have hflat : ∀ (m : List (List D)) (q : Nat), (∀ e ∈ m, e.length = j.size) → q + m.length ≤ es.length → (spl es q m).flatten = spl es.flatten (q * j.size) m.flatten := fun m q hm hq => by
                  unfold spl
                  rw [List.flatten_append, List.flatten_append, flat_take hwid, flat_drop hwid, flat_len hm, Nat.add_mul]
                have hflat' := hflat (es2.take n) lo (fun e he => hw2 e (List.mem_of_mem_take he)) (by rw [htl]; omega)
                refine ⟨goInt (Nat.min es2.length n : Nat), w.setRow g (cur.toList.take (lo * j.size) ++ news.take (Nat.min es2.length n * j.size) ++ cur.toList.drop (lo * j.size + (news.take (Nat.min es2.length n * j.size)).length)).toArray, ι, .inl ?_, ?_, fun q hq => ?_⟩
                · rw [hyv] at hfc
                  simp [execOp, ho, resolve, invoke, builtin, hv, hyv, Builtin.copy_, run_underlying hsl, Builtin.lenOf, ti_size hj, hfc, hst]
                · refine Rel.weakN (N := N) (s := { s with hp := _ :: s.hp }) (h.rewrite hb hg rfl hh (setRow_heap w g cur _ ty (0, 0) hh) ?_ (fun k hk => setRow_other w g k _ hk) (by simp) (gr_setRow hh w0 hge h.gr) rfl ?_ ?_) (fun _ h => .inl h)
                  · have := spl_len (l := cur.toList) (m := news.take (Nat.min es2.length n * j.size)) (o := lo * j.size) (by rw [hkl]; simp; omega)
                    simp only [spl, Array.length_toList] at this
                    simpa using this
                  · intro k c hk
                    have hk' : ((spl es lo (es2.take n)).flatten.map AC.d)[k]? = some c := hk
                    rw [hflat', List.getElem?_map] at hk'
                    obtain ⟨d, hd, rfl⟩ := Option.map_eq_some_iff.1 hk'
                    have hm2 : (es2.take n).flatten.length = Nat.min es2.length n * j.size := by rw [← hall.length, hkl]
                    rw [spl_get (by rw [hm2]; exact hmul)] at hd
                    have hsp := spl_get (l := cur.toList) (m := news.take (Nat.min es2.length n * j.size)) (o := lo * j.size) (by rw [hkl]; simp; omega) k
                    have hgoal : ((cur.toList.take (lo * j.size) ++ news.take (Nat.min es2.length n * j.size) ++ cur.toList.drop (lo * j.size + (news.take (Nat.min es2.length n * j.size)).length)).toArray)[k]? = (spl cur.toList (lo * j.size) (news.take (Nat.min es2.length n * j.size)))[k]? := by simp [spl]
                    rw [hgoal, hsp, hkl]
                    rw [hm2] at hd
                    have hold : ∀ {d}, es.flatten[k]? = some d → ∃ y, cur[k]? = some y ∧ RepC (env S0 N s w ι) y (.d d) := fun {d} hd => hcell k (.d d) (by show (es.flatten.map AC.d)[k]? = _; rw [List.getElem?_map, hd]; rfl)
                    split at hd
                    · rename_i h1
                      rw [if_pos h1]
                      obtain ⟨y', hy', hr⟩ := hold hd
                      exact ⟨y', by simpa using hy', hr⟩
                    · rename_i h1
                      rw [if_neg h1]
                      split at hd
                      · rename_i h2
                        rw [if_pos h2]
                        obtain ⟨y', hy', hr⟩ := hall.get hd
                        exact ⟨y', hy', hr⟩
                      · rename_i h2
                        rw [if_neg h2]
                        obtain ⟨y', hy', hr⟩ := hold hd
                        exact ⟨y', by simpa using hy', hr⟩
                  · refine ⟨rfl, spl_len (by rw [htl]; omega), fun e he => ?_⟩
                    unfold spl at he
                    rcases List.mem_append.1 he with he | he
                    · exact hwid e (List.mem_of_mem_take he)
                    · rcases List.mem_append.1 he with he | he
                      · exact hw2 e (List.mem_of_mem_take he)
                      · exact hwid e (List.mem_of_mem_drop he)
                · cases hq; exact rep_v rfl
            · cases he
          · cases he
        · cases he
      · cases he
    · cases he
  · cases he

def mm1 (s : St) (mx : Bool) (x y : Operand) : Option Eff :=
  match evP s x, evP s y with
  | some (.int k a), some (.int k' b) => if k = k' then some { val := some (vv (.int k (if mx then (if b > a then b else a) else (if b < a then b else a)))) } else none
  | _, _ => none
theorem good_min (h : Rel S0 w0 N s a w ι) {x y : Operand} {ts : Array TypeId} {e : Eff} (ho : o.op = .call { callee := .builtin .min, args := #[x, y], argTypes := ts }) (he : mm1 s false x y = some e) : Good P S0 w0 N s a w seed o e := by
  unfold mm1 at he
  split at he
  · rename_i k u k' v hx hy
    split at he
    · cases he
      refine good_val h ?_ rfl
      simp [execOp, ho, resolve, invoke, builtin, h.evP hx, h.evP hy, Builtin.min_, Builtin.min2]
    · cases he
  · cases he
theorem good_max (h : Rel S0 w0 N s a w ι) {x y : Operand} {ts : Array TypeId} {e : Eff} (ho : o.op = .call { callee := .builtin .max, args := #[x, y], argTypes := ts }) (he : mm1 s true x y = some e) : Good P S0 w0 N s a w seed o e := by
  unfold mm1 at he
  split at he
  · rename_i k u k' v hx hy
    split at he
    · cases he
      refine good_val h ?_ rfl
      simp [execOp, ho, resolve, invoke, builtin, h.evP hx, h.evP hy, run_max_int2]
    · cases he
  · cases he
end
end
end Go.Proofs.Ytmhnogmbpoeaeaa.Eng
namespace Go.Proofs.Ytmhnogmbpoeaeaa.Eng
set_option linter.all false
noncomputable section
open Go.RowKit

def callEff (P : Program) (s : St) (seed : Nat) (b : Builtin) (args : List Operand) (ts : List TypeId) : Option Eff :=
  match b, args, ts with
  | .len, [x], [t] => len1 P s t x
  | .append, [x, y], [t, t'] => app1 P s seed t t' x y
  | .copy, [x, y], [t, t'] => cop1 P s t t' x y
  | .min, [x, y], _ => mm1 s false x y
  | .max, [x, y], _ => mm1 s true x y
  | _, _, _ => none
def one1 (s : St) (x : Operand) : Option AC :=
  match evO s x with
  | some (.x (.one c)) => some c
  | _ => none
/-- What a function value of one's own captures: variables. -/
def cloBs (s : St) : List Operand → Option (List Nat)
  | [] => some []
  | x :: xs => match evO s x, cloBs s xs with
    | some (.x (.one (.ptr b 0))), some bs => some (b :: bs)
    | _, _ => none
theorem cloBs_congr {s s' : St} : ∀ {cs : List Operand}, (∀ x ∈ cs, evO s' x = evO s x) → cloBs s' cs = cloBs s cs
  | [], _ => rfl
  | x :: xs, h => by
    unfold cloBs
    rw [h x (by simp), cloBs_congr fun y hy => h y (by simp [hy])]
def cloC (f : FuncId) (bs : List Nat) : AC :=
  match bs with
  | [] => .d (.v (.func (.func f) #[] #[]))
  | b :: bs => .clo f (b :: bs)
def mkfunc1 (s : St) (f : FuncId) (cs : List Operand) : Option Eff := (cloBs s cs).map fun bs => { val := some (one (cloC f bs)) }
def effect (P : Program) (s : St) (seed : Nat) (op : Op) : Option Eff :=
  match op with
  | .move x => (evO s x).map fun v => { val := some v }
  | .assign x => if isNil x then some { val := some (one (.own seed 0)), ups := [(seed, .row 0 [] false)], cnt := 1 } else (evO s x).map fun v => { val := some v }
  | .pick c x y => match evP s c with
    | some (.bool b) => (evO s (if b then x else y)).map fun v => { val := some v }
    | _ => none
  | .binOp op t x y _ => match evP s x, evP s y with
    | some u, some v => (binX P op t u v).map fun r => { val := some (vv r) }
    | _, _ => none
  | .unOp op _ x => (evP s x).bind fun u => (unV op u).map fun r => { val := some (vv r) }
  | .convert src dst x => (evP s x).bind fun u => (cvV P src dst u).map fun r => { val := some (vv r) }
  | .alloc t => (ti P t).map fun i => { val := some (one (.ptr seed 0)), ups := [(seed, .box (i.zero.map fun z => .d (.v z)))], cnt := 1 }
  | .box _ x => ((evO s x).bind cellsOf).map fun cs => { val := some (one (.ptr seed 0)), ups := [(seed, .box cs)], cnt := 1 }
  | .build t parts => build1 P s t parts.toList
  | .buildSlice t len parts => bslice1 P s seed t len parts.toList
  | .load t x => load1 P s t x
  | .store t x y => store1 P s seed t x y
  | .fieldAddr t x k => (one1 s x).bind fun c => (fieldOf P t k).bind fun f => (shift s.hp f.1 c).map fun c' => { val := some (one c') }
  | .field t x k => match evO s x with
    | some (.x (.agg l)) => (fieldOf P t k).bind fun f => (partOf f.1 f.2.size f.2.k.isAgg l).map fun v => { val := some v }
    | _ => none
  | .indexAddr t x i => idx1 P s t x i
  | .index t x i => index1 P s t x i
  | .slice t x lo hi mx => slice1 P s t x lo hi mx
  | .extract x k => match evO s x with
    | some (.tup l) => (l[k]?).map fun v => { val := some (.x v) }
    | _ => none
  | .makeSlice t l c => mslice1 P s seed t l c
  | .nilCheck x => (one1 s x).bind fun c => (shift s.hp 0 c).map fun _ => { val := some (one c) }
  | .makeFunc (.func f) ⟨[]⟩ ⟨cs⟩ => mkfunc1 s f cs
  | .call c => match c.callee with
    | .builtin b => callEff P s seed b c.args.toList c.argTypes.toList
    | _ => none
  | _ => none

section
variable {P : Program} {S0 : Nat → Prop} {w0 : Base} {N : Nat → Prop} {s : St} {a : Act} {w : World} {ι : Nat → Option Nat} {seed : Nat} {o : Oper}

theorem list1 {α : Type} {l : Array α} {x : α} (h : l.toList = [x]) : l = #[x] := by apply Array.ext'; simpa using h
theorem list2 {α : Type} {l : Array α} {x y : α} (h : l.toList = [x, y]) : l = #[x, y] := by apply Array.ext'; simpa using h
theorem one1_eq {x : Operand} {c : AC} (h : one1 s x = some c) : evO s x = some (one c) := by
  unfold one1 at h
  split at h
  · rename_i c' hx; cases h; exact hx
  · cases h
theorem clo_rep (h : Rel S0 w0 N s a w ι) : ∀ {xs : List Operand} {bs : List Nat}, cloBs s xs = some bs → All2 (fun v b => RepP (env S0 N s w ι) v b 0) (xs.map a.eval) bs
  | [], bs, hb => by simp only [cloBs, Option.some.injEq] at hb; subst hb; exact .nil
  | x :: xs, bs, hb => by
    simp only [cloBs] at hb
    split at hb
    · rename_i b bs' h1 h2
      cases hb
      exact .cons (h.ev h1) (clo_rep h h2)
    · cases hb
theorem good_mkfunc (h : Rel S0 w0 N s a w ι) {f : FuncId} {cs : List Operand} {e : Eff} (ho : o.op = .makeFunc (.func f) ⟨[]⟩ ⟨cs⟩) (he : mkfunc1 s f cs = some e) : Good P S0 w0 N s a w seed o e := by
  obtain ⟨bs, hbs, rfl⟩ := Option.map_eq_some_iff.1 he
  have hr := clo_rep h hbs
  have hrun : (execOp a.eval o).run P w = .ok (.value (.func (.func f) #[] (cs.map a.eval).toArray)) w := by
    simp [execOp, ho, Instr.makeFunc]
  refine good_pure h hrun ?_
  cases bs with
  | nil =>
    cases hc : cs.map a.eval with
    | nil => exact Shows.v rfl
    | cons v vs => rw [hc] at hr; cases hr
  | cons b bs => exact ⟨_, rfl, by simpa using hr⟩
theorem good_effect (h : Rel S0 w0 N s a w ι) {e : Eff} (hid0 : ∀ k, k < e.cnt + 1 → ¬ N (seed + k)) (he : effect P s seed o.op = some e) : Good P S0 w0 N s a w seed o e := by
  have hid : ∀ k, k < 1 → ¬ N (seed + k) := fun k hk => hid0 k (by omega)
  generalize hop : o.op = op at he
  unfold effect at he
  split at he
  · obtain ⟨v, hv, rfl⟩ := Option.map_eq_some_iff.1 he
    exact good_move h (.inl hop) hv
  · split at he
    · rename_i hn
      cases he
      exact good_nil h hid hop hn
    · obtain ⟨v, hv, rfl⟩ := Option.map_eq_some_iff.1 he
      exact good_move h (.inr hop) hv
  · split at he
    · rename_i b hb
      obtain ⟨v, hv, rfl⟩ := Option.map_eq_some_iff.1 he
      exact good_pick h hop hb hv
    · cases he
  · split at he
    · rename_i u v hu hv
      obtain ⟨r, hr, rfl⟩ := Option.map_eq_some_iff.1 he
      exact good_bin h hop hu hv hr
    · cases he
  · obtain ⟨u, hu, he⟩ := Option.bind_eq_some_iff.1 he
    obtain ⟨r, hr, rfl⟩ := Option.map_eq_some_iff.1 he
    exact good_un h hop hu hr
  · obtain ⟨u, hu, he⟩ := Option.bind_eq_some_iff.1 he
    obtain ⟨r, hr, rfl⟩ := Option.map_eq_some_iff.1 he
    exact good_cv h hop hu hr
  · obtain ⟨i, hi, rfl⟩ := Option.map_eq_some_iff.1 he
    exact good_alloc h hid hop hi
  · obtain ⟨cs, hcs, rfl⟩ := Option.map_eq_some_iff.1 he
    obtain ⟨v, hv, hc⟩ := Option.bind_eq_some_iff.1 hcs
    exact good_box h hid hop hv hc
  · exact good_build h hop he
  · exact good_bslice h hid hop he
  · exact good_load h hop he
  · exact good_store h hid hop he
  · obtain ⟨c, hc, he⟩ := Option.bind_eq_some_iff.1 he
    obtain ⟨⟨off, i⟩, hf, he⟩ := Option.bind_eq_some_iff.1 he
    obtain ⟨c', hc', rfl⟩ := Option.map_eq_some_iff.1 he
    exact good_fieldAddr h hop (one1_eq hc) hf hc'
  · split at he
    · rename_i l hl
      obtain ⟨⟨off, i⟩, hf, he⟩ := Option.bind_eq_some_iff.1 he
      obtain ⟨v, hv, rfl⟩ := Option.map_eq_some_iff.1 he
      exact good_field h hop hl hf hv
    · cases he
  · exact good_idx h hop he
  · exact good_index h hop he
  · exact good_slice h hop he
  · split at he
    · rename_i l hl
      obtain ⟨v, hv, rfl⟩ := Option.map_eq_some_iff.1 he
      exact good_extract h hop hl hv
    · cases he
  · exact good_mslice h hid hop he
  · obtain ⟨c, hc, he⟩ := Option.bind_eq_some_iff.1 he
    obtain ⟨c', hc', rfl⟩ := Option.map_eq_some_iff.1 he
    exact good_nilCheck h hop (one1_eq hc) hc'
  · exact good_mkfunc h hop he
  · rename_i c
    split at he
    · rename_i b hb
      obtain ⟨callee, args, ts⟩ := c
      simp only at hb he
      subst hb
      unfold callEff at he
      split at he
      · rename_i x t ha ht
        rw [list1 ha, list1 ht] at hop
        exact good_len h hop he
      · rename_i x y t t' ha ht
        rw [list2 ha, list2 ht] at hop
        exact good_app h hid hop he
      · rename_i x y t t' ha ht
        rw [list2 ha, list2 ht] at hop
        exact good_cop h hop he
      · rename_i x y ha
        rw [list2 ha] at hop
        exact good_min h hop he
      · rename_i x y ha
        rw [list2 ha] at hop
        exact good_max h hop he
      · cases he
    · cases he
  · cases he
end
end
end Go.Proofs.Ytmhnogmbpoeaeaa.Eng
namespace Go.Proofs.Ytmhnogmbpoeaeaa.Eng
set_option linter.all false
noncomputable section
open Go.RowKit

/-! ### Calls -/
def idsC : AC → List Nat
  | .own b _ => [b]
  | .view b _ _ _ => [b]
  | _ => []
def dataL (hp : List (Nat × Ob)) : List AC → Option (List D)
  | [] => some []
  | c :: cs => match dataC hp c, dataL hp cs with
    | some d, some ds => some (d :: ds)
    | _, _ => none
def argX (hp : List (Nat × Ob)) : AV → Option DA
  | .x (.one c) => (dataC hp c).map .one
  | .x (.agg cs) => (dataL hp cs).map .agg
  | .tup _ => none
def idsX : AV → List Nat
  | .x (.one c) => idsC c
  | .x (.agg cs) => cs.flatMap idsC
  | .tup _ => []
def evL (s : St) : List Operand → Option (List AV)
  | [] => some []
  | x :: xs => match evO s x, evL s xs with
    | some v, some vs => some (v :: vs)
    | _, _ => none
def argL (hp : List (Nat × Ob)) : List AV → Option (List DA)
  | [] => some []
  | x :: xs => match argX hp x, argL hp xs with
    | some v, some vs => some (v :: vs)
    | _, _ => none
/-- The rows that are handed on are written no more. -/
def frz (hp : List (Nat × Ob)) : List Nat → List (Nat × Ob)
  | [] => hp
  | b :: bs => match lk hp b with
    | some (.row sz es _) => (b, .row sz es true) :: frz hp bs
    | _ => frz hp bs

def unC (seed : Nat) : RC → AC × List (Nat × Ob) × Nat
  | .c d => (.d d, [], seed)
  | .o sz es => (.own seed es.length, [(seed, .row sz es false)], seed + 1)
def unL (seed : Nat) : List RC → List AC × List (Nat × Ob) × Nat
  | [] => ([], [], seed)
  | c :: cs => ((unC seed c).1 :: (unL (unC seed c).2.2 cs).1, (unL (unC seed c).2.2 cs).2.1 ++ (unC seed c).2.1, (unL (unC seed c).2.2 cs).2.2)
def unX (seed : Nat) : RX → AX × List (Nat × Ob) × Nat
  | .one c => (.one (unC seed c).1, (unC seed c).2.1, (unC seed c).2.2)
  | .agg cs => (.agg (unL seed cs).1, (unL seed cs).2.1, (unL seed cs).2.2)
def unXs (seed : Nat) : List RX → List AX × List (Nat × Ob) × Nat
  | [] => ([], [], seed)
  | c :: cs => ((unX seed c).1 :: (unXs (unX seed c).2.2 cs).1, (unXs (unX seed c).2.2 cs).2.1 ++ (unX seed c).2.1, (unXs (unX seed c).2.2 cs).2.2)
def unV' (seed : Nat) (r : RV) : AV × List (Nat × Ob) × Nat :=
  match r with
  | [x] => (.x (unX seed x).1, (unX seed x).2.1, (unX seed x).2.2)
  | l => (.tup (unXs seed l).1, (unXs seed l).2.1, (unXs seed l).2.2)

/-- No slice among the data: what comes back shares nothing with what was handed on. -/
def DFlat : D → Prop
  | .v _ => True
  | .sl _ es => es = []
def RCFlat : RC → Prop
  | .c d => DFlat d
  | .o _ es => ∀ e ∈ es, ∀ d ∈ e, DFlat d
def RXFlat : RX → Prop
  | .one c => RCFlat c
  | .agg cs => ∀ c ∈ cs, RCFlat c
def Flat (r : RV) : Prop := ∀ x ∈ r, RXFlat x
theorem Shows.flat {S S' : Nat → Prop} {w : World} {x : Value} {d : D} (h : Shows S w x d) (hf : DFlat d) : Shows S' w x d := by
  cases h with
  | v h => exact .v h
  | nil => exact .nil
  | sl f hn hS hc hm hw hr hd =>
    simp only [DFlat] at hf
    subst hf
    exact .sl f hn (by simp) hc hm hw (by simp) (by simp)

section
variable {P : Program} {S0 : Nat → Prop} {w0 : Base} {N : Nat → Prop} {s : St} {a : Act} {w : World} {ι : Nat → Option Nat} {seed : Nat} {o : Oper}

theorem slOf_shows {S S' : Nat → Prop} {w : World} {x : Value} {sz : Nat} {es : List (List D)} (h : SlOf (Shows S w) w x sz es) (hS : ∀ b, S b → S' b) (hx : ∀ ad n cap, x = .slice (some ad) n cap → es ≠ [] → S' ad.block) : Shows S' w x (.sl sz es) := by
  obtain ⟨hw, ⟨rfl, rfl⟩ | ⟨ad, cap, rfl, hc, hm, hk⟩⟩ := h
  · exact .nil
  · have hk' : ∀ k, ∃ y, ∀ c, es.flatten[k]? = some c → w.cell? (ad.add k) = some y ∧ Shows S w y c := fun k => by
      cases hc' : es.flatten[k]? with
      | none => exact ⟨undef, fun c h => by cases h⟩
      | some c => obtain ⟨y, h1, h2⟩ := hk k c hc'; exact ⟨y, fun c' h => by cases h; exact ⟨h1, h2⟩⟩
    refine .sl (fun k => (hk' k).choose) rfl (fun hne => hx _ _ _ rfl hne) hc hm hw (fun k c hkc => ((hk' k).choose_spec c hkc).1) (fun k c hkc => ?_)
    exact Shows.keep hS (fun _ _ => rfl) ((hk' k).choose_spec c hkc).2

def Own (ι : Nat → Option Nat) (hp : List (Nat × Ob)) (b blk : Nat) : Prop := ι b = some blk ∧ ∃ sz es fz, lk hp b = some (.row sz es fz)
/-- What is handed on shows its data; the rows that are handed on may be read. -/
theorem Rel.pass (h : Rel S0 w0 N s a w ι) {x : Value} {c : AC} (hx : RepC (env S0 N s w ι) x c) {d : D} (hd : dataC s.hp c = some d) :
    Shows (fun blk => Tr S0 w ι (lk s.hp) blk ∨ ∃ b ∈ idsC c, Own ι s.hp b blk) w x d := by
  cases c with
  | d c =>
    simp only [dataC, Option.some.injEq] at hd
    subst hd
    exact Shows.keep (fun _ h => .inl h) (fun _ _ => rfl) hx
  | own b L =>
    have hdd := hd
    simp only [dataC] at hd
    split at hd
    · rename_i sz es fz hb
      split at hd
      · rename_i hl
        cases hd
        refine slOf_shows (h.slOf hx hdd) (fun _ h => .inl h) (fun ad n cap hxe hne => .inr ⟨b, by simp [idsC], ?_⟩)
        obtain ⟨_, _, hx⟩ := hx
        obtain ⟨_, hx⟩ := hx _ _ fz hb
        rcases hx hl with ⟨_, hq⟩ | ⟨g, cap', hg, hq, _⟩
        · rw [hxe] at hq; cases hq
        · rw [hxe] at hq; cases hq; exact ⟨hg, _, _, _, hb⟩
      · cases hd
    · cases hd
  | view b lo n L =>
    have hdd := hd
    simp only [dataC] at hd
    split at hd
    · rename_i sz es fz hb
      split at hd
      · rename_i hl
        cases hd
        refine slOf_shows (h.slOf hx hdd) (fun _ h => .inl h) (fun ad n' cap hxe hne => .inr ⟨b, by simp [idsC], ?_⟩)
        obtain ⟨_, _, hx⟩ := hx
        obtain ⟨_, hx⟩ := hx _ _ fz hb
        obtain ⟨A, cap', hq, _, _, _, hA⟩ := hx hl.1
        have hpos : 0 < n := by
          rcases Nat.eq_zero_or_pos n with h0 | h0
          · subst h0; simp at hne
          · exact h0
        obtain ⟨g, hg, rfl⟩ := hA hpos
        rw [hxe] at hq; cases hq; exact ⟨hg, _, _, _, hb⟩
      · cases hd
    · cases hd
  | _ => simp [dataC] at hd
theorem Rel.passL (h : Rel S0 w0 N s a w ι) : ∀ {xs : List Value} {cs : List AC}, All2 (RepC (env S0 N s w ι)) xs cs → ∀ {ds : List D}, dataL s.hp cs = some ds →
    All2 (Shows (fun blk => Tr S0 w ι (lk s.hp) blk ∨ ∃ b ∈ cs.flatMap idsC, Own ι s.hp b blk) w) xs ds := by
  intro xs cs hr
  induction hr with
  | nil => intro ds hd; simp only [dataL, Option.some.injEq] at hd; subst hd; exact .nil
  | @cons x c xs cs hx _ ih =>
    intro ds hd
    simp only [dataL] at hd
    split at hd
    · rename_i d ds' h1 h2
      cases hd
      refine .cons (Shows.keep ?_ (fun _ _ => rfl) (h.pass hx h1)) ((ih h2).mono fun _ _ hs => Shows.keep ?_ (fun _ _ => rfl) hs)
      · rintro blk (hb | ⟨b, hb, hi⟩)
        · exact .inl hb
        · exact .inr ⟨b, by simp [hb], hi⟩
      · rintro blk (hb | ⟨b, hb, hi⟩)
        · exact .inl hb
        · exact .inr ⟨b, List.mem_flatMap.2 (by obtain ⟨c', h3, h4⟩ := List.mem_flatMap.1 hb; exact ⟨c', by simp [h3], h4⟩), hi⟩
    · cases hd
theorem Rel.passX (h : Rel S0 w0 N s a w ι) {x : Value} {v : AV} (hx : RepV (env S0 N s w ι) x v) {d : DA} (hd : argX s.hp v = some d) :
    ShowsA (fun blk => Tr S0 w ι (lk s.hp) blk ∨ ∃ b ∈ idsX v, Own ι s.hp b blk) w x d := by
  cases v with
  | x v => cases v with
    | one c =>
      obtain ⟨d', h1, rfl⟩ := Option.map_eq_some_iff.1 hd
      exact h.pass hx h1
    | agg cs =>
      obtain ⟨d', h1, rfl⟩ := Option.map_eq_some_iff.1 hd
      obtain ⟨arr, rfl, ha⟩ := hx
      exact ⟨arr, rfl, h.passL ha h1⟩
  | tup _ => simp [argX] at hd
theorem ShowsA.keep {S S' : Nat → Prop} {w : World} (hS : ∀ b, S b → S' b) {x : Value} {d : DA} (h : ShowsA S w x d) : ShowsA S' w x d := by
  cases d with
  | one c => exact Shows.keep hS (fun _ _ => rfl) h
  | agg cs => obtain ⟨arr, h1, h2⟩ := h; exact ⟨arr, h1, h2.mono fun _ _ => Shows.keep hS (fun _ _ => rfl)⟩
theorem Rel.passAll (h : Rel S0 w0 N s a w ι) : ∀ {xs : List Operand} {vs : List AV} {ds : List DA}, evL s xs = some vs → argL s.hp vs = some ds →
    All2 (ShowsA (fun blk => Tr S0 w ι (lk s.hp) blk ∨ ∃ b ∈ vs.flatMap idsX, Own ι s.hp b blk) w) (xs.map a.eval) ds
  | [], vs, ds, hv, hd => by
    simp only [evL, Option.some.injEq] at hv
    subst hv
    simp only [argL, Option.some.injEq] at hd
    subst hd
    exact .nil
  | x :: xs, vs, ds, hv, hd => by
    simp only [evL] at hv
    split at hv
    · rename_i v vs' h1 h2
      cases hv
      simp only [argL] at hd
      split at hd
      · rename_i d ds' h3 h4
        cases hd
        refine .cons (ShowsA.keep ?_ (h.passX (h.ev h1) h3)) ((h.passAll h2 h4).mono fun _ _ hs => ShowsA.keep ?_ hs)
        · rintro blk (hb | ⟨b, hb, hi⟩)
          · exact .inl hb
          · exact .inr ⟨b, by simp [hb], hi⟩
        · rintro blk (hb | ⟨b, hb, hi⟩)
          · exact .inl hb
          · exact .inr ⟨b, List.mem_flatMap.2 (by obtain ⟨c', h3, h4⟩ := List.mem_flatMap.1 hb; exact ⟨c', by simp [h3], h4⟩), hi⟩
      · cases hd
    · cases hv

/-- A row is written no more. -/
theorem Rel.freeze1 (h : Rel S0 w0 N s a w ι) {b sz : Nat} {es : List (List D)} {fz : Bool} (hb : lk s.hp b = some (.row sz es fz)) : Rel S0 w0 N { s with hp := (b, .row sz es true) :: s.hp } a w ι := by
  have hs : Step (env S0 N s w ι) (env S0 N { s with hp := (b, .row sz es true) :: s.hp } w ι) := by
    refine ⟨fun k hk => ?_, fun _ _ => rfl, fun _ h => h, fun b1 sz1 es1 fz1 hN hb1 => ?_, fun b1 cs hN hb1 => ?_, fun b1 kd kv hN hb1 => ?_⟩
    · obtain ⟨h1, h2, h3⟩ := hk
      refine ⟨h1, h2, fun b' o' hb' hm => ?_⟩
      replace hb' : lk ((b, _) :: s.hp) b' = some o' := hb'
      by_cases he : b = b'
      · subst he
        rw [lk_cons, if_pos rfl] at hb'
        cases hb'
        simp [Ob.mut] at hm
      · rw [lk_cons, if_neg he] at hb'
        exact h3 b' o' hb' hm
    · replace hb1 : lk ((b, _) :: s.hp) b1 = some (.row sz1 es1 fz1) := hb1
      by_cases he : b = b1
      · subst he
        rw [lk_cons, if_pos rfl] at hb1
        cases hb1
        exact ⟨sz, es, fz, hb, .inl ⟨.inr rfl, rfl, rfl, fun g _ cur ty hh => ⟨cur, hh, rfl⟩⟩⟩
      · rw [lk_cons, if_neg he] at hb1
        exact ⟨sz1, es1, fz1, hb1, .inl ⟨.inr rfl, rfl, rfl, fun g _ cur ty hh => ⟨cur, hh, rfl⟩⟩⟩
    · replace hb1 : lk ((b, _) :: s.hp) b1 = some (.box cs) := hb1
      by_cases he : b = b1
      · subst he
        rw [lk_cons, if_pos rfl] at hb1
        cases hb1
      · rw [lk_cons, if_neg he] at hb1
        exact ⟨cs, hb1, rfl⟩
    · replace hb1 : lk ((b, _) :: s.hp) b1 = some (.mp kd kv) := hb1
      by_cases he : b = b1
      · subst he
        rw [lk_cons, if_pos rfl] at hb1
        cases hb1
      · rw [lk_cons, if_neg he] at hb1
        exact ⟨kv, hb1, rfl⟩
  refine h.change (nx' := s.nx) hs h.gr (fun b1 o1 hb1 => ?_) (fun b1 b2 o1 o2 g h1 h2 e1 e2 => ?_)
  · by_cases he : b = b1
    · subst he
      rw [lk_cons, if_pos rfl] at hb1
      cases hb1
      obtain ⟨hN, hr⟩ := h.ob b _ hb
      refine ⟨hN, ?_⟩
      have := RepO.keep hs (B := w0.w.heap.size) (o := .row sz es fz) rfl (fun _ _ => rfl) hr
      unfold RepO at this ⊢
      cases hi : (env S0 N { s with hp := (b, .row sz es true) :: s.hp, nx := s.nx } w ι).ι b with
      | none =>
        have hi' : (env S0 N { s with hp := (b, .row sz es true) :: s.hp } w ι).ι b = none := hi
        rw [hi'] at this
        obtain ⟨sz', fz', e⟩ := this
        cases e
        exact ⟨_, _, rfl⟩
      | some g =>
        have hi' : (env S0 N { s with hp := (b, .row sz es true) :: s.hp } w ι).ι b = some g := hi
        rw [hi'] at this
        obtain ⟨k1, ⟨cur, ty, k2, k3, k4, _⟩ | ⟨kd, kv, es1, clock, k2, _⟩⟩ := this
        · exact ⟨k1, .inl ⟨cur, ty, k2, k3, k4, rfl⟩⟩
        · cases k2
    · rw [lk_cons, if_neg he] at hb1
      obtain ⟨hN, hr⟩ := h.ob b1 o1 hb1
      exact ⟨hN, RepO.keep hs rfl (fun _ _ => rfl) hr⟩
  · have pick : ∀ {x o1}, lk ((b, Ob.row sz es true) :: s.hp) x = some o1 → ∃ o2, lk s.hp x = some o2 := fun {x o1} hx => by
      by_cases he : b = x
      · subst he; exact ⟨_, hb⟩
      · rw [lk_cons, if_neg he] at hx; exact ⟨o1, hx⟩
    obtain ⟨_, k1⟩ := pick h1
    obtain ⟨_, k2⟩ := pick h2
    exact h.inj b1 b2 _ _ g k1 k2 e1 e2
theorem lk_frz (hp : List (Nat × Ob)) (b : Nat) : ∀ ids : List Nat, lk (frz hp ids) b = match lk hp b with
    | some (.row sz es fz) => some (.row sz es (fz || ids.contains b))
    | x => x
  | [] => by
    simp only [frz, List.contains_nil, Bool.or_false]
    cases lk hp b with
    | none => rfl
    | some o => cases o <;> rfl
  | i :: ids => by
    have ih := lk_frz hp b ids
    simp only [frz]
    split
    · rename_i sz es fz hi
      rw [lk_cons]
      by_cases he : i = b
      · subst he
        simp [hi]
      · rw [if_neg he, ih]
        have : (i :: ids).contains b = ids.contains b := by simp [List.contains_cons, Ne.symm he]
        rw [this]
    · rename_i hi
      rw [ih]
      by_cases he : i = b
      · subst he
        cases hh : lk hp i with
        | none => rfl
        | some o => cases o with
          | box _ => rfl
          | mp _ _ => rfl
          | row sz es fz => exact absurd hh (hi sz es fz)
      · have : (i :: ids).contains b = ids.contains b := by simp [List.contains_cons, Ne.symm he]
        rw [this]
theorem Rel.frz (h : Rel S0 w0 N s a w ι) : ∀ ids : List Nat, Rel S0 w0 N { s with hp := frz s.hp ids } a w ι
  | [] => h
  | i :: ids => by
    have ih := h.frz ids
    simp only [Eng.frz]
    split
    · rename_i sz es fz hi
      have : lk (Eng.frz s.hp ids) i = some (.row sz es (fz || ids.contains i)) := by rw [lk_frz, hi]
      exact ih.freeze1 this
    · exact ih
theorem dataC_frz (hp : List (Nat × Ob)) (ids : List Nat) (c : AC) : dataC (frz hp ids) c = dataC hp c := by
  cases c with
  | own b L =>
    simp only [dataC, lk_frz]
    cases lk hp b with
    | none => rfl
    | some o => cases o <;> rfl
  | view b lo n L =>
    simp only [dataC, lk_frz]
    cases lk hp b with
    | none => rfl
    | some o => cases o <;> rfl
  | _ => rfl
end
end
end Go.Proofs.Ytmhnogmbpoeaeaa.Eng
namespace Go.Proofs.Ytmhnogmbpoeaeaa.Eng
set_option linter.all false
noncomputable section
open Go.RowKit

section
variable {P : Program} {U : Nat → Prop} {w0 : Base} {N : Nat → Prop} {s : St} {a : Act} {w : World} {ι : Nat → Option Nat} {seed : Nat} {o : Oper}

theorem Rel.old (h : Rel U w0 N s a w ι) {b g : Nat} {o : Ob} (hb : lk s.hp b = some o) (hg : ι b = some g) : g < w.heap.size := by
  exact (h.lt hb hg).2
/-- The world goes on; what may be read is what could be read, and whatever is new. -/
theorem Rel.world {U' : Nat → Prop} (h : Rel U w0 N s a w ι) {w' : World} (hg : Gr w w') (hU : ∀ b, b < w.heap.size → U b → U' b) : Rel U' w0 N s a w' ι := by
  have hs : Step (env U N s w ι) (env U' N s w' ι) := by
    refine ⟨fun b hb => ⟨hU b hb.2.1 hb.1, Nat.lt_of_lt_of_le hb.2.1 hg.size, hb.2.2⟩, fun ad had => hg.cell had.2.1, fun _ h => h, fun b sz es fz hN hb => ⟨sz, es, fz, hb, .inl ⟨.inr rfl, rfl, rfl, fun g hgi cur ty hh => ⟨cur, ?_, rfl⟩⟩⟩, fun b cs hN hb => ⟨cs, hb, rfl⟩, fun b kd kv hN hb => ⟨kv, hb, rfl⟩⟩
    exact (hg.below.block g (heap_lt hh)).trans hh
  refine ⟨fun t x ht => ?_, fun b o hb => ?_, h.inj, h.gr.trans hg, h.nt, h.df, h.st.trans hs⟩
  · obtain ⟨v, h1, h2⟩ := h.fr t x ht
    exact ⟨v, h1, h2.keep hs⟩
  · obtain ⟨h1, h2⟩ := h.ob b o hb
    exact ⟨h1, RepO.keep hs rfl (fun g hgi => hg.below.block g (h.old hb hgi)) h2⟩
/-- More may be read. -/
theorem Rel.univ {U' : Nat → Prop} (h : Rel U w0 N s a w ι) (hU : ∀ b, U b → U' b) : Rel U' w0 N s a w ι := h.world (Gr.refl w) fun b _ => hU b

/-- A row that a call has handed back becomes one of our own. -/
theorem Rel.adopt (h : Rel U w0 N s a w ι) {id g nx' : Nat} (hid : ¬ N id) (hU : ¬ U g) (hB : w0.w.heap.size ≤ g) (hg : ∀ b o, lk s.hp b = some o → ι b ≠ some g) {sz : Nat} {es : List (List D)} {cur : Array Value} {ty : TypeId}
    (hh : w.heap[g]? = some (.cells cur ty (0, 0))) (hw : 0 < sz ∧ ∀ e ∈ es, e.length = sz) (hc : ∀ (k : Nat) (c : D), es.flatten[k]? = some c → ∃ y, cur[k]? = some y ∧ Shows (Tr U w ι (lk s.hp)) w y c) :
    Rel U w0 (With N id) { s with hp := (id, .row sz es false) :: s.hp, nx := nx' } a w (upd ι id (some g)) ∧
    Step (env U N s w ι) (env U (With N id) { s with hp := (id, .row sz es false) :: s.hp, nx := nx' } w (upd ι id (some g))) := by
  have hne : ∀ {b}, N b → b ≠ id := fun hb e => hid (e ▸ hb)
  have hlk : ∀ {b}, N b → lk ((id, .row sz es false) :: s.hp) b = lk s.hp b := fun hb => by rw [lk_cons, if_neg (Ne.symm (hne hb))]
  have hs : Step (env U N s w ι) (env U (With N id) { s with hp := (id, .row sz es false) :: s.hp, nx := nx' } w (upd ι id (some g))) := by
    refine ⟨fun blk hb => ?_, fun ad had => rfl, fun b hb => .inl hb, fun b sz' es' fz' hN hb => ?_, fun b cs hN hb => ?_, fun b kd kv hN hb => ?_⟩
    · obtain ⟨h1, h2, h3⟩ := hb
      refine ⟨h1, h2, fun b' o' hb' hm => ?_⟩
      replace hb' : lk ((id, _) :: s.hp) b' = some o' := hb'
      show upd ι id (some g) b' ≠ some blk
      by_cases he : b' = id
      · subst he; rw [upd_same]; intro e; cases e; exact hU h1
      · rw [upd_other _ _ _ he]
        rw [lk_cons, if_neg (Ne.symm he)] at hb'
        exact h3 b' o' hb' hm
    · have hb' : lk s.hp b = some (.row sz' es' fz') := by rw [← hlk hN]; exact hb
      exact ⟨sz', es', fz', hb', .inl ⟨.inr rfl, rfl, upd_other _ _ _ (hne hN), fun g1 _ cur' ty' hh => ⟨cur', hh, rfl⟩⟩⟩
    · have hb' : lk s.hp b = some (.box cs) := by rw [← hlk hN]; exact hb
      exact ⟨cs, hb', upd_other _ _ _ (hne hN)⟩
    · have hb' : lk s.hp b = some (.mp kd kv) := by rw [← hlk hN]; exact hb
      exact ⟨kv, hb', upd_other _ _ _ (hne hN)⟩
  refine ⟨h.change hs h.gr (fun b o' hb => ?_) (fun b b' o1 o2 g' h1 h2 g1 g2 => ?_), hs⟩
  · by_cases he : b = id
    · subst he
      rw [lk_cons, if_pos rfl] at hb
      cases hb
      refine ⟨.inr rfl, ?_⟩
      unfold RepO
      have hi : (env U (With N b) { s with hp := (b, .row sz es false) :: s.hp, nx := nx' } w (upd ι b (some g))).ι b = some g := upd_same _ _ _
      rw [hi]
      refine ⟨hB, .inl ⟨cur, ty, hh, fun k c hk => ?_, hw, rfl⟩⟩
      have hk' : (es.flatten.map AC.d)[k]? = some c := hk
      rw [List.getElem?_map] at hk'
      obtain ⟨d, hd, rfl⟩ := Option.map_eq_some_iff.1 hk'
      obtain ⟨y, hy, hr⟩ := hc k d hd
      exact ⟨y, hy, Shows.keep hs.S hs.c hr⟩
    · rw [lk_cons, if_neg (Ne.symm he)] at hb
      obtain ⟨hN, hr⟩ := h.ob b o' hb
      exact ⟨.inl hN, RepO.keep hs (upd_other _ _ _ he) (fun _ _ => rfl) hr⟩
  · by_cases e1 : b = id <;> by_cases e2 : b' = id
    · exact e1.trans e2.symm
    · subst e1
      rw [upd_same] at g1; cases g1
      rw [upd_other _ _ _ e2] at g2
      rw [lk_cons, if_neg (Ne.symm e2)] at h2
      exact absurd g2 (hg b' o2 h2)
    · subst e2
      rw [upd_same] at g2; cases g2
      rw [upd_other _ _ _ e1] at g1
      rw [lk_cons, if_neg (Ne.symm e1)] at h1
      exact absurd g1 (hg b o1 h1)
    · rw [upd_other _ _ _ e1] at g1
      rw [upd_other _ _ _ e2] at g2
      rw [lk_cons, if_neg (Ne.symm e1)] at h1
      rw [lk_cons, if_neg (Ne.symm e2)] at h2
      exact h.inj b b' o1 o2 g' h1 h2 g1 g2

/-- What holds while the parts of a result are taken over one by one. -/
structure Take (U : Nat → Prop) (w0 : Base) (N : Nat → Prop) (T : Nat → Prop) (F : List Nat) (s : St) (a : Act) (w : World) (ι : Nat → Option Nat) : Prop where
  rel : Rel U w0 N s a w ι
  tu : ∀ b, T b → U b ∧ b < w.heap.size
  tm : ∀ b o g, lk s.hp b = some o → o.mut = true → ι b = some g → ¬ T g
  fu : ∀ g ∈ F, ¬ U g ∧ w0.w.heap.size ≤ g ∧ ¬ T g
  fi : ∀ b o g, lk s.hp b = some o → ι b = some g → g ∉ F
theorem Take.tr {T : Nat → Prop} {F : List Nat} (h : Take U w0 N T F s a w ι) : ∀ b, T b → Tr U w ι (lk s.hp) b :=
  fun b hb => ⟨(h.tu b hb).1, (h.tu b hb).2, fun b' o' hb' hm hi => h.tm b' o' b hb' hm hi hb⟩
def App (ups : List (Nat × Ob)) (nx : Nat) (s : St) : St := { s with hp := ups ++ s.hp, nx := nx }
def Span (N : Nat → Prop) (seed nxt b : Nat) : Prop := N b ∨ (seed ≤ b ∧ b < nxt)
theorem unC_le (seed : Nat) (c : RC) : seed ≤ (unC seed c).2.2 := by cases c <;> simp [unC]
theorem Take.c {T : Nat → Prop} {F G : List Nat} (h : Take U w0 N T (F ++ G) s a w ι) (hnd : (F ++ G).Nodup) {lim : Nat} (hid : ∀ k, seed ≤ k → k < lim → ¬ N k) {x : Value} {c : RC} (hl : (unC seed c).2.2 ≤ lim) (hx : ShowsC T w x c F) :
    ∃ ι', Take U w0 (Span N seed (unC seed c).2.2) T G (App (unC seed c).2.1 (unC seed c).2.2 s) a w ι' ∧ RepC (env U (Span N seed (unC seed c).2.2) (App (unC seed c).2.1 (unC seed c).2.2 s) w ι') x (unC seed c).1 ∧
      Step (env U N s w ι) (env U (Span N seed (unC seed c).2.2) (App (unC seed c).2.1 (unC seed c).2.2 s) w ι') := by
  cases hx with
  | @c _ d hd =>
    have hs : Step (env U N s w ι) (env U (Span N seed seed) (App [] seed s) w ι) := Step.same rfl rfl rfl rfl fun _ h => .inl h
    refine ⟨ι, ⟨h.rel.weakN (nx' := seed) fun _ h => .inl h, h.tu, h.tm, fun g hg => h.fu g (by simp [hg]), fun b o g hb hi hm => h.fi b o g hb hi (by simp [hm])⟩, ?_, hs⟩
    exact RepC.keep (E := env U N s w ι) hs (Shows.keep h.tr (fun _ _ => rfl) hd : RepC (env U N s w ι) x (.d d))
  | @nil sz =>
    have hidn : ¬ N seed := hid seed (Nat.le_refl _) (by have h0 : seed + 1 ≤ lim := hl; omega)
    have hne : ∀ {b}, N b → b ≠ seed := fun hb e => hidn (e ▸ hb)
    have h1 := h.rel.virt (id := seed) (nx' := seed + 1) hidn sz false
    have hN : ∀ b, With N seed b → Span N seed (seed + 1) b := fun b hb => hb.imp id fun e => by omega
    have h2 := h1.weakN (nx' := seed + 1) hN
    have hs : Step (env U N s w ι) (env U (Span N seed (seed + 1)) (App [(seed, .row sz [] false)] (seed + 1) s) w (upd ι seed none)) := by
      refine ⟨fun blk hb => ?_, fun _ _ => rfl, fun b hb => .inl hb, fun b sz' es fz' hN' hb => ?_, fun b cs hN' hb => ?_, fun b kd kv hN' hb => ?_⟩
      · obtain ⟨k1, k2, k3⟩ := hb
        refine ⟨k1, k2, fun b' o' hb' hm => ?_⟩
        replace hb' : lk ((seed, _) :: s.hp) b' = some o' := hb'
        show upd ι seed none b' ≠ some blk
        by_cases he : b' = seed
        · subst he; rw [upd_same]; simp
        · rw [upd_other _ _ _ he]
          rw [lk_cons, if_neg (Ne.symm he)] at hb'
          exact k3 b' o' hb' hm
      · replace hb : lk ((seed, _) :: s.hp) b = some (.row sz' es fz') := hb
        rw [lk_cons, if_neg (Ne.symm (hne hN'))] at hb
        exact ⟨sz', es, fz', hb, .inl ⟨.inr rfl, rfl, upd_other _ _ _ (hne hN'), fun g _ cur ty hh => ⟨cur, hh, rfl⟩⟩⟩
      · replace hb : lk ((seed, _) :: s.hp) b = some (.box cs) := hb
        rw [lk_cons, if_neg (Ne.symm (hne hN'))] at hb
        exact ⟨cs, hb, upd_other _ _ _ (hne hN')⟩
      · replace hb : lk ((seed, _) :: s.hp) b = some (.mp kd kv) := hb
        rw [lk_cons, if_neg (Ne.symm (hne hN'))] at hb
        exact ⟨kv, hb, upd_other _ _ _ (hne hN')⟩
    have key : ∀ {b o' g}, lk ((seed, Ob.row sz [] false) :: s.hp) b = some o' → upd ι seed none b = some g → lk s.hp b = some o' ∧ ι b = some g := fun {b o' g} hb hi => by
      have hbs : b ≠ seed := by rintro rfl; rw [upd_same] at hi; cases hi
      rw [lk_cons, if_neg (Ne.symm hbs)] at hb
      rw [upd_other _ _ _ hbs] at hi
      exact ⟨hb, hi⟩
    refine ⟨_, ⟨h2, h.tu, fun b o' g hb hm hi => ?_, fun g hg => h.fu g (by simp [hg]), fun b o' g hb hi hm => ?_⟩, ?_, hs⟩
    · obtain ⟨q1, q2⟩ := key hb hi; exact h.tm b o' g q1 hm q2
    · obtain ⟨q1, q2⟩ := key hb hi; exact h.fi b o' g q1 q2 (by simp [hm])
    · refine nil_rep (.inr ⟨Nat.le_refl _, by show seed < seed + 1; omega⟩) (upd_same _ _ _) (sz := sz) (fz := false) ?_
      simp [env, lk_nil, lk_cons, unC, App]
  | @o g cap sz es n hn hr =>
    subst hn
    obtain ⟨hsz, hle, hm, hw, cur, ty, hh, hcs, hc⟩ := hr
    have hidn : ¬ N seed := hid seed (Nat.le_refl _) (by have h0 : seed + 1 ≤ lim := hl; omega)
    obtain ⟨f1, f2, f3⟩ := h.fu g (by simp)
    obtain ⟨h1, hs1⟩ := h.rel.adopt (id := seed) (nx' := seed + 1) hidn f1 f2 (fun b o' hb hi => h.fi b o' g hb hi (by simp)) hh ⟨hsz, hw⟩ (fun k c hk => by
      obtain ⟨y, hy, hr⟩ := hc k c hk
      exact ⟨y, hy, Shows.keep h.tr (fun _ _ => rfl) hr⟩)
    have hN : ∀ b, With N seed b → Span N seed (seed + 1) b := fun b hb => hb.imp id fun e => by omega
    have h2 := h1.weakN (nx' := seed + 1) hN
    have hgG : g ∉ G := fun hg => by
      have : (g :: G).Nodup := hnd
      exact (List.nodup_cons.1 this).1 hg
    have key : ∀ {b o' g'}, lk ((seed, Ob.row sz es false) :: s.hp) b = some o' → upd ι seed (some g) b = some g' → (g' = g) ∨ (lk s.hp b = some o' ∧ ι b = some g') := fun {b o' g'} hb hi => by
      by_cases hbs : b = seed
      · subst hbs; rw [upd_same] at hi; cases hi; exact .inl rfl
      · rw [lk_cons, if_neg (Ne.symm hbs)] at hb
        rw [upd_other _ _ _ hbs] at hi
        exact .inr ⟨hb, hi⟩
    refine ⟨_, ⟨h2, h.tu, fun b o' g' hb hm' hi => ?_, fun g' hg' => h.fu g' (by simp [hg']), fun b o' g' hb hi hm' => ?_⟩, ?_, ?_⟩
    · rcases key hb hi with rfl | ⟨q1, q2⟩
      · exact f3
      · exact h.tm b o' g' q1 hm' q2
    · rcases key hb hi with rfl | ⟨q1, q2⟩
      · exact hgG hm'
      · exact h.fi b o' g' q1 q2 (by simp [hm'])
    · refine own_rep (sz := sz) (es := es) (fz := false) (.inr ⟨Nat.le_refl _, by show seed < seed + 1; omega⟩) (upd_same _ _ _) (by simp [env, lk_nil, lk_cons, unC, App]) rfl hle hm hh hcs
    · have hs2 : Step (env U (With N seed) { s with hp := (seed, .row sz es false) :: s.hp, nx := seed + 1 } w (upd ι seed (some g))) (env U (Span N seed (seed + 1)) (App [(seed, .row sz es false)] (seed + 1) s) w (upd ι seed (some g))) := Step.same rfl rfl rfl rfl hN
      exact ⟨fun b hb => hs2.S b (hs1.S b hb), fun _ _ => rfl, fun b hb => .inl hb, fun b sz' es' fz' hN' hb => hs1.row b sz' es' fz' hN' hb, fun b cs hN' hb => hs1.box b cs hN' hb, fun b kd kv hN' hb => hs1.mp b kd kv hN' hb⟩
end
end
end Go.Proofs.Ytmhnogmbpoeaeaa.Eng
namespace Go.Proofs.Ytmhnogmbpoeaeaa.Eng
set_option linter.all false
noncomputable section
open Go.RowKit

section
variable {P : Program} {U : Nat → Prop} {w0 : Base} {N : Nat → Prop} {s : St} {a : Act} {w : World} {ι : Nat → Option Nat} {seed : Nat} {o : Oper}

theorem Take.weakN {N' : Nat → Prop} {nx' : Nat} {T : Nat → Prop} {F : List Nat} (h : Take U w0 N T F s a w ι) (hN : ∀ b, N b → N' b) : Take U w0 N' T F { s with nx := nx' } a w ι :=
  ⟨h.rel.weakN hN, h.tu, h.tm, h.fu, h.fi⟩
theorem Step.trans' {E E' E'' : Env} (h : Step E E') (k : Step E' E'') (_hS : ∀ b, E.S b → E'.S b) : Step E E'' := h.trans k
theorem unL_le : ∀ (seed : Nat) (cs : List RC), seed ≤ (unL seed cs).2.2
  | _, [] => Nat.le_refl _
  | seed, c :: cs => Nat.le_trans (unC_le seed c) (unL_le _ cs)
theorem unX_le (seed : Nat) (x : RX) : seed ≤ (unX seed x).2.2 := by
  cases x with
  | one c => exact unC_le seed c
  | agg cs => exact unL_le seed cs
theorem unXs_le : ∀ (seed : Nat) (cs : List RX), seed ≤ (unXs seed cs).2.2
  | _, [] => Nat.le_refl _
  | seed, c :: cs => Nat.le_trans (unX_le seed c) (unXs_le _ cs)

/-- The list of parts, whatever they are. -/
theorem Take.list {β γ : Type} {Sh : (Nat → Prop) → World → Value → β → List Nat → Prop} {un : Nat → β → γ × List (Nat × Ob) × Nat} {uns : Nat → List β → List γ × List (Nat × Ob) × Nat} {R : Env → Value → γ → Prop}
    (hun : ∀ seed, uns seed [] = ([], [], seed)) (hus : ∀ seed c cs, uns seed (c :: cs) = ((un seed c).1 :: (uns (un seed c).2.2 cs).1, (uns (un seed c).2.2 cs).2.1 ++ (un seed c).2.1, (uns (un seed c).2.2 cs).2.2))
    (hle : ∀ seed c, seed ≤ (un seed c).2.2) (hles : ∀ seed cs, seed ≤ (uns seed cs).2.2) (hkeep : ∀ {E E' : Env}, Step E E' → ∀ {x : Value} {g : γ}, R E x g → R E' x g)
    (hone : ∀ {N : Nat → Prop} {s : St} {ι : Nat → Option Nat} {seed : Nat} {T : Nat → Prop} {F G : List Nat} (_ : Take U w0 N T (F ++ G) s a w ι) (_ : (F ++ G).Nodup) {lim : Nat} (_ : ∀ k, seed ≤ k → k < lim → ¬ N k) {x : Value} {c : β} (_ : (un seed c).2.2 ≤ lim) (_ : Sh T w x c F),
      ∃ ι', Take U w0 (Span N seed (un seed c).2.2) T G (App (un seed c).2.1 (un seed c).2.2 s) a w ι' ∧ R (env U (Span N seed (un seed c).2.2) (App (un seed c).2.1 (un seed c).2.2 s) w ι') x (un seed c).1 ∧
        Step (env U N s w ι) (env U (Span N seed (un seed c).2.2) (App (un seed c).2.1 (un seed c).2.2 s) w ι'))
    {xs : List Value} {cs : List β} {F : List Nat} {T : Nat → Prop} (hx : ShowsL (Sh T w) xs cs F) :
    ∀ {N : Nat → Prop} {s : St} {ι : Nat → Option Nat} {seed : Nat} {G : List Nat} (_ : Take U w0 N T (F ++ G) s a w ι) (_ : (F ++ G).Nodup) {lim : Nat} (_ : ∀ k, seed ≤ k → k < lim → ¬ N k) (_ : (uns seed cs).2.2 ≤ lim),
      ∃ ι', Take U w0 (Span N seed (uns seed cs).2.2) T G (App (uns seed cs).2.1 (uns seed cs).2.2 s) a w ι' ∧ All2 (R (env U (Span N seed (uns seed cs).2.2) (App (uns seed cs).2.1 (uns seed cs).2.2 s) w ι')) xs (uns seed cs).1 ∧
        Step (env U N s w ι) (env U (Span N seed (uns seed cs).2.2) (App (uns seed cs).2.1 (uns seed cs).2.2 s) w ι') := by
  induction hx with
  | nil =>
    intro N s ι seed G h hnd lim hid hl
    rw [hun]
    refine ⟨ι, h.weakN (fun _ h => .inl h), .nil, Step.same rfl rfl rfl rfl fun _ h => .inl h⟩
  | @cons x c F1 xs cs F2 hx _ ih =>
    intro N s ι seed G h hnd lim hid hl
    rw [hus] at hl ⊢
    simp only at hl ⊢
    rw [List.append_assoc] at h hnd
    have hl1 : (un seed c).2.2 ≤ lim := Nat.le_trans (hles _ cs) hl
    obtain ⟨ι1, t1, r1, s1⟩ := hone h hnd hid hl1 hx
    have hnd2 : (F2 ++ G).Nodup := (List.nodup_append.1 hnd).2.1
    obtain ⟨ι2, t2, r2, s2⟩ := ih (seed := (un seed c).2.2) t1 hnd2 (lim := lim) (fun k hk hk' hN => by
      rcases hN with hN | ⟨h1, h2⟩
      · exact hid k (Nat.le_trans (hle seed c) hk) hk' hN
      · omega) hl
    have hN : ∀ b, Span (Span N seed (un seed c).2.2) (un seed c).2.2 (uns (un seed c).2.2 cs).2.2 b → Span N seed (uns (un seed c).2.2 cs).2.2 b := fun b hb => by
      have e1 := hle seed c
      have e2 := hles (un seed c).2.2 cs
      rcases hb with (hb | hb) | hb
      · exact .inl hb
      · exact .inr (by omega)
      · exact .inr (by omega)
    have e : (App (uns (un seed c).2.2 cs).2.1 (uns (un seed c).2.2 cs).2.2 (App (un seed c).2.1 (un seed c).2.2 s)) = App ((uns (un seed c).2.2 cs).2.1 ++ (un seed c).2.1) (uns (un seed c).2.2 cs).2.2 s := by
      simp [App]
    rw [e] at t2 r2 s2
    have s3 : Step (env U (Span (Span N seed (un seed c).2.2) (un seed c).2.2 (uns (un seed c).2.2 cs).2.2) (App ((uns (un seed c).2.2 cs).2.1 ++ (un seed c).2.1) (uns (un seed c).2.2 cs).2.2 s) w ι2)
      (env U (Span N seed (uns (un seed c).2.2 cs).2.2) (App ((uns (un seed c).2.2 cs).2.1 ++ (un seed c).2.1) (uns (un seed c).2.2 cs).2.2 s) w ι2) := Step.same rfl rfl rfl rfl hN
    refine ⟨ι2, t2.weakN (nx' := (uns (un seed c).2.2 cs).2.2) hN, .cons (hkeep s3 (hkeep s2 r1)) (r2.mono fun _ _ => hkeep s3), ?_⟩
    exact Step.trans s1 (Step.trans s2 s3)
theorem Take.x {T : Nat → Prop} {F G : List Nat} (h : Take U w0 N T (F ++ G) s a w ι) (hnd : (F ++ G).Nodup) {lim : Nat} (hid : ∀ k, seed ≤ k → k < lim → ¬ N k) {x : Value} {c : RX} (hl : (unX seed c).2.2 ≤ lim) (hx : ShowsX T w x c F) :
    ∃ ι', Take U w0 (Span N seed (unX seed c).2.2) T G (App (unX seed c).2.1 (unX seed c).2.2 s) a w ι' ∧ RepX (env U (Span N seed (unX seed c).2.2) (App (unX seed c).2.1 (unX seed c).2.2 s) w ι') x (unX seed c).1 ∧
      Step (env U N s w ι) (env U (Span N seed (unX seed c).2.2) (App (unX seed c).2.1 (unX seed c).2.2 s) w ι') := by
  cases c with
  | one c => exact h.c hnd hid hl hx
  | agg cs =>
    obtain ⟨arr, rfl, ha⟩ := hx
    obtain ⟨ι', t, r, st⟩ := Take.list (Sh := ShowsC) (un := unC) (uns := unL) (R := RepC) (fun _ => rfl) (fun _ _ _ => rfl) unC_le unL_le (fun hs => RepC.keep hs) (by intro N s ι seed T F G h hnd lim hid x c hl hx; exact h.c hnd hid hl hx) ha h hnd hid hl
    exact ⟨ι', t, ⟨arr, rfl, r⟩, st⟩
theorem Take.v {T : Nat → Prop} {F G : List Nat} (h : Take U w0 N T (F ++ G) s a w ι) (hnd : (F ++ G).Nodup) {lim : Nat} (hid : ∀ k, seed ≤ k → k < lim → ¬ N k) {x : Value} {r : RV} (hl : (unV' seed r).2.2 ≤ lim) (hx : ShowsV T w x r F) :
    ∃ ι', Take U w0 (Span N seed (unV' seed r).2.2) T G (App (unV' seed r).2.1 (unV' seed r).2.2 s) a w ι' ∧ RepV (env U (Span N seed (unV' seed r).2.2) (App (unV' seed r).2.1 (unV' seed r).2.2 s) w ι') x (unV' seed r).1 ∧
      Step (env U N s w ι) (env U (Span N seed (unV' seed r).2.2) (App (unV' seed r).2.1 (unV' seed r).2.2 s) w ι') := by
  have tup : ∀ (l : List RX), (unXs seed l).2.2 ≤ lim → (∃ arr : Array Value, x = .tuple arr ∧ ShowsL (ShowsX T w) arr.toList l F) → ∃ ι', Take U w0 (Span N seed (unXs seed l).2.2) T G (App (unXs seed l).2.1 (unXs seed l).2.2 s) a w ι' ∧ RepV (env U (Span N seed (unXs seed l).2.2) (App (unXs seed l).2.1 (unXs seed l).2.2 s) w ι') x (.tup (unXs seed l).1) ∧
      Step (env U N s w ι) (env U (Span N seed (unXs seed l).2.2) (App (unXs seed l).2.1 (unXs seed l).2.2 s) w ι') := fun l hl ⟨arr, hxe, ha⟩ => by
    subst hxe
    obtain ⟨ι', t, r, st⟩ := Take.list (Sh := ShowsX) (un := unX) (uns := unXs) (R := RepX) (fun _ => rfl) (fun _ _ _ => rfl) unX_le unXs_le (fun hs => RepX.keep hs) (by intro N s ι seed T F G h hnd lim hid x c hl hx; exact h.x hnd hid hl hx) ha h hnd hid hl
    exact ⟨ι', t, ⟨arr, rfl, r⟩, st⟩
  match r, hl, hx with
  | [y], hl, hx => exact h.x hnd hid hl hx
  | [], hl, hx => exact tup [] hl hx
  | y :: z :: l, hl, hx => exact tup (y :: z :: l) hl hx
end
end
end Go.Proofs.Ytmhnogmbpoeaeaa.Eng
namespace Go.Proofs.Ytmhnogmbpoeaeaa.Eng
set_option linter.all false
noncomputable section
open Go.RowKit

theorem ShowsC.flat {T T' : Nat → Prop} {w : World} {x : Value} {c : RC} {F : List Nat} (h : ShowsC T w x c F) (hf : RCFlat c) : ShowsC T' w x c F := by
  cases h with
  | c h => exact .c (h.flat hf)
  | nil => exact .nil
  | o hn h =>
    refine .o hn ⟨h.pos, h.le, h.max, h.width, ?_⟩
    obtain ⟨cur, ty, h1, h2, h3⟩ := h.cells
    refine ⟨cur, ty, h1, h2, fun k c hk => ?_⟩
    obtain ⟨y, hy, hs⟩ := h3 k c hk
    obtain ⟨e, he, hce⟩ := List.mem_flatten.1 (List.mem_of_getElem? hk)
    exact ⟨y, hy, hs.flat (hf e he c hce)⟩
theorem ShowsL.mono {β : Type} {R R' : Value → β → List Nat → Prop} {xs : List Value} {cs : List β} {F : List Nat} (h : ShowsL R xs cs F) (hr : ∀ x c F, c ∈ cs → R x c F → R' x c F) : ShowsL R' xs cs F := by
  induction h with
  | nil => exact .nil
  | cons h _ ih => exact .cons (hr _ _ _ (by simp) h) (ih fun x c F hc => hr x c F (by simp [hc]))
theorem ShowsX.flat {T T' : Nat → Prop} {w : World} {x : Value} {c : RX} {F : List Nat} (h : ShowsX T w x c F) (hf : RXFlat c) : ShowsX T' w x c F := by
  cases c with
  | one c => exact ShowsC.flat h hf
  | agg cs => obtain ⟨arr, h1, h2⟩ := h; exact ⟨arr, h1, h2.mono fun x c F hc hs => ShowsC.flat hs (hf c hc)⟩
theorem ShowsV.flat {T T' : Nat → Prop} {w : World} {x : Value} {r : RV} {F : List Nat} (h : ShowsV T w x r F) (hf : Flat r) : ShowsV T' w x r F := by
  match r, h, hf with
  | [y], h, hf => exact ShowsX.flat h (hf y (by simp))
  | [], h, hf => obtain ⟨arr, h1, h2⟩ := h; exact ⟨arr, h1, h2.mono fun x c F hc hs => ShowsX.flat hs (hf c hc)⟩
  | y :: z :: l, h, hf => obtain ⟨arr, h1, h2⟩ := h; exact ⟨arr, h1, h2.mono fun x c F hc hs => ShowsX.flat hs (hf c hc)⟩

theorem argX_frz (hp : List (Nat × Ob)) (ids : List Nat) (v : AV) : argX (frz hp ids) v = argX hp v := by
  have hl : ∀ cs, dataL (frz hp ids) cs = dataL hp cs := fun cs => by
    induction cs with
    | nil => rfl
    | cons c cs ih => simp only [dataL, dataC_frz, ih]
  cases v with
  | x v => cases v with
    | one c => simp only [argX, dataC_frz]
    | agg cs => simp only [argX, hl]
  | tup _ => rfl
theorem argL_frz (hp : List (Nat × Ob)) (ids : List Nat) : ∀ vs, argL (frz hp ids) vs = argL hp vs
  | [] => rfl
  | v :: vs => by simp only [argL, argX_frz, argL_frz hp ids vs]
theorem evL_hp (s : St) (hp : List (Nat × Ob)) : ∀ xs, evL { s with hp := hp } xs = evL s xs
  | [] => rfl
  | x :: xs => by
    have : evO { s with hp := hp } x = evO s x := by cases x <;> rfl
    simp only [evL, this, evL_hp s hp xs]

section
variable {P : Program} {U : Nat → Prop} {w0 : Base} {N : Nat → Prop} {s : St} {a : Act} {w : World} {ι : Nat → Option Nat} {seed : Nat} {o : Oper}

def callHp (s : St) (fz : Bool) (vs : List AV) : List (Nat × Ob) := if fz then frz s.hp (vs.flatMap idsX) else s.hp
theorem call_wp (h : Rel U w0 N s a w ι) (hU : ∀ b, w0.w.heap.size ≤ b → U b) {f : FuncId} {args : Array Operand} {ts : Array TypeId} (ho : o.op = .call { callee := .value (.func f), args := args, argTypes := ts })
    {vs : List AV} {ds : List DA} (hv : evL s args.toList = some vs) (hd : argL s.hp vs = some ds) {r : RV} (hc : Con P f ds r) {fz : Bool} (hfz : fz = true ∨ Flat r) {lim : Nat} (hid : ∀ k, seed ≤ k → k < lim → ¬ N k) (hl : (unV' seed r).2.2 ≤ lim)
    {K : Act → World → Prop} {Q : Exit → Act → World → Prop}
    (hK : ∀ v w' ι', Rel U w0 (Span N seed (unV' seed r).2.2) (App (unV' seed r).2.1 (unV' seed r).2.2 { s with hp := callHp s fz vs }) a w' ι' →
      RepV (env U (Span N seed (unV' seed r).2.2) (App (unV' seed r).2.1 (unV' seed r).2.2 { s with hp := callHp s fz vs }) w' ι') v (unV' seed r).1 → K (a.put o.dst v) w') : o.wp P a w K Q := by
  obtain ⟨⟨fn, hf, hname, hbody⟩, hcalls⟩ := hc
  have h1 : Rel U w0 N { s with hp := callHp s fz vs } a w ι := by
    cases fz with
    | false => exact h
    | true => exact h.frz _
  have hv1 : evL { s with hp := callHp s fz vs } args.toList = some vs := by rw [evL_hp]; exact hv
  have hd1 : argL (callHp s fz vs) vs = some ds := by
    cases fz with
    | false => exact hd
    | true => show argL (frz s.hp _) vs = _; rw [argL_frz]; exact hd
  have hpass := h1.passAll hv1 hd1
  have hS : ∀ b, (Tr U w ι (lk (callHp s fz vs)) b ∨ ∃ i ∈ vs.flatMap idsX, Own ι (callHp s fz vs) i b) → b < w.heap.size := by
    rintro b (hb | ⟨i, _, hi, sz, es, f, hlk⟩)
    · exact hb.2.1
    · exact h1.old (o := .row sz es f) hlk hi
  have hcall := hcalls _ w (args.map a.eval) hS (by simpa using hpass)
  have hrun : (execOp a.eval o).run P w = .ok (.enter f (args.map a.eval)) w := by
    have hn' : ¬ fn.name = "runtime.NumGoroutine" := by simpa using hname
    have hb' : ¬ fn.body = none := by intro e; rw [e] at hbody; simp at hbody
    simp [execOp, ho, resolve, Act.eval, Deferred.ofValue, invoke, callFunc, hf, hn', hb']
  unfold Oper.wp
  rw [hrun, Oper.upon_enter]
  refine hcall.mono fun e w' ⟨v, F, he, hsh, hg, hnd, hF⟩ => ?_
  subst he
  simp only
  -- what may be read behind the call
  have h2 : Rel (fun b => U b ∧ b ∉ F) w0 N { s with hp := callHp s fz vs } a w' ι := h1.world hg fun b hb hub => ⟨hub, fun hbF => by have := (hF b hbF).1; omega⟩
  have hsh' : ∃ T : Nat → Prop, ShowsV T w' v r F ∧ (∀ b, T b → (U b ∧ b ∉ F) ∧ b < w'.heap.size) ∧ (∀ b o g, lk (callHp s fz vs) b = some o → o.mut = true → ι b = some g → ¬ T g) ∧ ∀ g ∈ F, ¬ T g := by
    cases fz with
    | false =>
      have hflat : Flat r := by rcases hfz with h' | h'; cases h'; exact h'
      exact ⟨fun _ => False, hsh.flat hflat, fun _ h => h.elim, fun _ _ _ _ _ _ h => h, fun _ _ h => h⟩
    | true =>
      refine ⟨_, hsh, fun b hb => ?_, fun b o g hb hm hi hT => ?_, fun g hg hT => hT.2.2 hg⟩
      · obtain ⟨hb, hlt, hnF⟩ := hb
        refine ⟨⟨?_, hnF⟩, hlt⟩
        rcases hb with (hb | ⟨i, _, hi, sz, es, f, hlk⟩) | hb
        · exact hb.1
        · exact hU b (h1.block (o := .row sz es f) hlk hi).1
        · exact hU b (Nat.le_trans h.gr.size hb)
      · have hglt : g < w.heap.size := h1.old hb hi
        rcases hT.1 with (hT | ⟨i, hin, hii, sz, es, f, hlk⟩) | hT
        · exact hT.2.2 b o hb hm hi
        · have : b = i := h1.inj b i _ _ g hb hlk hi hii
          subst this
          have hlk' : lk (frz s.hp (vs.flatMap idsX)) b = some (.row sz es f) := hlk
          rw [lk_frz] at hlk'
          have ho : o = .row sz es f := by rw [hlk] at hb; exact (Option.some.inj hb).symm
          subst ho
          cases hs : lk s.hp b with
          | none => rw [hs] at hlk'; cases hlk'
          | some o' =>
            rw [hs] at hlk'
            cases o' with
            | box _ => cases hlk'
            | mp _ _ => cases hlk'
            | row sz' es' f' =>
              simp only [Option.some.injEq, Ob.row.injEq] at hlk'
              have : f = true := by rw [← hlk'.2.2]; simp [hin]
              subst this
              simp [Ob.mut] at hm
        · omega
  obtain ⟨T, hsT, hTU, hTm, hTF⟩ := hsh'
  have htake : Take (fun b => U b ∧ b ∉ F) w0 N T (F ++ []) { s with hp := callHp s fz vs } a w' ι :=
    ⟨h2, hTU, hTm, fun g hg => by
      rw [List.append_nil] at hg
      exact ⟨fun hu => hu.2 hg, Nat.le_trans h.gr.size (hF g hg).1, hTF g hg⟩, fun b o g hb hi hg => by
      rw [List.append_nil] at hg
      have := h1.old hb hi
      have := (hF g hg).1
      omega⟩
  obtain ⟨ι', t, r', _⟩ := htake.v (by simpa using hnd) hid hl hsT
  refine hK v w' ι' (t.rel.univ fun b hb => hb.1) (r'.keep ?_)
  refine ⟨fun b hb => ⟨hb.1.1, hb.2⟩, fun _ _ => rfl, fun _ h => h, fun b sz es fz _ hb => ⟨sz, es, fz, hb, .inl ⟨.inr rfl, rfl, rfl, fun g _ cur ty hh => ⟨cur, hh, rfl⟩⟩⟩, fun b cs _ hb => ⟨cs, hb, rfl⟩, fun b kd kv _ hb => ⟨kv, hb, rfl⟩⟩
end
end
end Go.Proofs.Ytmhnogmbpoeaeaa.Eng
namespace Go.Proofs.Ytmhnogmbpoeaeaa.Eng
set_option linter.all false
noncomputable section
open Go.RowKit

/-- A map's type: the kind of its keys, its elements' type. -/
def keyK (P : Program) (t : TypeId) : Option (IntKind × TypeId) :=
  match P.underlying t with
  | some (.map k e) => match P.underlying k with
    | some (.int kd) => some (kd, e)
    | _ => none
  | _ => none
theorem keyK_spec {P : Program} {t e : TypeId} {kd : IntKind} (h : keyK P t = some (kd, e)) : ∃ k, P.underlying t = some (.map k e) ∧ P.underlying k = some (.int kd) := by
  unfold keyK at h
  split at h
  · rename_i k e' hk
    split at h
    · rename_i kd' hkd
      simp only [Option.some.injEq, Prod.mk.injEq] at h
      obtain ⟨rfl, rfl⟩ := h
      exact ⟨k, hk, hkd⟩
    · cases h
  · cases h
def lookV : List (Int × Value) → Int → Value → Value
  | [], _, z => z
  | p :: l, a, z => if p.1 = a then p.2 else lookV l a z
def hasK : List (Int × Value) → Int → Bool
  | [], _ => false
  | p :: l, a => if p.1 = a then true else hasK l a
def updK : List (Int × Value) → Int → Value → List (Int × Value)
  | [], a, u => [(a, u)]
  | p :: l, a, u => if p.1 = a then (a, u) :: l else p :: updK l a u
def EntsOf (kd : IntKind) (l : List MapEntry) (kv : List (Int × Value)) : Prop := l.map (fun e => (e.key, e.val)) = kv.map fun p => (Value.int kd p.1, p.2)
theorem ents_find {kd kk : IntKind} (a : Int) : ∀ {l : List MapEntry} {kv : List (Int × Value)} (i : Nat), EntsOf kd l kv →
    (Instr.findNow (.int kk) (.int kd a) l i = some none ∧ hasK kv a = false ∧ (∀ z, lookV kv a z = z) ∧ ∀ u, updK kv a u = kv ++ [(a, u)]) ∨
    ∃ j e, Instr.findNow (.int kk) (.int kd a) l i = some (some (i + j, e.val)) ∧ l[j]? = some e ∧ e.key = .int kd a ∧ hasK kv a = true ∧ (∀ z, lookV kv a z = e.val) ∧
      ∀ (u : Value) (f : MapEntry → MapEntry), (∀ e, (f e).key = .int kd a ∧ (f e).val = u) → EntsOf kd (l.modify j f) (updK kv a u)
  | [], kv, i, h => by
    have : kv = [] := by simpa [EntsOf] using h.symm
    subst this
    exact .inl ⟨rfl, rfl, fun _ => rfl, fun _ => rfl⟩
  | e :: l, [], i, h => by simp [EntsOf] at h
  | e :: l, p :: kv, i, h => by
    simp only [EntsOf, List.map_cons, List.cons.injEq, Prod.mk.injEq] at h
    obtain ⟨⟨h1, h2⟩, h3⟩ := h
    by_cases hp : p.1 = a
    · refine .inr ⟨0, e, ?_, rfl, by rw [h1, hp], by simp [hasK, hp], fun z => by simp [lookV, hp, h2], fun u f hf => ?_⟩
      · simp [Instr.findNow, Instr.sameNow, h1, hp]
      · have e1 : (e :: l).modify 0 f = f e :: l := rfl
        rw [e1]
        unfold EntsOf
        simp only [List.map_cons, updK, if_pos hp, (hf e).1, (hf e).2]
        rw [show l.map (fun e => (e.key, e.val)) = _ from h3]
    · have hpa : (a == p.1) = false := by
        cases hb : (a == p.1) with
        | false => rfl
        | true => exact absurd (by simpa using hb : a = p.1).symm hp
      rcases ents_find (kk := kk) a (i + 1) (show EntsOf kd l kv from h3) with ⟨q1, q2, q3, q4⟩ | ⟨j, e', q1, q2, q3, q4, q5, q6⟩
      · refine .inl ⟨by simp [Instr.findNow, Instr.sameNow, h1, hpa, q1], by simp [hasK, hp, q2], fun z => by simp [lookV, hp, q3], fun u => by simp [updK, hp, q4]⟩
      · refine .inr ⟨j + 1, e', ?_, by simpa using q2, q3, by simp [hasK, hp, q4], fun z => by simp [lookV, hp, q5], fun u f hf => ?_⟩
        · simp [Instr.findNow, Instr.sameNow, h1, hpa, q1]; omega
        · have e1 : (e :: l).modify (j + 1) f = e :: l.modify j f := rfl
          rw [e1]
          unfold EntsOf
          simp only [List.map_cons, updK, if_neg hp, h1, h2]
          rw [show (l.modify j f).map (fun e => (e.key, e.val)) = _ from q6 u f hf]

section
variable {P : Program} {S0 : Nat → Prop} {w0 : Base} {N : Nat → Prop} {s : St} {a : Act} {w : World} {ι : Nat → Option Nat} {seed : Nat} {o : Oper}
theorem gr_allocM {w : World} (h : Gr w0.w w) : Gr w0.w (w.alloc (.map #[] 0)) :=
  ⟨h.below.alloc h.size _, fun x => by
    refine Eq.trans ?_ (h.marks x)
    unfold World.frozen?
    by_cases hb : x.block = w.heap.size
    · have e1 : (w.alloc (.map #[] 0)).heap[x.block]? = some (.map #[] 0) := by rw [hb]; exact (MapKept.heap_alloc w _).1
      have e2 : w.heap[x.block]? = none := by rw [hb]; simp
      rw [e1, e2]
    · rcases Nat.lt_or_ge x.block w.heap.size with h1 | h1
      · rw [(MapKept.heap_alloc w _).2 _ h1]
      · have e1 : (w.alloc (.map #[] 0)).heap[x.block]? = none := Array.getElem?_eq_none (by rw [World.size_alloc]; omega)
        have e2 : w.heap[x.block]? = none := Array.getElem?_eq_none h1
        rw [e1, e2]⟩
/-- A new map. -/
theorem Rel.allocM (h : Rel S0 w0 N s a w ι) {id nx' : Nat} (hid : ¬ N id) (kd : IntKind) :
    Rel S0 w0 (With N id) { s with hp := (id, .mp kd []) :: s.hp, nx := nx' } a (w.alloc (.map #[] 0)) (upd ι id (some w.heap.size)) := by
  have hne : ∀ {b}, N b → b ≠ id := fun hb e => hid (e ▸ hb)
  have hlk : ∀ {b}, N b → lk ((id, Ob.mp kd []) :: s.hp) b = lk s.hp b := fun hb => by rw [lk_cons, if_neg (Ne.symm (hne hb))]
  have hgl : ∀ b o' g, lk s.hp b = some o' → ι b = some g → g < w.heap.size := fun b o' g hb hg => (h.lt hb hg).2
  have hs : Step (env S0 N s w ι) (env S0 (With N id) { s with hp := (id, .mp kd []) :: s.hp, nx := nx' } (w.alloc (.map #[] 0)) (upd ι id (some w.heap.size))) := by
    refine ⟨fun blk' hb => ?_, fun ad had => World.cell?_alloc_lt w _ ad had.2.1, fun b hb => .inl hb, fun b sz es fz hN hb => ?_, fun b cs hN hb => ?_, fun b kd' kv hN hb => ?_⟩
    · obtain ⟨h1, h2, h3⟩ := hb
      refine ⟨h1, by show blk' < (w.alloc _).heap.size; rw [World.size_alloc]; omega, fun b' o' hb' hm => ?_⟩
      replace hb' : lk ((id, _) :: s.hp) b' = some o' := hb'
      show upd ι id _ b' ≠ some blk'
      by_cases he : b' = id
      · subst he; rw [upd_same]; intro e; cases e; omega
      · rw [upd_other _ _ _ he]
        rw [lk_cons, if_neg (Ne.symm he)] at hb'
        exact h3 b' o' hb' hm
    · have hb' : lk s.hp b = some (.row sz es fz) := by rw [← hlk hN]; exact hb
      refine ⟨sz, es, fz, hb', .inl ⟨.inr rfl, rfl, upd_other _ _ _ (hne hN), fun g hg cur' ty' hh => ⟨cur', ?_, rfl⟩⟩⟩
      exact (Below.heap_alloc w _ g (heap_lt hh)).trans hh
    · have hb' : lk s.hp b = some (.box cs) := by rw [← hlk hN]; exact hb
      exact ⟨cs, hb', upd_other _ _ _ (hne hN)⟩
    · have hb' : lk s.hp b = some (.mp kd' kv) := by rw [← hlk hN]; exact hb
      exact ⟨kv, hb', upd_other _ _ _ (hne hN)⟩
  refine h.change hs (gr_allocM h.gr) (fun b o' hb => ?_) (fun b b' o1 o2 g h1 h2 g1 g2 => ?_)
  · by_cases he : b = id
    · subst he
      rw [lk_cons, if_pos rfl] at hb
      cases hb
      refine ⟨.inr rfl, ?_⟩
      unfold RepO
      have hi : (env S0 (With N b) { s with hp := (b, .mp kd []) :: s.hp, nx := nx' } (w.alloc (.map #[] 0)) (upd ι b (some w.heap.size))).ι b = some w.heap.size := upd_same _ _ _
      rw [hi]
      exact ⟨h.gr.size, .inr ⟨kd, [], #[], 0, rfl, (MapKept.heap_alloc w _).1, rfl⟩⟩
    · rw [lk_cons, if_neg (Ne.symm he)] at hb
      obtain ⟨hN, hr⟩ := h.ob b o' hb
      refine ⟨.inl hN, RepO.keep hs (upd_other _ _ _ he) (fun g hg => Below.heap_alloc w _ g (hgl b o' g hb hg)) hr⟩
  · by_cases e1 : b = id <;> by_cases e2 : b' = id
    · exact e1.trans e2.symm
    · subst e1
      rw [upd_same] at g1; cases g1
      rw [upd_other _ _ _ e2] at g2
      rw [lk_cons, if_neg (Ne.symm e2)] at h2
      exact absurd (hgl b' o2 _ h2 g2) (Nat.lt_irrefl _)
    · subst e2
      rw [upd_same] at g2; cases g2
      rw [upd_other _ _ _ e1] at g1
      rw [lk_cons, if_neg (Ne.symm e1)] at h1
      exact absurd (hgl b o1 _ h1 g1) (Nat.lt_irrefl _)
    · rw [upd_other _ _ _ e1] at g1
      rw [upd_other _ _ _ e2] at g2
      rw [lk_cons, if_neg (Ne.symm e1)] at h1
      rw [lk_cons, if_neg (Ne.symm e2)] at h2
      exact h.inj b b' o1 o2 g h1 h2 g1 g2
/-- What a map of the call's own is in memory. -/
theorem Rel.mpAt (h : Rel S0 w0 N s a w ι) {x : Value} {b : Nat} {kd : IntKind} {kv : List (Int × Value)} (hx : RepC (env S0 N s w ι) x (.mpt b)) (hb : lk s.hp b = some (.mp kd kv)) :
    ∃ g es clock, ι b = some g ∧ x = .map (some g) ∧ w0.w.heap.size ≤ g ∧ w.heap[g]? = some (.map es clock) ∧ EntsOf kd es.toList kv := by
  obtain ⟨_, _, h2⟩ := hx
  obtain ⟨g, hg, rfl⟩ := h2 kd kv hb
  have h3 := (h.ob b _ hb).2
  unfold RepO at h3
  have hg' : (env S0 N s w ι).ι b = some g := hg
  rw [hg'] at h3
  obtain ⟨h1, ⟨cur, ty, _, _, _, h4⟩ | ⟨kd', kv', es, clock, h4, h5, h6⟩⟩ := h3
  · cases h4
  · cases h4
    exact ⟨g, es, clock, hg, rfl, h1, h5, h6⟩
/-- A map's entries are others. -/
theorem Rel.setM (h : Rel S0 w0 N s a w ι) {b g : Nat} {kd : IntKind} {kv kv' : List (Int × Value)} (hb : lk s.hp b = some (.mp kd kv)) (hg : ι b = some g) {es es' : Array MapEntry} {clock clock' : Nat} (hw : w.heap[g]? = some (.map es clock)) (hB : w0.w.heap.size ≤ g) (he : EntsOf kd es'.toList kv') :
    Rel S0 w0 N { s with hp := (b, .mp kd kv') :: s.hp } a { w with heap := w.heap.setIfInBounds g (.map es' clock') } ι := by
  obtain ⟨hsame, hoth⟩ := MapKept.heap_set (o' := .map es' clock') hw
  have hcell : ∀ ad : Addr, ad.block ≠ g → World.cell? { w with heap := w.heap.setIfInBounds g (.map es' clock') } ad = w.cell? ad := fun ad hne => World.cell?_of_block (hoth _ hne)
  have hgr : Gr w0.w { w with heap := w.heap.setIfInBounds g (.map es' clock') } := by
    refine ⟨⟨h.gr.below.os, h.gr.below.tape, h.gr.below.output, by show _ ≤ (w.heap.setIfInBounds g _).size; simp; exact h.gr.below.size, fun k hk => (hoth k (by omega)).trans (h.gr.below.block k hk)⟩, fun ad => ?_⟩
    refine Eq.trans ?_ (h.gr.marks ad)
    unfold World.frozen?
    by_cases e : ad.block = g
    · rw [e, hw]
      show (match (w.heap.setIfInBounds g (.map es' clock'))[g]? with | some (.cells _ _ (lo, hi)) => _ | _ => false) = _
      rw [hsame]
    · show (match (w.heap.setIfInBounds g (.map es' clock'))[ad.block]? with | some (.cells _ _ (lo, hi)) => _ | _ => false) = _
      rw [hoth _ e]
      rfl
  have hs : Step (env S0 N s w ι) (env S0 N { s with hp := (b, .mp kd kv') :: s.hp } { w with heap := w.heap.setIfInBounds g (.map es' clock') } ι) := by
    refine ⟨fun k hk => ?_, fun ad had => hcell ad (fun e => had.2.2 b _ hb rfl (e ▸ hg)), fun _ h => h, fun b1 sz es1 fz hN hb1 => ?_, fun b1 cs hN hb1 => ?_, fun b1 kd1 kv1 hN hb1 => ?_⟩
    · obtain ⟨h1, h2, h3⟩ := hk
      refine ⟨h1, by show k < (w.heap.setIfInBounds g _).size; simpa using h2, fun b' o1 hb' hm1 => ?_⟩
      replace hb' : lk ((b, _) :: s.hp) b' = some o1 := hb'
      by_cases he : b = b'
      · subst he; exact h3 b _ hb rfl
      · rw [lk_cons, if_neg he] at hb'
        exact h3 b' o1 hb' hm1
    · replace hb1 : lk ((b, _) :: s.hp) b1 = some (.row sz es1 fz) := hb1
      by_cases he : b = b1
      · subst he
        rw [lk_cons, if_pos rfl] at hb1
        cases hb1
      · rw [lk_cons, if_neg he] at hb1
        refine ⟨sz, es1, fz, hb1, .inl ⟨.inr rfl, rfl, rfl, fun g1 hg1 cur1 ty1 hh => ⟨cur1, ?_, rfl⟩⟩⟩
        have hne : g1 ≠ g := fun e => he (h.inj b b1 _ _ g hb hb1 hg (e ▸ hg1))
        exact (hoth g1 hne).trans hh
    · replace hb1 : lk ((b, _) :: s.hp) b1 = some (.box cs) := hb1
      by_cases he : b = b1
      · subst he
        rw [lk_cons, if_pos rfl] at hb1
        cases hb1
      · rw [lk_cons, if_neg he] at hb1
        exact ⟨cs, hb1, rfl⟩
    · replace hb1 : lk ((b, _) :: s.hp) b1 = some (.mp kd1 kv1) := hb1
      by_cases he : b = b1
      · subst he
        rw [lk_cons, if_pos rfl] at hb1
        cases hb1
        exact ⟨kv, hb, rfl⟩
      · rw [lk_cons, if_neg he] at hb1
        exact ⟨kv1, hb1, rfl⟩
  refine h.change (nx' := s.nx) hs hgr (fun b1 o1 hb1 => ?_) (fun b1 b2 o1 o2 g1 h1 h2 e1 e2 => ?_)
  · by_cases hbe : b = b1
    · subst hbe
      rw [lk_cons, if_pos rfl] at hb1
      cases hb1
      refine ⟨(h.ob b _ hb).1, ?_⟩
      unfold RepO
      have hi : (env S0 N { s with hp := (b, .mp kd kv') :: s.hp, nx := s.nx } { w with heap := w.heap.setIfInBounds g (.map es' clock') } ι).ι b = some g := hg
      rw [hi]
      exact ⟨hB, .inr ⟨kd, kv', es', clock', rfl, hsame, he⟩⟩
    · rw [lk_cons, if_neg hbe] at hb1
      obtain ⟨hN, hr⟩ := h.ob b1 o1 hb1
      exact ⟨hN, RepO.keep hs rfl (fun g1 hg1 => hoth g1 (fun e => hbe (h.inj b b1 _ _ g hb hb1 hg (e ▸ hg1)))) hr⟩
  · have pick : ∀ {x o1}, lk ((b, Ob.mp kd kv') :: s.hp) x = some o1 → ∃ o2, lk s.hp x = some o2 := fun {x o1} hx => by
      by_cases he : b = x
      · subst he; exact ⟨_, hb⟩
      · rw [lk_cons, if_neg he] at hx; exact ⟨o1, hx⟩
    obtain ⟨_, k1⟩ := pick h1
    obtain ⟨_, k2⟩ := pick h2
    exact h.inj b1 b2 _ _ g1 k1 k2 e1 e2

/-! ### The operations -/
def mmap1 (P : Program) (s : St) (seed : Nat) (t : TypeId) (r : Option Operand) : Option Eff :=
  match keyK P t, r with
  | some (kd, _), none => some { val := some (one (.mpt seed)), ups := [(seed, .mp kd [])], cnt := 1 }
  | some (kd, _), some x => match evP s x with
    | some (.int _ _) => some { val := some (one (.mpt seed)), ups := [(seed, .mp kd [])], cnt := 1 }
    | _ => none
  | none, _ => none
theorem good_mmap (h : Rel S0 w0 N s a w ι) (hid : ∀ k, k < 1 → ¬ N (seed + k)) {t : TypeId} {r : Option Operand} {e : Eff} (ho : o.op = .makeMap t r) (he : mmap1 P s seed t r = some e) : Good P S0 w0 N s a w seed o e := by
  have key : ∀ (kd : IntKind), (Instr.makeMap t (r.map a.eval)).run P w = .ok (.map (some w.heap.size)) (w.alloc (.map #[] 0)) → Good P S0 w0 N s a w seed o { val := some (one (.mpt seed)), ups := [(seed, .mp kd [])], cnt := 1 } := fun kd hrun => by
    have h1 := h.allocM (id := seed) (nx' := seed + 1) (by simpa using hid 0 (by omega)) kd
    have hN : ∀ b, With N seed b → Plus N seed 1 b := fun b hb => hb.imp id (fun e => by omega)
    refine ⟨.map (some w.heap.size), _, _, .inl (by simp [execOp, ho, hrun]), (h1.weakN (nx' := seed + 1) hN), fun y hy => ?_⟩
    cases hy
    exact ⟨.inr ⟨Nat.le_refl _, by show seed < seed + 1; omega⟩, rfl, fun kd' kv hb => ⟨w.heap.size, upd_same _ _ _, rfl⟩⟩
  unfold mmap1 at he
  split at he
  · rename_i kd e0 hk
    cases he
    exact key kd (by simp [Instr.makeMap])
  · rename_i kd e0 x hk
    split at he
    · rename_i q n hx
      cases he
      obtain ⟨kt, ht, _⟩ := keyK_spec hk
      exact key kd (by simp [Instr.makeMap, h.evP hx, run_underlying ht, asInt, asIntOf, Result.andThen])
    · cases he
  · cases he
/-- A plain value as it is seen. -/
def seeV (v : Value) : Option AX :=
  match v with
  | .agg cs => if cs.toList.all (·.oneCell') = true then some (.agg (cs.toList.map fun c => .d (.v c))) else none
  | .tuple _ => none
  | v => some (.one (.d (.v v)))
theorem seeV_rep {E : Env} {v : Value} {x : AX} (h : seeV v = some x) : RepX E v x := by
  unfold seeV at h
  split at h
  · split at h
    · rename_i hc
      cases h
      exact rep_agg (List.all_eq_true.1 hc)
    · cases h
  · cases h
  · rename_i h1 h2
    cases h
    refine Shows.v ?_
    cases v <;> first | rfl | exact absurd rfl (h1 _) | exact absurd rfl (h2 _)
def look1 (P : Program) (s : St) (t : TypeId) (m x : Operand) (ok : Bool) : Option Eff :=
  match keyK P t, evO s m, evP s x with
  | some (kd, e), some (.x (.one (.mpt b))), some (.int q k) => match lk s.hp b, (P.info? e).bind (·.zero) with
    | some (.mp kd' kv), some z => if kd' = kd ∧ q = kd then (seeV (lookV kv k z)).map fun v => { val := some (if ok then .tup [v, .one (.d (.v (.bool (hasK kv k))))] else .x v) } else none
    | _, _ => none
  | _, _, _ => none
theorem good_look (h : Rel S0 w0 N s a w ι) {t : TypeId} {m x : Operand} {ok : Bool} {e : Eff} (ho : o.op = .lookup t m x ok) (he : look1 P s t m x ok = some e) : Good P S0 w0 N s a w seed o e := by
  unfold look1 at he
  split at he
  · rename_i kd e0 b q k hk hm hx
    split at he
    · rename_i kd' kv z hb hz
      split at he
      · rename_i hc
        obtain ⟨rfl, rfl⟩ := hc
        obtain ⟨v, hv, rfl⟩ := Option.map_eq_some_iff.1 he
        obtain ⟨kt, ht, hkt⟩ := keyK_spec hk
        obtain ⟨g, es, clock, hg, hmv, _, hw, hes⟩ := h.mpAt (h.ev hm) hb
        obtain ⟨i, hi, hiz⟩ := Option.bind_eq_some_iff.1 hz
        have hzr : (zeroValue e0).run P w = .ok z w := by simp [zeroValue, typeInfo, hi, hiz]
        have hrun : (Instr.lookup t (a.eval m) (a.eval x) ok).run P w = .ok (if ok then .tuple #[lookV kv k z, .bool (hasK kv k)] else lookV kv k z) w := by
          rw [hmv, h.evP hx]
          have hck := fun e => MapKept.run_checkKey (P := P) (w := w) (k := .int q k) hkt rfl e 9999
          rcases ents_find (kk := q) k 0 hes with ⟨q1, q2, q3, _⟩ | ⟨j, en, q1, q2, q3, q4, q5, _⟩
          · have hf := MapKept.run_findKey (P := P) (w := w) hkt q1
            cases ok <;> simp [Instr.lookup, run_underlying ht, MapKept.run_getObj_map hw, hck, hf, hzr, q2, q3, Result.andThen]
          · have hf := MapKept.run_findKey (P := P) (w := w) hkt q1
            cases ok <;> simp [Instr.lookup, run_underlying ht, MapKept.run_getObj_map hw, hck, hf, q4, q5, Result.andThen]
        refine good_pure h (v := if ok then .tuple #[lookV kv k z, .bool (hasK kv k)] else lookV kv k z) (by simp [execOp, ho, hrun]) ?_
        cases ok with
        | true => exact ⟨_, rfl, .cons (seeV_rep hv) (.cons (Shows.v rfl) .nil)⟩
        | false => exact seeV_rep hv
      · cases he
    · cases he
  · cases he
def mupd1 (P : Program) (s : St) (t : TypeId) (m x y : Operand) : Option Eff :=
  match keyK P t, evO s m, evP s x, evP s y with
  | some (kd, _), some (.x (.one (.mpt b))), some (.int q k), some u => match lk s.hp b with
    | some (.mp kd' kv) => if kd' = kd ∧ q = kd then some { val := none, ups := [(b, .mp kd (updK kv k u))] } else none
    | _ => none
  | _, _, _, _ => none
theorem good_mupd (h : Rel S0 w0 N s a w ι) {t : TypeId} {m x y : Operand} {e : Eff} (ho : o.op = .mapUpdate t m x y ∨ o.op = .insert t m x y) (he : mupd1 P s t m x y = some e) : Good P S0 w0 N s a w seed o e := by
  unfold mupd1 at he
  split at he
  · rename_i kd e0 b q k u hk hm hx hy
    split at he
    · rename_i kd' kv hb
      split at he
      · rename_i hc
        obtain ⟨rfl, rfl⟩ := hc
        cases he
        obtain ⟨kt, ht, hkt⟩ := keyK_spec hk
        obtain ⟨g, es, clock, hg, hmv, hB, hw, hes⟩ := h.mpAt (h.ev hm) hb
        have hck := fun e => MapKept.run_checkKey (P := P) (w := w) (k := .int q k) hkt rfl e 9999
        have hrun : ∃ es' clock', (Instr.mapUpdate t (a.eval m) (a.eval x) (a.eval y)).run P w = .ok () { w with heap := w.heap.setIfInBounds g (.map es' clock') } ∧ EntsOf q es'.toList (updK kv k u) := by
          rw [hmv, h.evP hx, h.evP hy]
          rcases ents_find (kk := q) k 0 hes with ⟨q1, q2, q3, q4⟩ | ⟨j, en, q1, q2, q3, q4, q5, q6⟩
          · have hf := MapKept.run_findKey (P := P) (w := w) hkt q1
            refine ⟨es.push { key := .int q k, val := u, born := clock }, clock + 1, by simp [Instr.mapUpdate, run_underlying ht, MapKept.run_getObj_map hw, hck, hf, MapKept.run_setObj_map _ hw, Result.andThen], ?_⟩
            unfold EntsOf at hes ⊢
            rw [q4, Array.toList_push, List.map_append, List.map_append, hes]; rfl
          · have hf := MapKept.run_findKey (P := P) (w := w) hkt q1
            have hj : es[j]? = some en := by simpa using q2
            refine ⟨es.modify j fun e => { e with key := .int q k, val := u }, clock, by simp [Instr.mapUpdate, run_underlying ht, MapKept.run_getObj_map hw, hck, hf, hj, q3, MapKept.run_keyThatStays (k := .int q k) (d := .int q) rfl, MapKept.run_setObj_map _ hw, Result.andThen], ?_⟩
            rw [Array.toList_modify]
            exact q6 u _ fun e => ⟨rfl, rfl⟩
        obtain ⟨es', clock', hrun, he'⟩ := hrun
        refine ⟨undef, _, ι, .inr ⟨rfl, ?_⟩, (h.setM (clock' := clock') hb hg hw hB he').weakN (fun _ h => .inl h), fun y hy => by cases hy⟩
        rcases ho with ho | ho <;> simp [execOp, ho, hrun, Result.andThen]
      · cases he
    · cases he
  · cases he
def lenM (P : Program) (s : St) (t : TypeId) (x : Operand) : Option Eff :=
  match keyK P t, evO s x with
  | some _, some (.x (.one (.mpt b))) => match lk s.hp b with
    | some (.mp _ kv) => some { val := some (vv (.int .i64 kv.length)) }
    | _ => none
  | _, _ => none
theorem good_lenM (h : Rel S0 w0 N s a w ι) {x : Operand} {t : TypeId} {e : Eff} (ho : o.op = .call { callee := .builtin .len, args := #[x], argTypes := #[t] }) (he : lenM P s t x = some e) : Good P S0 w0 N s a w seed o e := by
  unfold lenM at he
  split at he
  · rename_i p b hk hx
    obtain ⟨kd, e0⟩ := p
    obtain ⟨kt, ht, _⟩ := keyK_spec hk
    split at he
    · rename_i kd' kv hb
      cases he
      obtain ⟨g, es, clock, hg, hmv, _, hw, hes⟩ := h.mpAt (h.ev hx) hb
      have hl : es.size = kv.length := by
        have := congrArg List.length hes
        simpa [EntsOf] using this
      refine good_val h ?_ rfl
      simp [execOp, ho, resolve, invoke, builtin, hmv, Builtin.len_, run_underlying ht, MapKept.run_getObj_map hw, goInt, hl, Result.andThen]
    · cases he
  · cases he
theorem seeV_bool (b : Bool) : seeV (.bool b) = some (.one (.d (.v (.bool b)))) := rfl
theorem seeV_int (k : IntKind) (n : Int) : seeV (.int k n) = some (.one (.d (.v (.int k n)))) := rfl
theorem seeV_unit : seeV (.agg #[]) = some (.agg []) := rfl
/-! ### Sets -/
/-- A set of numbers: each key has the same value. -/
def setK (u : Value) (ks : List Int) : List (Int × Value) := ks.map fun k => (k, u)
theorem setK_nil (u : Value) : setK u [] = [] := rfl
theorem setK_has (u : Value) (ks : List Int) (a : Int) : hasK (setK u ks) a = decide (a ∈ ks) := by
  induction ks with
  | nil => rfl
  | cons k ks ih =>
    show (if k = a then true else hasK (setK u ks) a) = _
    by_cases h : k = a
    · rw [if_pos h, decide_eq_true (by simp [h])]
    · rw [if_neg h, ih]
      exact decide_eq_decide.2 ⟨fun h1 => List.mem_cons_of_mem _ h1, fun h1 => (List.mem_cons.1 h1).resolve_left fun e => h e.symm⟩
theorem setK_look (u z : Value) (ks : List Int) (a : Int) : lookV (setK u ks) a z = if a ∈ ks then u else z := by
  induction ks with
  | nil => rfl
  | cons k ks ih =>
    show (if k = a then u else lookV (setK u ks) a z) = _
    by_cases h : k = a
    · rw [if_pos h, if_pos (by simp [h])]
    · rw [if_neg h, ih]
      by_cases h1 : a ∈ ks
      · rw [if_pos h1, if_pos (List.mem_cons_of_mem _ h1)]
      · rw [if_neg h1, if_neg fun h2 => h1 ((List.mem_cons.1 h2).resolve_left fun e => h e.symm)]
theorem setK_bool (ks : List Int) (a : Int) : lookV (setK (.bool true) ks) a (.bool false) = .bool (decide (a ∈ ks)) := by
  rw [setK_look]
  by_cases h : a ∈ ks
  · rw [if_pos h, decide_eq_true h]
  · rw [if_neg h, decide_eq_false h]
theorem setK_unit (ks : List Int) (a : Int) : lookV (setK (.agg #[]) ks) a (.agg #[]) = .agg #[] := by rw [setK_look, ite_self]
theorem setK_upd (u : Value) {ks : List Int} {a : Int} (h : ¬ a ∈ ks) : updK (setK u ks) a u = setK u (ks ++ [a]) := by
  induction ks with
  | nil => rfl
  | cons k ks ih =>
    have h1 : ¬ k = a := fun e => h (by simp [e])
    show (if k = a then (a, u) :: setK u ks else (k, u) :: updK (setK u ks) a u) = _
    rw [if_neg h1, ih fun h2 => h (List.mem_cons_of_mem _ h2)]; rfl
theorem setK_same (u : Value) {ks : List Int} {a : Int} (h : a ∈ ks) : updK (setK u ks) a u = setK u ks := by
  induction ks with
  | nil => cases h
  | cons k ks ih =>
    show (if k = a then (a, u) :: setK u ks else (k, u) :: updK (setK u ks) a u) = _
    by_cases h1 : k = a
    · rw [if_pos h1, ← h1]; rfl
    · rw [if_neg h1, ih ((List.mem_cons.1 h).resolve_left fun e => h1 e.symm)]; rfl
theorem setK_len (u : Value) (ks : List Int) : (setK u ks).length = ks.length := by unfold setK; rw [List.length_map]
end
end
end Go.Proofs.Ytmhnogmbpoeaeaa.Eng
namespace Go.Proofs.Ytmhnogmbpoeaeaa.Eng
set_option linter.all false
noncomputable section
open Go.RowKit

section
variable {P : Program} {S0 : Nat → Prop} {w0 : Base} {N : Nat → Prop} {s : St} {a : Act} {w : World} {ι : Nat → Option Nat} {seed : Nat} {o : Oper}
def bslice2 (P : Program) (s : St) (seed : Nat) (t : TypeId) (len : Nat) (parts : List (Nat × Operand)) : Option Eff :=
  match ti P t with
  | some ⟨.sl e, _, _, _⟩ => match ti P e with
    | some j => if len * j.size ≤ 16777216 ∧ 0 < j.size ∧ 0 < len then (fillA (fun k => some (k * j.size, j.size)) s parts ((List.replicate len (dv j.zero)).flatten.map .d)).map fun cs => { val := some (one (.bsl seed len)), ups := [(seed, .box cs)], cnt := 1 } else none
    | none => none
  | _ => none
theorem good_bslice2 (h : Rel S0 w0 N s a w ι) (hid : ∀ k, k < 1 → ¬ N (seed + k)) {t : TypeId} {len : Nat} {parts : Array (Nat × Operand)} {e : Eff} (ho : o.op = .buildSlice t len parts) (he : bslice2 P s seed t len parts.toList = some e) : Good P S0 w0 N s a w seed o e := by
  have hparts : (parts.map fun (p : Nat × Operand) => (p.1, a.eval p.2)).toList = parts.toList.map fun p => (p.1, a.eval p.2) := by simp
  unfold bslice2 at he
  split at he
  · rename_i e0 n b z hi
    split at he
    · rename_i j hj
      split at he
      · rename_i hsz
        obtain ⟨es, hes, rfl⟩ := Option.map_eq_some_iff.1 he
        have hsl := ti_slice hi rfl
        obtain ⟨k, d, zz, h1, hd, h3, h4, rfl, h5⟩ := ti_info hj
        simp only at hes hsz
        have hzl : zz.cells.toList.length = k.size := by simpa using h4
        have hbase : All2 (RepC (env S0 N s w ι)) ((Array.range (len * k.size)).map (fun x => (if len * k.size = 0 then #[] else zz.cells)[x % (if len * k.size = 0 then #[] else zz.cells).size]!)).toList ((List.replicate len (dv zz.cells.toList)).flatten.map .d) := by
          have hw : ∀ e ∈ List.replicate len (dv zz.cells.toList), e.length = k.size := fun e he => by rw [List.eq_of_mem_replicate he]; simpa [dv] using h4
          refine All2.of_get (by rw [List.length_map, flat_len hw]; simp) fun q y c hy hc => ?_
          have hq : q < len * k.size := by
            have := (List.getElem?_eq_some_iff.1 hc).1
            rw [List.length_map, flat_len hw, List.length_replicate] at this
            exact this
          have hne : ¬ len * k.size = 0 := by omega
          have hmod : q % k.size < zz.cells.size := by rw [h4]; exact Nat.mod_lt _ hsz.2.1
          simp only [hne, if_false, h4] at hy
          have hy' : y = zz.cells[q % k.size] := by
            simp [hq] at hy
            rw [← hy]
            simp [hmod]
          obtain ⟨y', hy1, hr⟩ := zero_rows (E := env S0 N s w ι) h5 (n := len) (m := len * k.size) (by rw [hzl]) (cur := (Array.range (len * k.size)).map (fun x => zz.cells[x % k.size]!)) (fun q hq => by
            have hmod : q % k.size < zz.cells.size := by rw [h4]; exact Nat.mod_lt _ hsz.2.1
            simp [hq, hzl, hmod]) q c hc
          have : y' = y := by
            simp [hq] at hy1
            rw [hy', ← hy1]
            simp [hmod]
          rw [← this]
          exact hr
        obtain ⟨cells', hf, hr⟩ := fillA_run h hbase hes
        refine good_new h hid (cur := cells') (ty := e0) (v := .slice (some ⟨w.heap.size, 0, none⟩) len len) ?_ ?_ ?_ ?_
        · have h24 : ¬ (2 ^ 24 < len * k.size) := by omega
          have h0 : ¬ len * k.size = 0 := by
            have := Nat.mul_pos hsz.2.2 hsz.2.1; omega
          simp only [h0, if_false] at hf
          simp [execOp, ho, Instr.buildSlice, run_underlying hsl, sizeOf, typeInfo, h1, h0, hparts, hf, newRow, h24, zeroValue, h3]
        · intro q c hq
          obtain ⟨y, hy, hrr⟩ := hr.get hq
          exact ⟨y, by simpa using hy, hrr⟩
        · have := hr.length
          simpa [Ob.shape] using this
        · intro E e1 e2 e3 e4
          refine ⟨e3, rfl, fun cs' _ => ⟨w.heap.size, len, e1, rfl, Nat.le_refl _, ?_⟩⟩
          simp only [maxLen]
          have : len ≤ len * k.size := Nat.le_mul_of_pos_right _ hsz.2.1
          omega
      · cases he
    · cases he
  · cases he
def idx2 (P : Program) (s : St) (t : TypeId) (x i : Operand) : Option Eff :=
  match ti P t, evO s x, evP s i with
  | some ⟨.sl e, _, _, _⟩, some (.x (.one (.bsl b n))), some (.int _ k) => match ti P e, lk s.hp b with
    | some j, some (.box _) => if 0 ≤ k ∧ k < n then some { val := some (one (.ptr b (k.toNat * j.size))) } else none
    | _, _ => none
  | _, _, _ => none
theorem good_idx2 (h : Rel S0 w0 N s a w ι) {t : TypeId} {x i : Operand} {e : Eff} (ho : o.op = .indexAddr t x i) (he : idx2 P s t x i = some e) : Good P S0 w0 N s a w seed o e := by
  unfold idx2 at he
  split at he
  · rename_i e0 _ _ _ b n kk k hi hx hk
    split at he
    · rename_i j cs hj hb
      split at he
      · rename_i hcond
        cases he
        have hsl := ti_slice hi rfl
        obtain ⟨hN, _, h2⟩ := h.ev hx
        obtain ⟨g, cap, hg, hv, hn, hm⟩ := h2 cs hb
        refine good_pure h (v := .pointer (some ⟨g, k.toNat * j.size, none⟩)) ?_ ⟨hN, rfl, fun cs' hb' => ⟨g, hg, rfl⟩⟩
        simp [execOp, ho, hv, h.evP hk, Instr.indexAt, asIntOf, run_underlying hsl, hcond.1, hcond.2, ti_size hj, Addr.add_lit]
      · cases he
    · cases he
  · cases he
def len2 (P : Program) (s : St) (t : TypeId) (x : Operand) : Option Eff :=
  match ti P t, evO s x with
  | some ⟨.sl _, _, _, _⟩, some (.x (.one (.bsl b n))) => match lk s.hp b with
    | some (.box _) => some { val := some (vv (.int .i64 n)) }
    | _ => none
  | _, _ => none
theorem good_len2 (h : Rel S0 w0 N s a w ι) {x : Operand} {t : TypeId} {e : Eff} (ho : o.op = .call { callee := .builtin .len, args := #[x], argTypes := #[t] }) (he : len2 P s t x = some e) : Good P S0 w0 N s a w seed o e := by
  unfold len2 at he
  split at he
  · rename_i e0 _ _ _ b n hi hx
    have hsl := ti_slice hi rfl
    split at he
    · rename_i cs hb
      cases he
      refine good_val h ?_ rfl
      obtain ⟨hN, _, h2⟩ := h.ev hx
      obtain ⟨g, cap, hg, hv, hn, hm⟩ := h2 cs hb
      simp [execOp, ho, resolve, invoke, builtin, hv, Builtin.len_, run_underlying hsl, goInt]
    · cases he
  · cases he
/-! Arrays of numbers or booleans, compared. -/
def eqA (P : Program) (e : TypeId) (xs ys : List Value) : List Nat → Option Bool
  | [] => some true
  | i :: is => match P.underlying e, xs[i]?, ys[i]? with
    | some (.int _), some (.int k a), some (.int k' b) => if k = k' then (eqA P e xs ys is).map fun r => decide (a = b) && r else none
    | some .bool, some (.bool a), some (.bool b) => (eqA P e xs ys is).map fun r => (a == b) && r
    | _, _, _ => none
def eqArr (P : Program) (t : TypeId) (xs ys : List Value) : Option Bool :=
  match P.underlying t with
  | some (.array n e) => if P.eqGuardType P.depth t = false ∧ P.cellsOf e = 1 ∧ (P.info? e).isSome = true then eqA P e xs ys (List.range n) else none
  | _ => none
theorem eqA_run {P : Program} (w : World) {e : TypeId} {xs ys : Array Value} : ∀ {is : List Nat} {r : Bool}, eqA P e xs.toList ys.toList is = some r → (Op.eqItems 9999 e 1 xs ys is).run P w = .ok r w
  | [], r, h => by simp only [eqA, Option.some.injEq] at h; subst h; simp [Op.eqItems]
  | i :: is, r, h => by
    simp only [eqA] at h
    split at h
    · rename_i k0 k a k' b hu hx hy
      split at h
      · rename_i hk
        subst hk
        obtain ⟨r', hr', rfl⟩ := Option.map_eq_some_iff.1 h
        have hp : ∀ (zs : Array Value) (v : Value), zs.toList[i]? = some v → (part e zs (i * 1)).run P w = .ok v w := fun zs v hz => by
          have hz' : zs[i]? = some v := by simpa using hz
          simp [part, isAgg, run_underlying hu, hz']
        have ih := eqA_run w hr'
        simp only [Op.eqItems, Sem.run_bind, hp xs _ hx, hp ys _ hy, Result.andThen_ok, run_equalIn_int w 9998 e k k0 a b hu]
        by_cases hab : a = b
        · subst hab; simp [ih]
        · simp [hab]
      · cases h
    · rename_i a b hu hx hy
      obtain ⟨r', hr', rfl⟩ := Option.map_eq_some_iff.1 h
      have hp : ∀ (zs : Array Value) (v : Value), zs.toList[i]? = some v → (part e zs (i * 1)).run P w = .ok v w := fun zs v hz => by
        have hz' : zs[i]? = some v := by simpa using hz
        simp [part, isAgg, run_underlying hu, hz']
      have ih := eqA_run w hr'
      simp only [Op.eqItems, Sem.run_bind, hp xs _ hx, hp ys _ hy, Result.andThen_ok, run_equalIn_bool' w 9998 e a b hu]
      cases hab : (a == b)
      · simp
      · simp [ih]
    · cases h
theorem eqArr_run {P : Program} {t : TypeId} {xs ys : Array Value} {b : Bool} (h : eqArr P t xs.toList ys.toList = some b) (op : BinOp) (ox oy : Operand) (w : World) :
    (eqGuard op t ox oy (.agg xs) (.agg ys)).run P w = .ok () w ∧ (Op.equalIn 10000 t (.agg xs) (.agg ys)).run P w = .ok b w := by
  unfold eqArr at h
  split at h
  · rename_i n e hu
    split at h
    · rename_i hc
      obtain ⟨i, hi⟩ := Option.isSome_iff_exists.1 hc.2.2
      refine ⟨run_eqGuard_agg w op t ox oy xs ys hc.1, ?_⟩
      rw [run_equalIn_array w 9999 xs ys hu hi, hc.2.1]
      exact eqA_run w h
    · cases h
  · cases h
def binA (P : Program) (op : BinOp) (t : TypeId) (x y : Value) : Option Bool :=
  match x, y with
  | .agg xs, .agg ys => (match op with
    | .eql => eqArr P t xs.toList ys.toList
    | .neq => (eqArr P t xs.toList ys.toList).map fun b => !b
    | _ => none)
  | _, _ => none
theorem binA_run {P : Program} {op : BinOp} {t : TypeId} {x y : Value} {v : Bool} (h : binA P op t x y = some v) (ox oy : Operand) (w : World) : (do eqGuard op t ox oy x y; binOp op t x y : Sem Value).run P w = .ok (.bool v) w := by
  unfold binA at h
  split at h
  · split at h
    · obtain ⟨h1, h2⟩ := eqArr_run h .eql ox oy w
      simp only [Sem.run_bind, h1, Result.andThen_ok, run_eql_struct, h2]
    · obtain ⟨b, hb, rfl⟩ := Option.map_eq_some_iff.1 h
      obtain ⟨h1, h2⟩ := eqArr_run hb .neq ox oy w
      simp only [Sem.run_bind, h1, Result.andThen_ok, run_neq_struct, h2]
    · cases h
  · cases h
theorem good_binA (h : Rel S0 w0 N s a w ι) {op : BinOp} {t t' : TypeId} {x y : Operand} {u v : Value} {r : Bool} (ho : o.op = .binOp op t x y t') (hx : evP s x = some u) (hy : evP s y = some v) (hr : binA P op t u v = some r) : Good P S0 w0 N s a w seed o { val := some (vv (.bool r)) } := by
  have h1 := binA_run hr x y w
  refine good_val h ?_ rfl
  rw [Sem.run_bind] at h1
  simp only [execOp, ho, h.evP hx, h.evP hy, Sem.run_bind]
  rw [h1]; rfl
/-! ### Arrays that are rows: those of which slices are taken. -/
def aalloc (P : Program) (seed : Nat) (t : TypeId) : Option Eff :=
  match ti P t with
  | some ⟨.arr n e, sz, _, z⟩ => match ti P e with
    | some j => if j.size = 1 ∧ sz = n ∧ z.length = n then some { val := some (one (.aptr seed n)), ups := [(seed, .row 1 (z.map fun v => [.v v]) false)], cnt := 1 } else none
    | none => none
  | _ => none
theorem flat_ones {α β : Type} (f : α → β) : ∀ l : List α, (l.map fun v => [f v]).flatten = l.map f
  | [] => rfl
  | a :: l => by rw [List.map_cons, List.flatten_cons, flat_ones f l]; rfl
theorem good_aalloc (h : Rel S0 w0 N s a w ι) (hid : ∀ k, k < 1 → ¬ N (seed + k)) {t : TypeId} {e : Eff} (ho : o.op = .alloc t) (he : aalloc P seed t = some e) : Good P S0 w0 N s a w seed o e := by
  unfold aalloc at he
  split at he
  · rename_i n e0 sz b z hi
    split at he
    · rename_i j hj
      split at he
      · rename_i hc
        obtain ⟨_, rfl, hz⟩ := hc
        cases he
        obtain ⟨j, d, zz, h1, h2, h3, h4, hx, h5⟩ := ti_info hi
        simp only [TI.mk.injEq] at hx
        obtain ⟨_, hsz, _, rfl⟩ := hx
        refine good_new h hid (cur := zz.cells) (ty := t) (v := .pointer (some ⟨w.heap.size, 0, none⟩)) ?_ ?_ ?_ ?_
        · simp [execOp, ho, Instr.alloc, zeroValue, typeInfo, h1, h3, newVar, newRow]
        · intro k c hk
          simp only [Ob.cells, flat_ones, List.getElem?_map, Option.map_eq_some_iff] at hk
          obtain ⟨u, ⟨v, hv, rfl⟩, rfl⟩ := hk
          exact ⟨v, by simpa using hv, Shows.v (h5 v (List.mem_of_getElem? hv))⟩
        · refine ⟨Nat.one_pos, fun e he => ?_⟩
          obtain ⟨v, _, rfl⟩ := List.mem_map.1 he
          rfl
        · intro E e1 e2 e3 e4
          refine ⟨e3, rfl, fun sz1 es1 fz1 hb1 => ?_⟩
          have := e2.symm.trans hb1
          cases this
          rw [List.length_map, hz]
          refine ⟨Nat.le_refl _, fun _ => ⟨_, e1, rfl, zz.cells, t, ?_, ?_⟩⟩
          · rw [e4]; exact heap_alloc_new w _
          · rw [Nat.mul_one]; simpa using hz
      · cases he
    · cases he
  · cases he
/-- An array's row: its number, its elements' width, its elements. -/
def arow (s : St) (x : Operand) : Option (Nat × Nat × Nat × List (List D) × Bool) :=
  match evO s x with
  | some (.x (.one (.aptr b L))) => match lk s.hp b with
    | some (.row sz es fz) => if es.length = L then some (b, L, sz, es, fz) else none
    | _ => none
  | _ => none
theorem Rel.arow (h : Rel S0 w0 N s a w ι) {x : Operand} {b L sz : Nat} {es : List (List D)} {fz : Bool} (hx : arow s x = some (b, L, sz, es, fz)) :
    evO s x = some (one (.aptr b L)) ∧ lk s.hp b = some (.row sz es fz) ∧ es.length = L ∧ N b ∧ ∃ g, ι b = some g ∧ a.eval x = .pointer (some ⟨g, 0, none⟩) ∧ w0.w.heap.size ≤ g ∧ ∃ cur ty, w.heap[g]? = some (.cells cur ty (0, 0)) ∧ cur.size = L * sz ∧ 0 < sz ∧ (∀ e ∈ es, e.length = sz) ∧
      ∀ (k : Nat) (c : D), es.flatten[k]? = some c → ∃ y, cur[k]? = some y ∧ RepC (env S0 N s w ι) y (.d c) := by
  unfold Eng.arow at hx
  split at hx
  · rename_i b0 L0 hxe
    split at hx
    · rename_i sz0 es0 fz0 hb
      split at hx
      · rename_i hl
        simp only [Option.some.injEq, Prod.mk.injEq] at hx
        obtain ⟨rfl, rfl, rfl, rfl, rfl⟩ := hx
        obtain ⟨hN, _, hr⟩ := h.ev hxe
        obtain ⟨_, hr⟩ := hr _ _ _ hb
        obtain ⟨g, hg, hxv, cur, ty, hh, hs⟩ := hr hl
        obtain ⟨hge, cur', ty', hh', hc, hsh⟩ := h.block hb hg
        have : cur = cur' ∧ ty = ty' := by have := hh.symm.trans hh'; simpa [env] using this
        obtain ⟨rfl, rfl⟩ := this
        exact ⟨hxe, hb, hl, hN, g, hg, hxv, hge, cur, ty, hh, hs, hsh.1, hsh.2, fun k c hk => hc k (.d c) (by show (es0.flatten.map AC.d)[k]? = _; rw [List.getElem?_map, hk]; rfl)⟩
      · cases hx
    · cases hx
  · cases hx
def aload (P : Program) (s : St) (t : TypeId) (x : Operand) : Option Eff :=
  match arow s x, ti P t with
  | some (_, L, sz, es, _), some i => if i.k.isAgg = true ∧ i.size = L * sz then some { val := some (.x (.agg (es.flatten.map .d))) } else none
  | _, _ => none
theorem good_aload (h : Rel S0 w0 N s a w ι) {t : TypeId} {x : Operand} {e : Eff} (ho : o.op = .load t x) (he : aload P s t x = some e) : Good P S0 w0 N s a w seed o e := by
  unfold aload at he
  split at he
  · rename_i b L sz es fz i hx hi
    split at he
    · rename_i hc
      cases he
      obtain ⟨_, hb, hl, _, g, hg, hp, _, cur, ty, hh, hs, h0, hw, hcc⟩ := h.arow hx
      have hfl := flat_len hw
      have hlen : cur.toList.length = es.flatten.length := by rw [hfl, hl]; simpa using hs
      refine good_pure h (v := .agg cur.toList.toArray) ?_ ⟨_, rfl, All2.of_get (by rw [List.length_map]; simpa using hlen) fun k y c hy hk => ?_⟩
      · have hcell : ∀ j u, cur.toList[j]? = some u → w.cell? ((⟨g, 0, none⟩ : Addr).add j) = some u := fun j u hu => by
          rw [Addr.add_lit, Nat.zero_add, cell_of_row w g j cur ty (0, 0) hh]; simpa using hu
        have h1 := run_loadVar hi w ⟨g, 0, none⟩ cur.toList (by rw [hc.2]; simpa using hs) hcell (fun hf => by rw [hc.1] at hf; cases hf)
        rw [if_pos hc.1] at h1
        simp only [execOp, ho, hp, Instr.loadAt, Instr.sureAddr, Sem.run_bind, Sem.run_pure, Result.andThen_ok, h1]
      · rw [List.getElem?_map] at hk
        obtain ⟨d, hd, rfl⟩ := Option.map_eq_some_iff.1 hk
        obtain ⟨y', hy', hr⟩ := hcc k d hd
        have : y = y' := by
          have hy2 : cur[k]? = some y := by simpa using hy
          rw [hy'] at hy2; exact (Option.some.inj hy2).symm
        rw [this]; exact hr
    · cases he
  · cases he
def astore (P : Program) (s : St) (t : TypeId) (x y : Operand) : Option Eff :=
  match arow s x, ti P t, ((evO s y).bind cellsOf).bind allD with
  | some (b, L, sz, _, false), some i, some ds => if sz = 1 ∧ ds.length = L ∧ i.size = L then some { val := none, ups := [(b, .row 1 (ds.map fun d => [d]) false)] } else none
  | _, _, _ => none
theorem good_astore (h : Rel S0 w0 N s a w ι) {t : TypeId} {x y : Operand} {e : Eff} (ho : o.op = .store t x y) (he : astore P s t x y = some e) : Good P S0 w0 N s a w seed o e := by
  unfold astore at he
  split at he
  · rename_i b L sz es i ds hx hi hy
    split at he
    · rename_i hc
      obtain ⟨rfl, hds, hsz⟩ := hc
      cases he
      obtain ⟨_, hb, hl, _, g, hg, hp, hge, cur, ty, hh, hs, h0, hw, hcc⟩ := h.arow hx
      obtain ⟨cs, hcs, had⟩ := Option.bind_eq_some_iff.1 hy
      obtain ⟨v, hv, hcv⟩ := Option.bind_eq_some_iff.1 hcs
      obtain rfl := allD_eq had
      obtain ⟨h1, h2⟩ := cellsOf_rep (h.ev hv) hcv
      have hlen := h1.length
      rw [List.length_map] at hlen
      have hcl : cur.size = (a.eval y).cells.toList.length := by rw [hlen, hds, hs, Nat.mul_one]
      have hst := run_storeCells_at P g 0 ty (a.eval y).cells.toList 0 cur w hh (by rw [hcl]; omega) h2
      simp only [Nat.add_zero, Nat.zero_add] at hst
      have hrow : (cur.toList.take 0 ++ (a.eval y).cells.toList ++ cur.toList.drop (a.eval y).cells.toList.length).toArray = (a.eval y).cells := by
        rw [List.take_zero, List.nil_append, List.drop_eq_nil_of_le (by rw [← hcl]; simp), List.append_nil]
      rw [hrow] at hst
      have hsz' : (a.eval y).cells.size = cur.size := by rw [hcl]; simp
      refine ⟨undef, w.setRow g (a.eval y).cells, ι, .inr ⟨rfl, ?_⟩, (h.rewrite (o' := .row 1 (ds.map fun d => [d]) false) hb hg rfl hh (setRow_heap w g cur (a.eval y).cells ty (0, 0) hh) hsz' (fun k hk => setRow_other w g k _ hk) (by simp) (gr_setRow hh w0 hge h.gr) rfl (fun k c hk => ?_) ⟨rfl, by rw [List.length_map, hds, hl], fun e he => ?_⟩).weakN (fun _ h => .inl h), fun y hy => by cases hy⟩
      · have hl2 : (a.eval y).cells.size = ds.length := by simpa using hlen
        simp only [execOp, ho, hp, Instr.storeAt, Instr.sureAddr, storeVar, Sem.run_bind, Sem.run_pure, Result.andThen_ok, ti_size hi]
        rw [if_neg (by omega), hst]
        rfl
      · simp only [Ob.cells] at hk
        have e1 : (ds.map fun d => [d]).flatten = ds := by rw [flat_ones (fun d => d)]; simp
        rw [e1] at hk
        obtain ⟨u, hu, hr⟩ := h1.get hk
        exact ⟨u, by simpa using hu, hr⟩
      · obtain ⟨v, _, rfl⟩ := List.mem_map.1 he
        rfl
    · cases he
  · cases he
def aidx (P : Program) (s : St) (t : TypeId) (x i : Operand) : Option Eff :=
  match ti P t, arow s x, evP s i with
  | some ⟨.arr n e, _, _, _⟩, some (b, L, sz, _, _), some (.int _ k) => match ti P e with
    | some j => if 0 ≤ k ∧ k < n ∧ L = n ∧ sz = j.size then some { val := some (one (.eptr b k.toNat 0 L)) } else none
    | none => none
  | _, _, _ => none
theorem good_aidx (h : Rel S0 w0 N s a w ι) {t : TypeId} {x i : Operand} {e : Eff} (ho : o.op = .indexAddr t x i) (he : aidx P s t x i = some e) : Good P S0 w0 N s a w seed o e := by
  unfold aidx at he
  split at he
  · rename_i n e0 _ _ _ b L sz es fz kk k hi hx hk
    split at he
    · rename_i j hj
      split at he
      · rename_i hc
        obtain ⟨k0, kn, rfl, rfl⟩ := hc
        cases he
        obtain ⟨jj, d, zz, _, hd, _, _, hxx, _⟩ := ti_info hi
        simp only [TI.mk.injEq] at hxx
        cases d <;> simp [tk] at hxx
        obtain ⟨⟨rfl, rfl⟩, _⟩ := hxx
        obtain ⟨_, hb, hl, hN, g, hg, hp, _, cur, ty, hh, hs, h0, hw, hcc⟩ := h.arow hx
        refine good_pure h (v := .pointer (some ((⟨g, 0, none⟩ : Addr).add (k.toNat * j.size)))) ?_ ⟨hN, rfl, fun sz1 es1 fz1 hb1 => ?_⟩
        · simp [execOp, ho, hp, h.evP hk, Instr.indexAt, asIntOf, run_underlying hd, Instr.sureAddr, k0, kn, ti_size hj]
        · have := hb.symm.trans hb1
          cases this
          exact ⟨by omega, fun _ _ => ⟨g, hg, by rw [Addr.add_lit]; simp⟩⟩
      · cases he
    · cases he
  · cases he
def aslice (P : Program) (s : St) (t : TypeId) (x : Operand) (lo hi mx : Option Operand) : Option Eff :=
  match ti P t, arow s x, optInt s lo, optInt s hi, mx with
  | some ⟨.arr n e, _, _, _⟩, some (b, L, sz, _, _), some l, some h, none => match ti P e with
    | some j => if 0 ≤ l.getD 0 ∧ l.getD 0 ≤ h.getD n ∧ h.getD n ≤ n ∧ L = n ∧ sz = j.size ∧ n ≤ maxLen then
        some { val := some (one (cond (lo.isNone && hi.isNone) (.own b L) (.view b (l.getD 0).toNat ((h.getD n).toNat - (l.getD 0).toNat) L))) } else none
    | none => none
  | _, _, _, _, _ => none
theorem sb_run_arr {n : Nat} (w : World) (kl kh : IntKind) (l h : Option Int) (c1 : 0 ≤ l.getD 0) (c2 : l.getD 0 ≤ h.getD n) (c3 : h.getD n ≤ n) :
    (Instr.sliceBounds false n n (l.map (.int kl)) (h.map (.int kh)) none).run P w = .ok ((l.getD 0).toNat, (h.getD n).toNat, n) w := by
  cases l <;> cases h <;> simp only [Option.getD_none, Option.getD_some, Option.map_none, Option.map_some] at c1 c2 c3 ⊢ <;>
    simp [Instr.sliceBounds, run_sliceBound_if] <;> (repeat (split; rotate_left; · exfalso; omega)) <;> first | rfl | (intro hh; exfalso; have := hh (by omega); omega)
theorem good_aslice (h : Rel S0 w0 N s a w ι) {t : TypeId} {x : Operand} {lo hi mx : Option Operand} {e : Eff} (ho : o.op = .slice t x lo hi mx) (he : aslice P s t x lo hi mx = some e) : Good P S0 w0 N s a w seed o e := by
  unfold aslice at he
  split at he
  · rename_i n e0 _ _ _ b L sz es fz l hh' hi0 hx hl hhi
    split at he
    · rename_i j hj
      split at he
      · rename_i hc
        obtain ⟨c1, c2, c3, rfl, rfl, c6⟩ := hc
        cases he
        obtain ⟨jj, d, zz, _, hd, _, _, hxx, _⟩ := ti_info hi0
        simp only [TI.mk.injEq] at hxx
        cases d <;> simp [tk] at hxx
        obtain ⟨⟨rfl, rfl⟩, _⟩ := hxx
        obtain ⟨_, hb, hlen, hN, g, hg, hp, _, cur, ty, hh, hs, h0, hw, hcc⟩ := h.arow hx
        have key : ∀ {x : Option Operand} {k : Option Int}, optInt s x = some k → ∃ kk, x.map a.eval = k.map (Value.int kk) := fun {x k} hx => by
          rcases bound_run h hx with ⟨rfl, rfl⟩ | ⟨y, kk, n, rfl, rfl, hy⟩
          · exact ⟨.i64, rfl⟩
          · exact ⟨kk, by simp [hy]⟩
        obtain ⟨kl, b1⟩ := key hl
        obtain ⟨kh, b2⟩ := key hhi
        have hsb := sb_run_arr (P := P) w kl kh l hh' c1 c2 c3
        refine good_pure h (v := _) (by simp only [execOp, ho, hp, b1, b2, Option.map_none, Instr.sliceAt, Sem.run_bind, run_underlying hd, Result.andThen_ok, Instr.sureAddr, hsb, ti_size hj, Sem.run_pure]; rfl) ?_
        have hview : RepC (env S0 N s w ι) (.slice (some (if L = (l.getD 0).toNat then ⟨g, 0, none⟩ else (⟨g, 0, none⟩ : Addr).add ((l.getD 0).toNat * j.size))) ((hh'.getD L).toNat - (l.getD 0).toNat) (L - (l.getD 0).toNat)) (.view b (l.getD 0).toNat ((hh'.getD L).toNat - (l.getD 0).toNat) L) := by
          refine ⟨hN, rfl, fun sz1 es1 fz1 hb1 => ?_⟩
          have := hb.symm.trans hb1
          cases this
          refine ⟨by omega, fun _ => ⟨_, _, rfl, by omega, by omega, fun hA => by simp at hA, fun hn => ⟨g, hg, ?_⟩⟩⟩
          rw [if_neg (by omega), Addr.add_lit, Nat.zero_add]
        cases lo with
        | some _ => exact hview
        | none =>
          cases hi with
          | some _ => exact hview
          | none =>
            have e1 : l = none := by simpa [optInt] using hl.symm
            have e2 : hh' = none := by simpa [optInt] using hhi.symm
            subst e1 e2
            refine ⟨hN, rfl, fun sz1 es1 fz1 hb1 => ?_⟩
            have := hb.symm.trans hb1
            cases this
            refine ⟨by omega, fun _ => .inr ⟨g, L, hg, ?_, Nat.le_refl _, c6, cur, ty, hh, hs⟩⟩
            simp [Addr.add_zero']
      · cases he
    · cases he
  · cases he
/-- What further operations do. -/
def effect2 (P : Program) (s : St) (seed : Nat) (op : Op) : Option Eff :=
  match op with
  | .buildSlice t len parts => bslice2 P s seed t len parts.toList
  | .indexAddr t x i => match evO s x with
    | some (.x (.one (.aptr _ _))) => aidx P s t x i
    | _ => idx2 P s t x i
  | .alloc t => aalloc P seed t
  | .load t x => aload P s t x
  | .store t x y => astore P s t x y
  | .slice t x lo hi mx => aslice P s t x lo hi mx
  | .makeMap t r => mmap1 P s seed t r
  | .lookup t m x ok => look1 P s t m x ok
  | .mapUpdate t m x y => mupd1 P s t m x y
  | .insert t m x y => mupd1 P s t m x y
  | .binOp op t x y _ => match evP s x, evP s y with
    | some u, some v => (binA P op t u v).map fun r => { val := some (vv (.bool r)) }
    | _, _ => none
  | .call ⟨.builtin .len, args, ts⟩ => match args.toList, ts.toList with
    | [x], [t] => match evO s x with
      | some (.x (.one (.mpt _))) => lenM P s t x
      | _ => len2 P s t x
    | _, _ => none
  | _ => none
theorem good_effect2 (h : Rel S0 w0 N s a w ι) {e : Eff} (hid : ∀ k, k < 1 → ¬ N (seed + k)) (he : effect2 P s seed o.op = some e) : Good P S0 w0 N s a w seed o e := by
  generalize hop : o.op = op at he
  unfold effect2 at he
  split at he
  · exact good_bslice2 h hid hop he
  · split at he
    · exact good_aidx h hop he
    · exact good_idx2 h hop he
  · exact good_aalloc h hid hop he
  · exact good_aload h hop he
  · exact good_astore h hop he
  · exact good_aslice h hop he
  · exact good_mmap h hid hop he
  · exact good_look h hop he
  · exact good_mupd h (.inl hop) he
  · exact good_mupd h (.inr hop) he
  · split at he
    · rename_i u v hu hv
      obtain ⟨r, hr, rfl⟩ := Option.map_eq_some_iff.1 he
      exact good_binA h hop hu hv hr
    · cases he
  · split at he
    · rename_i args ts x t h1 h2
      rw [list1 h1, list1 h2] at hop
      split at he
      · exact good_lenM h hop he
      · exact good_len2 h hop he
    · cases he
  · cases he
end
end
end Go.Proofs.Ytmhnogmbpoeaeaa.Eng
namespace Go.Proofs.Ytmhnogmbpoeaeaa.Eng
set_option linter.all false
noncomputable section
open Go.RowKit

/-! ### A call on the caller's memory -/
def inXA : DA → AX
  | .one c => .one (.d c)
  | .agg cs => .agg (cs.map .d)
def Lt (nx b : Nat) : Prop := b < nx
theorem Step.refl (E : Env) : Step E E := ⟨fun _ h => h, fun _ _ => rfl, fun _ h => h, fun b sz es fz _ hb => ⟨sz, es, fz, hb, .inl ⟨.inr rfl, rfl, rfl, fun _ _ cur ty hh => ⟨cur, hh, rfl⟩⟩⟩, fun b cs _ hb => ⟨cs, hb, rfl⟩, fun b kd kv _ hb => ⟨kv, hb, rfl⟩⟩
/-- The memory of the call's own, whoever's frame. -/
def mem (hp : List (Nat × Ob)) (nx : Nat) : St := { fr := [], hp := hp, nx := nx, nt := 0 }
def noAct : Act := { tmps := #[], defers := [] }
def RH (U : Nat → Prop) (w0 : Base) (hp : List (Nat × Ob)) (nx : Nat) (w : World) (ι : Nat → Option Nat) : Prop := Rel U w0 (Lt nx) (mem hp nx) noAct w ι
/-- Called on such memory with such arguments, the function returns on that memory that result. -/
def CallH (P : Program) (f : FuncId) (hp : List (Nat × Ob)) (nx : Nat) (vs : List AV) (hp' : List (Nat × Ob)) (nx' : Nat) (r : AV) : Prop :=
  (∃ fn, P.funcs[f]? = some fn ∧ (fn.name == "runtime.NumGoroutine") = false ∧ fn.body.isNone = false) ∧
  ∀ (U : Nat → Prop) (w0 : Base) (w : World) (ι : Nat → Option Nat) (args : Array Value), (∀ b, w0.w.heap.size ≤ b → U b) → RH U w0 hp nx w ι → All2 (RepV (env U (Lt nx) (mem hp nx) w ι)) args.toList vs →
    Calls P f args w fun e w' => ∃ v ι', e = .returned v ∧ RH U w0 hp' nx' w' ι' ∧ RepV (env U (Lt nx') (mem hp' nx') w' ι') v r ∧ Step (env U (Lt nx) (mem hp nx) w ι) (env U (Lt nx') (mem hp' nx') w' ι')

section
variable {P : Program} {U : Nat → Prop} {w0 : Base} {N : Nat → Prop} {s : St} {a : Act} {w : World} {ι : Nat → Option Nat} {seed : Nat} {o : Oper}

theorem Rel.rebase (h : Rel U w0 N s a w ι) : Rel U ⟨w0.w, env U N s w ι⟩ N s a w ι := ⟨h.fr, h.ob, h.inj, h.gr, h.nt, h.df, Step.refl _⟩
theorem Rel.unbase {w0 : World} {E E' : Env} (h : Rel U ⟨w0, E⟩ N s a w ι) (hs : Step E' E) : Rel U ⟨w0, E'⟩ N s a w ι := ⟨h.fr, h.ob, h.inj, h.gr, h.nt, h.df, hs.trans h.st⟩
theorem Rel.toH (h : Rel U w0 (Lt s.nx) s a w ι) : RH U w0 s.hp s.nx w ι := ⟨fun t x ht => absurd ht (by simp [mem, lk_nil, lk_cons]), h.ob, h.inj, h.gr, rfl, rfl, h.st⟩
theorem Rel.ofH (h : Rel U w0 (Lt s.nx) s a w ι) {hp' : List (Nat × Ob)} {nx' : Nat} {w' : World} {ι' : Nat → Option Nat} (hh : RH U w0 hp' nx' w' ι') (hs : Step (env U (Lt s.nx) (mem s.hp s.nx) w ι) (env U (Lt nx') (mem hp' nx') w' ι')) :
    Rel U w0 (Lt nx') { s with hp := hp', nx := nx' } a w' ι' :=
  ⟨fun t x ht => by obtain ⟨v, h1, h2⟩ := h.fr t x ht; exact ⟨v, h1, h2.keep (E' := env U (Lt nx') (mem hp' nx') w' ι') hs⟩, hh.ob, hh.inj, hh.gr, h.nt, h.df, hh.st⟩
theorem Rel.evAll (h : Rel U w0 N s a w ι) : ∀ {xs : List Operand} {vs : List AV}, evL s xs = some vs → All2 (RepV (env U N s w ι)) (xs.map a.eval) vs
  | [], vs, hv => by simp only [evL, Option.some.injEq] at hv; subst hv; exact .nil
  | x :: xs, vs, hv => by
    simp only [evL] at hv
    split at hv
    · rename_i v vs' h1 h2
      cases hv
      exact .cons (h.ev h1) (h.evAll h2)
    · cases hv
theorem Rel.passVals (h : Rel U w0 N s a w ι) : ∀ {xs : List Value} {vs : List AV} {ds : List DA}, All2 (RepV (env U N s w ι)) xs vs → argL s.hp vs = some ds →
    All2 (ShowsA (fun blk => Tr U w ι (lk s.hp) blk ∨ ∃ b ∈ vs.flatMap idsX, Own ι s.hp b blk) w) xs ds
  | [], vs, ds, hv, hd => by
    cases hv
    simp only [argL, Option.some.injEq] at hd
    subst hd
    exact .nil
  | x :: xs, vs, ds, hv, hd => by
    cases hv with
    | @cons _ v _ vs' h1 h2 =>
      simp only [argL] at hd
      split at hd
      · rename_i d ds' h3 h4
        cases hd
        refine .cons (ShowsA.keep ?_ (h.passX h1 h3)) ((h.passVals h2 h4).mono fun _ _ hs => ShowsA.keep ?_ hs)
        · rintro blk (hb | ⟨b, hb, hi⟩)
          · exact .inl hb
          · exact .inr ⟨b, by simp [hb], hi⟩
        · rintro blk (hb | ⟨b, hb, hi⟩)
          · exact .inl hb
          · exact .inr ⟨b, List.mem_flatMap.2 (by obtain ⟨c', h3, h4⟩ := List.mem_flatMap.1 hb; exact ⟨c', by simp [h3], h4⟩), hi⟩
      · cases hd

/-- A call by its contract, on the caller's memory. -/
theorem callH_wp (h : Rel U w0 (Lt s.nx) s a w ι) (hU : ∀ b, w0.w.heap.size ≤ b → U b) {f : FuncId} {x : Operand} {args : Array Operand} {ts : Array TypeId} (ho : o.op = .call { callee := .value x, args := args, argTypes := ts })
    (hx : evP s x = some (.func (.func f) #[] #[])) {vs : List AV} (hv : evL s args.toList = some vs) {hp' : List (Nat × Ob)} {nx' : Nat} {r : AV} (hc : CallH P f s.hp s.nx vs hp' nx' r)
    {K : Act → World → Prop} {Q : Exit → Act → World → Prop}
    (hK : ∀ v w' ι', Rel U w0 (Lt nx') { s with hp := hp', nx := nx' } a w' ι' → RepV (env U (Lt nx') { s with hp := hp', nx := nx' } w' ι') v r → K (a.put o.dst v) w') : o.wp P a w K Q := by
  obtain ⟨⟨fn, hf, hname, hbody⟩, hcalls⟩ := hc
  have hfx := h.evP hx
  have hargs := h.evAll hv
  have hcall := hcalls U w0 w ι (args.map a.eval) hU h.toH (by rw [Array.toList_map]; exact hargs)
  have hrun : (execOp a.eval o).run P w = .ok (.enter f (args.map a.eval)) w := by
    have hn' : ¬ fn.name = "runtime.NumGoroutine" := by simpa using hname
    have hb' : ¬ fn.body = none := by intro e; rw [e] at hbody; simp at hbody
    simp [execOp, ho, resolve, hfx, Deferred.ofValue, invoke, callFunc, hf, hn', hb']
  unfold Oper.wp
  rw [hrun, Oper.upon_enter]
  refine hcall.mono fun e w' ⟨v, ι', he, hr, hrep, hs⟩ => ?_
  subst he
  exact hK v w' ι' (h.ofH hr hs) hrep

/-- A function value, with what it captured. -/
def cloO (s : St) (x : Operand) : Option (FuncId × List AV) :=
  match evO s x with
  | some (.x (.one (.d (.v (.func (.func f) ⟨[]⟩ ⟨[]⟩))))) => some (f, [])
  | some (.x (.one (.clo f bs))) => some (f, bs.map fun b => one (.ptr b 0))
  | _ => none
theorem Rel.clo (h : Rel U w0 N s a w ι) {x : Operand} {f : FuncId} {es : List AV} (hx : cloO s x = some (f, es)) : ∃ arr : Array Value, a.eval x = .func (.func f) #[] arr ∧ All2 (RepV (env U N s w ι)) arr.toList es := by
  unfold cloO at hx
  split at hx
  · rename_i f' he
    cases hx
    exact ⟨#[], plain_eq (h.ev he) rfl, .nil⟩
  · rename_i f' bs he
    cases hx
    obtain ⟨arr, h1, h2⟩ := h.ev he
    exact ⟨arr, h1, All2.map_right h2⟩
  · cases hx
/-- A call of a function value, on the caller's memory. -/
theorem callF_wp (h : Rel U w0 (Lt s.nx) s a w ι) (hU : ∀ b, w0.w.heap.size ≤ b → U b) {f : FuncId} {x : Operand} {args : Array Operand} {ts : Array TypeId} (ho : o.op = .call { callee := .value x, args := args, argTypes := ts })
    {es : List AV} (hx : cloO s x = some (f, es)) {vs : List AV} (hv : evL s args.toList = some vs) {hp' : List (Nat × Ob)} {nx' : Nat} {r : AV} (hc : CallH P f s.hp s.nx (vs ++ es) hp' nx' r)
    {K : Act → World → Prop} {Q : Exit → Act → World → Prop}
    (hK : ∀ v w' ι', Rel U w0 (Lt nx') { s with hp := hp', nx := nx' } a w' ι' → RepV (env U (Lt nx') { s with hp := hp', nx := nx' } w' ι') v r → K (a.put o.dst v) w') : o.wp P a w K Q := by
  obtain ⟨⟨fn, hf, hname, hbody⟩, hcalls⟩ := hc
  obtain ⟨arr, hfx, harr⟩ := h.clo hx
  have hargs := h.evAll hv
  have hcall := hcalls U w0 w ι (args.map a.eval ++ arr) hU h.toH (by rw [Array.toList_append, Array.toList_map]; exact hargs.append harr)
  have hrun : (execOp a.eval o).run P w = .ok (.enter f (args.map a.eval ++ arr)) w := by
    have hn' : ¬ fn.name = "runtime.NumGoroutine" := by simpa using hname
    have hb' : ¬ fn.body = none := by intro e; rw [e] at hbody; simp at hbody
    simp [execOp, ho, resolve, hfx, Deferred.ofValue, invoke, callFunc, hf, hn', hb']
  unfold Oper.wp
  rw [hrun, Oper.upon_enter]
  refine hcall.mono fun e w' ⟨v, ι', he, hr, hrep, hs⟩ => ?_
  subst he
  exact hK v w' ι' (h.ofH hr hs) hrep

/-! ### A temporary's rows are frozen: it shows data -/
def frzT (s : St) (t : Nat) : St :=
  match lk s.fr t with
  | some x => match argX s.hp x with
    | some d => { s with fr := (t, .x (inXA d)) :: s.fr, hp := frz s.hp (idsX x) }
    | none => s
  | none => s
theorem frzT_nx (s : St) (t : Nat) : (frzT s t).nx = s.nx := by
  unfold frzT
  split <;> (try split) <;> rfl
theorem Rel.frzT (h : Rel U w0 N s a w ι) (hU : ∀ b, w0.w.heap.size ≤ b → U b) (t : Nat) : Rel U w0 N (frzT s t) a w ι := by
  unfold Eng.frzT
  split
  · rename_i x hx
    split
    · rename_i d hd
      have h1 := h.frz (idsX x)
      obtain ⟨v, hv, hrep⟩ := h1.fr t x hx
      have hd1 : argX (Eng.frz s.hp (idsX x)) x = some d := by rw [argX_frz]; exact hd
      have hp := h1.passX hrep hd1
      have hT : ∀ blk, (Tr U w ι (lk (Eng.frz s.hp (idsX x))) blk ∨ ∃ b ∈ idsX x, Own ι (Eng.frz s.hp (idsX x)) b blk) → Tr U w ι (lk (Eng.frz s.hp (idsX x))) blk := by
        rintro blk (hb | ⟨b, hb, hi, sz, es, fz, hlk⟩)
        · exact hb
        · refine ⟨hU _ (h1.block (o := .row sz es fz) hlk hi).1, h1.old (o := .row sz es fz) hlk hi, fun b' o hb' hm hi' => ?_⟩
          have : b' = b := h1.inj b' b _ _ blk hb' hlk hi' hi
          subst this
          have hlk' := hlk
          rw [lk_frz] at hlk'
          have ho : o = .row sz es fz := by have := hb'.symm.trans hlk; simpa using this
          subst ho
          cases hs : lk s.hp b' with
          | none => rw [hs] at hlk'; cases hlk'
          | some o' =>
            rw [hs] at hlk'
            cases o' with
            | box _ => cases hlk'
            | mp _ _ => cases hlk'
            | row sz' es' f' =>
              simp only [Option.some.injEq, Ob.row.injEq] at hlk'
              have : fz = true := by rw [← hlk'.2.2]; simp [hb]
              subst this
              simp [Ob.mut] at hm
      have hp' := ShowsA.keep hT hp
      refine ⟨fun t' y ht => ?_, h1.ob, h1.inj, h1.gr, h1.nt, h1.df, h1.st⟩
      replace ht : lk ((t, AV.x (inXA d)) :: s.fr) t' = some y := ht
      rw [lk_cons] at ht
      by_cases he : t = t'
      · subst he
        rw [if_pos rfl] at ht
        cases ht
        refine ⟨v, hv, ?_⟩
        cases d with
        | one c => exact hp'
        | agg cs => obtain ⟨arr, rfl, ha⟩ := hp'; exact ⟨arr, rfl, All2.map_right ha⟩
      · rw [if_neg he] at ht
        exact h1.fr t' y ht
    · exact h
  · exact h
end
end
end Go.Proofs.Ytmhnogmbpoeaeaa.Eng
namespace Go.Proofs.Ytmhnogmbpoeaeaa.Eng
set_option linter.all false
noncomputable section
open Go.RowKit

/-! ### Regions -/
def frOf (fr : List (Nat × AV)) (dst : Option Tmp) (x : Option AV) : List (Nat × AV) :=
  match dst, x with
  | some d, some v => (d, v) :: fr
  | some d, none => del fr d
  | none, _ => fr
def put1 (s : St) (dst : Option Tmp) (x : Option AV) (ups : List (Nat × Ob)) (nx : Nat) : St :=
  { fr := frOf s.fr dst x, hp := ups ++ s.hp, nx := nx, nt := s.nt }
def dstOk (s : St) (dst : Option Tmp) : Bool :=
  match dst with
  | some d => d < s.nt
  | none => true
/-- An operation, as far as it matters here: its temporary, what it does, its guard by the temporary that tells. -/
structure SO where
  dst : Option Nat
  op : Op
  g : Option (Nat × Bool)
/-! An empty slice, whichever way it came to be. -/
def emptyD : D → Prop
  | .sl _ [] => True
  | .v (.slice none 0 0) => True
  | _ => False
def laxD (d d' : D) : Prop := d = d' ∨ (emptyD d ∧ ∃ k, d' = .sl k [])
def laxDs : List D → List D → Prop
  | [], [] => True
  | d :: ds, d' :: ds' => laxD d d' ∧ laxDs ds ds'
  | _, _ => False
def laxA : DA → DA → Prop
  | .one c, .one c' => laxD c c'
  | .agg cs, .agg cs' => laxDs cs cs'
  | _, _ => False
def laxAs : List DA → List DA → Prop
  | [], [] => True
  | d :: ds, d' :: ds' => laxA d d' ∧ laxAs ds ds'
  | _, _ => False
theorem laxD.shows {S : Nat → Prop} {w : World} {x : Value} {d d' : D} (h : laxD d d') (hx : Shows S w x d) : Shows S w x d' := by
  rcases h with rfl | ⟨he, k, rfl⟩
  · exact hx
  · cases hx with
    | v h =>
      unfold emptyD at he
      split at he
      · rename_i hq; cases hq
      · rename_i hq; cases hq; exact .nil
      · exact he.elim
    | nil => exact .nil
    | sl f hn hS hc hm hw hr hd =>
      unfold emptyD at he
      split at he
      · rename_i hq; cases hq; exact .sl f hn (by simp) hc hm (by simp) (by simp) (by simp)
      · rename_i hq; cases hq
      · exact he.elim
theorem laxDs.shows {S : Nat → Prop} {w : World} : ∀ {xs : List Value} {ds ds' : List D}, laxDs ds ds' → All2 (Shows S w) xs ds → All2 (Shows S w) xs ds'
  | [], [], [], _, _ => .nil
  | _ :: _, _ :: _, _ :: _, h, .cons hx t => .cons (h.1.shows hx) (laxDs.shows h.2 t)
  | [], [], _ :: _, h, _ => h.elim
  | _ :: _, _ :: _, [], h, _ => h.elim
theorem laxA.shows {S : Nat → Prop} {w : World} {x : Value} {d d' : DA} (h : laxA d d') (hx : ShowsA S w x d) : ShowsA S w x d' := by
  cases d <;> cases d' <;> simp only [laxA] at h
  · exact laxD.shows h hx
  · obtain ⟨arr, h1, h2⟩ := hx; exact ⟨arr, h1, laxDs.shows h h2⟩
theorem laxAs.shows {S : Nat → Prop} {w : World} : ∀ {xs : List Value} {ds ds' : List DA}, laxAs ds ds' → All2 (ShowsA S w) xs ds → All2 (ShowsA S w) xs ds'
  | [], [], [], _, _ => .nil
  | _ :: _, _ :: _, _ :: _, h, .cons hx t => .cons (h.1.shows hx) (laxAs.shows h.2 t)
  | [], [], _ :: _, h, _ => h.elim
  | _ :: _, _ :: _, [], h, _ => h.elim
theorem Con.lax {P : Program} {f : FuncId} {ds ds' : List DA} {r : RV} (h : Con P f ds' r) (hl : laxAs ds ds') : Con P f ds r :=
  ⟨h.1, fun S w args hS ha => h.2 S w args hS (hl.shows ha)⟩

/-- One operation, whose new objects get the numbers from 'seed' on. -/
def stepA (P : Program) (s : St) (seed : Nat) (dst : Option Nat) (op : Op) (K : St → Prop) : Prop :=
  match op with
  | .call ⟨.value (.func f), args, _⟩ => ∃ vs ds r fz, evL s args.toList = some vs ∧ argL s.hp vs = some ds ∧ Con P f ds r ∧ (fz = true ∨ Flat r) ∧
      K (put1 { s with hp := callHp s fz vs } dst (some (unV' seed r).1) (unV' seed r).2.1 (unV' seed r).2.2)
  | op => ∃ e, effect P s seed op = some e ∧ K (put1 s dst e.val e.ups (seed + e.cnt))
def boolV (s : St) (t : Nat) : Option Bool :=
  match lk s.fr t with
  | some (.x (.one (.d (.v (.bool b))))) => some b
  | _ => none
/-- An operation that is not carried out leaves an empty tuple. -/
def skip1 (s : St) (dst : Option Tmp) : St := put1 s dst (some (.tup [])) [] s.nx
/-- The guard says no: its temporary has the other value, or was not written itself. -/
def offB (s : St) (t : Nat) (w : Bool) : Prop := boolV s t = some (!w) ∨ lk s.fr t = some (.tup [])
/-- The guard's temporary, once it is decided. -/
def know (s : St) (t : Nat) (b : Bool) : St := { s with fr := (t, vv (.bool b)) :: s.fr }
def RS (U : Nat → Prop) (w0 : Base) (s : St) (a : Act) (w : World) : Prop := ∃ ι, Rel U w0 (Lt s.nx) s a w ι

section
variable {P : Program} {U : Nat → Prop} {w0 : Base} {N : Nat → Prop} {s : St} {a : Act} {w : World} {ι : Nat → Option Nat} {seed : Nat} {o : Oper}

/-- Behind an operation: its temporary. -/
theorem Rel.dst (h : Rel U w0 N s a w ι) {dst : Option Tmp} {v : Value} {x : Option AV} (hd : dstOk s dst = true) (hx : ∀ y, x = some y → RepV (env U N s w ι) v y) {nx' : Nat} (hN : ∀ b, N b → b < nx') :
    RS U w0 (put1 s dst x [] nx') (a.put dst v) w := by
  have key : ∀ {s' : St} {a' : Act}, Rel U w0 N s' a' w ι → RS U w0 { s' with nx := nx' } a' w := fun hh => ⟨ι, hh.weakN hN⟩
  cases dst with
  | none => exact key h
  | some d =>
    cases x with
    | none => exact key (h.forget d v)
    | some y => exact key (h.put (by simpa [dstOk] using hd) (hx y rfl))
theorem stepA_call {f : FuncId} {args : Array Operand} {ts : Array TypeId} {K : St → Prop} {op : Op} {dst : Option Nat} (ho : op = .call ⟨.value (.func f), args, ts⟩) (h : stepA P s seed dst op K) :
    ∃ vs ds r fz, evL s args.toList = some vs ∧ argL s.hp vs = some ds ∧ Con P f ds r ∧ (fz = true ∨ Flat r) ∧ K (put1 { s with hp := callHp s fz vs } dst (some (unV' seed r).1) (unV' seed r).2.1 (unV' seed r).2.2) := by
  subst ho
  exact h
theorem stepA_other {K : St → Prop} {op : Op} {dst : Option Nat} (ho : ∀ f args ts, op ≠ .call ⟨.value (.func f), args, ts⟩) (h : stepA P s seed dst op K) : ∃ e, effect P s seed op = some e ∧ K (put1 s dst e.val e.ups (seed + e.cnt)) := by
  unfold stepA at h
  split at h
  · exact absurd rfl (ho _ _ _)
  · exact h
theorem unV'_le (seed : Nat) (r : RV) : seed ≤ (unV' seed r).2.2 := by
  match r with
  | [y] => exact unX_le seed y
  | [] => exact unXs_le seed []
  | y :: z :: l => exact unXs_le seed (y :: z :: l)
theorem put1_app (s : St) (dst : Option Tmp) (x : Option AV) (ups : List (Nat × Ob)) (nx : Nat) : put1 s dst x ups nx = put1 (App ups nx s) dst x [] nx := by
  simp [put1, App]
/-- One operation, in the model. -/
theorem step_sound (h : Rel U w0 N s a w ι) (hU : ∀ b, w0.w.heap.size ≤ b → U b) {K : St → Prop} {K' : Act → World → Prop} {Q : Exit → Act → World → Prop} (hd : dstOk s o.dst = true) (hN : ∀ b, N b → b < seed) (hA : stepA P s seed o.dst o.op K)
    (hK : ∀ s' a' w', K s' → RS U w0 s' a' w' → K' a' w') : o.wp P a w K' Q := by
  by_cases hcall : ∃ f args ts, o.op = .call ⟨.value (.func f), args, ts⟩
  · obtain ⟨f, args, ts, hop⟩ := hcall
    obtain ⟨vs, ds, r, fz, h1, h2, h3, h4, h5⟩ := stepA_call hop hA
    refine call_wp h hU hop h1 h2 h3 h4 (lim := (unV' seed r).2.2) (fun k hk _ hn => by have := hN k hn; omega) (Nat.le_refl _) (fun v w' ι' hr hv => ?_)
    rw [put1_app] at h5
    refine hK _ _ _ h5 (hr.dst (x := some (unV' seed r).1) ?_ (fun y hy => by cases hy; exact hv) (fun b hb => ?_))
    · cases hdst : o.dst with
      | none => rfl
      | some d => rw [hdst] at hd; exact hd
    · have := unV'_le seed r
      rcases hb with hb | hb
      · have := hN b hb; omega
      · omega
  · obtain ⟨e, he, h5⟩ := stepA_other (fun f args ts hop => hcall ⟨f, args, ts, hop⟩) hA
    obtain ⟨v, w', ι', hout, hr, hv⟩ := good_effect h (fun k hk hn => by have := hN _ hn; omega) he
    rw [put1_app] at h5
    have hfin := hK _ (a.put o.dst v) w' h5 (hr.dst (s := App e.ups (seed + e.cnt) s) (x := e.val) (v := v) (dst := o.dst) (by
      cases hdst : o.dst with
      | none => rfl
      | some d => rw [hdst] at hd; exact hd) hv (fun b hb => by
        rcases hb with hb | hb
        · have := hN b hb; omega
        · omega))
    unfold Oper.wp
    rcases hout with hrun | ⟨rfl, hrun⟩
    · rw [hrun]; exact hfin
    · rw [hrun]; exact hfin
theorem bool_val (h : Rel U w0 N s a w ι) {t : Nat} {b : Bool} (hg : boolV s t = some b) : a.tmps[t]? = some (.bool b) := by
  unfold boolV at hg
  split at hg
  · rename_i b' hl
    cases hg
    obtain ⟨v, h1, h2⟩ := h.fr t _ hl
    have : v = .bool b := plain_eq h2 rfl
    subst this
    exact h1
  · cases hg
theorem off_yield (h : Rel U w0 N s a w ι) {ops : Array Oper} {j t : Nat} {w' : Bool} (et : (ops[j]?).bind (·.dst) = some t) (hb : offB s t w') : (yielded ops a.tmps j == some w') = false := by
  rcases hb with hb | hb
  · have hy : yielded ops a.tmps j = some (!w') := by unfold yielded; rw [et]; simp [bool_val h hb]
    simp [hy]
  · obtain ⟨v, h1, arr, rfl, h3⟩ := h.fr t _ hb
    have hy : yielded ops a.tmps j = none := by unfold yielded; rw [et]; simp [h1]
    simp [hy]
theorem rep_undef {E : Env} : RepV E undef (.tup []) := ⟨#[], rfl, .nil⟩
/-- The short form of an operation, in its region. -/
def SOk (ops : Array Oper) (o : Oper) (so : SO) : Prop :=
  so.dst = o.dst ∧ so.op = o.op ∧ match o.guard, so.g with
    | none, none => True
    | some (j, w), some (t, w') => (ops[j]?).bind (·.dst) = some t ∧ w' = w
    | _, _ => False
theorem stepA_eff {K : St → Prop} {op : Op} {dst : Option Nat} {e : Eff} (he : effect P s seed op = some e) (h : K (put1 s dst e.val e.ups (seed + e.cnt))) : stepA P s seed dst op K := by
  unfold stepA
  split
  · rename_i f args ts
    simp [effect] at he
  · exact ⟨e, he, h⟩
theorem RS.know (h : RS U w0 s a w) {t : Nat} {b : Bool} (hb : boolV s t = some b) : RS U w0 (know s t b) a w := by
  obtain ⟨ι, h⟩ := h
  refine ⟨ι, fun k x hk => ?_, h.ob, h.inj, h.gr, h.nt, h.df, h.st⟩
  simp only [Eng.know, lk_cons] at hk
  split at hk
  · rename_i e; subst e; cases hk; exact ⟨_, bool_val h hb, rep_v rfl⟩
  · exact h.fr k x hk
end
end
end Go.Proofs.Ytmhnogmbpoeaeaa.Eng
