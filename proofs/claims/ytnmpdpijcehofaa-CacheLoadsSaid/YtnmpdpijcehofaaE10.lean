/-
  Values seen as data: a part of the engine, of no one program. No condition.
-/
import Derived.Test.YtnmpdpijcehofaaE9
namespace Go.Proofs.Ytnmpdpijcehofaa.Eng
set_option linter.all false
noncomputable section
open Go.RowKit

theorem flat_set {α : Type} {sz : Nat} : ∀ {es : List (List α)}, (∀ e ∈ es, e.length = sz) → ∀ {i : Nat} {e : List α}, i < es.length → e.length = sz → (es.set i e).flatten = spl es.flatten (i * sz) e
  | [], _, i, e, hi, _ => by simp at hi
  | e0 :: es, h, 0, e, _, he => by
    have h0 : e0.length = sz := h e0 (by simp)
    simp only [List.set_cons_zero, List.flatten_cons, spl, Nat.zero_mul, List.take_zero, List.nil_append, Nat.zero_add]
    rw [List.drop_append, List.drop_eq_nil_of_le (by omega), List.nil_append, show e.length - e0.length = 0 by omega, List.drop_zero]
  | e0 :: es, h, i + 1, e, hi, he => by
    have h0 : e0.length = sz := h e0 (by simp)
    rw [List.set_cons_succ, List.flatten_cons, flat_set (fun e' he' => h e' (by simp [he'])) (by simpa using hi) he, List.flatten_cons]
    have e1 : (i + 1) * sz = e0.length + i * sz := by rw [h0, Nat.add_mul]; omega
    have e2 : e0.take (e0.length + i * sz) = e0 := List.take_of_length_le (by omega)
    have e3 : e0.drop (e0.length + i * sz + e.length) = [] := List.drop_eq_nil_of_le (by omega)
    have e4 : e0.length + i * sz - e0.length = i * sz := by omega
    have e5 : e0.length + i * sz + e.length - e0.length = i * sz + e.length := by omega
    unfold spl
    rw [e1, List.take_append, e2, e4, List.drop_append, e3, List.nil_append, e5, List.append_assoc]
theorem spl_map {α β : Type} (f : α → β) (l m : List α) (o : Nat) : spl (l.map f) o (m.map f) = (spl l o m).map f := by
  simp [spl, List.map_take, List.map_drop]
theorem rep_get {α : Type} {l : List α} {n k : Nat} (hk : k < n * l.length) : ((List.replicate n l).flatten)[k]? = l[k % l.length]? := by
  have hpos : 0 < l.length := by rcases Nat.eq_zero_or_pos l.length with h | h; rw [h] at hk; omega; exact h
  have hq : k / l.length < n := by rw [Nat.div_lt_iff_lt_mul hpos]; exact hk
  have hr := Nat.mod_lt k hpos
  have h1 : (List.replicate n l)[k / l.length]? = some l := by rw [List.getElem?_replicate, if_pos hq]
  have h2 := flat_get (sz := l.length) (es := List.replicate n l) (fun e he => by rw [List.eq_of_mem_replicate he]) h1 (k := k % l.length) (c := l[k % l.length]) (List.getElem?_eq_getElem hr)
  rw [show k / l.length * l.length + k % l.length = k by rw [Nat.mul_comm]; exact Nat.div_add_mod k l.length] at h2
  rw [h2, List.getElem?_eq_getElem hr]

def allD : List AC → Option (List D)
  | [] => some []
  | .d x :: cs => (allD cs).map (x :: ·)
  | _ :: _ => none
theorem allD_eq : ∀ {cs : List AC} {ds : List D}, allD cs = some ds → cs = ds.map .d
  | [], ds, h => by simp only [allD, Option.some.injEq] at h; subst h; rfl
  | c :: cs, ds, h => by
    cases c with
    | d x =>
      simp only [allD, Option.map_eq_some_iff] at h
      obtain ⟨ds', h1, rfl⟩ := h
      rw [allD_eq h1]; rfl
    | _ => simp [allD] at h

section
variable {P : Program} {S0 : Nat → Prop} {w0 : Base} {N : Nat → Prop} {s : St} {a : Act} {w : World} {ι : Nat → Option Nat} {seed : Nat} {o : Oper}

def rowsA (s : St) (sz : Nat) : List (Nat × Operand) → List (List D) → Option (List (List D))
  | [], es => some es
  | (i, x) :: rest, es => match ((evO s x).bind cellsOf).bind allD with
    | some new => if new.length = sz ∧ i < es.length then rowsA s sz rest (es.set i new) else none
    | none => none
theorem rowsA_run (h : Rel S0 w0 N s a w ι) {sz : Nat} : ∀ {parts : List (Nat × Operand)} {es out : List (List D)} {cells : Array Value}, (∀ e ∈ es, e.length = sz) → All2 (RepC (env S0 N s w ι)) cells.toList (es.flatten.map .d) → rowsA s sz parts es = some out →
    ∃ cells', Instr.fill (fun i => some (i * sz, sz)) cells (parts.map fun p => (p.1, a.eval p.2)) = some cells' ∧ All2 (RepC (env S0 N s w ι)) cells'.toList (out.flatten.map .d) ∧ (∀ e ∈ out, e.length = sz) ∧ out.length = es.length
  | [], es, out, cells, hw, hc, ho => by simp only [rowsA, Option.some.injEq] at ho; subst ho; exact ⟨cells, rfl, hc, hw, rfl⟩
  | (i, x) :: rest, es, out, cells, hw, hc, ho => by
    simp only [rowsA] at ho
    split at ho
    · rename_i new hn
      split at ho
      · rename_i hh
        obtain ⟨l, hn1, hn2⟩ := Option.bind_eq_some_iff.1 hn
        obtain ⟨v, hv, hcv⟩ := Option.bind_eq_some_iff.1 hn1
        obtain rfl := allD_eq hn2
        obtain ⟨h1, h2⟩ := cellsOf_rep (h.ev hv) hcv
        have hl := hc.length
        have hl1 := h1.length
        rw [List.length_map, flat_len hw] at hl
        simp at hl hl1
        simp only [List.map_cons]
        have hfit : i * sz + sz ≤ cells.size := by rw [hl]; have := Nat.mul_le_mul_right sz (show i + 1 ≤ es.length by omega); rw [Nat.add_mul] at this; omega
        rw [fill_step rfl (by omega) hfit]
        have hw' : ∀ e ∈ es.set i new, e.length = sz := fun e he => by
          rcases List.mem_or_eq_of_mem_set he with h' | rfl
          · exact hw e h'
          · exact hh.1
        have h3 := rowsA_run h (cells := (spl cells.toList (i * sz) (a.eval x).cells.toList).toArray) hw' (by
          rw [flat_set hw hh.2 hh.1, ← spl_map]
          simpa using hc.spl h1 (i * sz)) ho
        simpa using h3
      · cases ho
    · cases ho

theorem zero_rows {E : Env} {z : List Value} (hz : ∀ v ∈ z, v.oneCell' = true) {n m : Nat} (hm : m = n * z.length) {cur : Array Value} (hc : ∀ k, k < m → cur[k]? = z[k % z.length]?) :
    ∀ (k : Nat) (c : AC), ((List.replicate n (dv z)).flatten.map AC.d)[k]? = some c → ∃ y, cur[k]? = some y ∧ RepC E y c := by
  intro k c hk
  rw [List.getElem?_map] at hk
  obtain ⟨d, hd, rfl⟩ := Option.map_eq_some_iff.1 hk
  have hl : (dv z).length = z.length := by simp [dv]
  have hlt : k < n * (dv z).length := by
    have := (List.getElem?_eq_some_iff.1 hd).1
    rw [flat_len (sz := (dv z).length) (fun e he => by rw [List.eq_of_mem_replicate he]), List.length_replicate] at this
    exact this
  rw [rep_get hlt, hl] at hd
  unfold dv at hd
  rw [List.getElem?_map] at hd
  obtain ⟨u, hu, rfl⟩ := Option.map_eq_some_iff.1 hd
  exact ⟨u, by rw [hc k (by rw [hm, ← hl]; exact hlt)]; exact hu, Shows.v (hz u (List.mem_of_getElem? hu))⟩

theorem own_rep {E : Env} {b g L cap sz : Nat} {es : List (List D)} {fz : Bool} {cur : Array Value} {ty : TypeId} (hN : E.N b) (hi : E.ι b = some g) (hH : E.H b = some (.row sz es fz)) (hl : es.length = L) (hc : L ≤ cap) (hm : cap ≤ maxLen) (hh : E.w.heap[g]? = some (.cells cur ty (0, 0))) (hs : cur.size = cap * sz) :
    RepC E (.slice (some ⟨g, 0, none⟩) L cap) (.own b L) := by
  refine ⟨hN, rfl, fun sz1 es1 fz1 hb => ?_⟩
  have := hH.symm.trans hb
  cases this
  exact ⟨by omega, fun _ => .inr ⟨g, cap, hi, rfl, hc, hm, cur, ty, hh, hs⟩⟩

def bslice1 (P : Program) (s : St) (seed : Nat) (t : TypeId) (len : Nat) (parts : List (Nat × Operand)) : Option Eff :=
  match ti P t with
  | some ⟨.sl e, _, _, _⟩ => match ti P e with
    | some j => if len * j.size ≤ 16777216 ∧ 0 < j.size then (rowsA s j.size parts (List.replicate len (dv j.zero))).map fun es => { val := some (one (.own seed len)), ups := [(seed, .row j.size es false)], cnt := 1 } else none
    | none => none
  | _ => none
theorem good_bslice (h : Rel S0 w0 N s a w ι) (hid : ∀ k, k < 1 → ¬ N (seed + k)) {t : TypeId} {len : Nat} {parts : Array (Nat × Operand)} {e : Eff} (ho : o.op = .buildSlice t len parts) (he : bslice1 P s seed t len parts.toList = some e) : Good P S0 w0 N s a w seed o e := by
  have hparts : (parts.map fun (p : Nat × Operand) => (p.1, a.eval p.2)).toList = parts.toList.map fun p => (p.1, a.eval p.2) := by simp
  unfold bslice1 at he
  split at he
  · rename_i e0 n b z hi
    split at he
    · rename_i j hj
      split at he
      · rename_i hsz
        obtain ⟨es, hes, rfl⟩ := Option.map_eq_some_iff.1 he
        have hsl := ti_slice hi rfl
        obtain ⟨k, d, zz, h1, hd, h3, h4, rfl, h5⟩ := ti_info hj
        simp only at hes hsz
        have hzl : zz.cells.toList.length = k.size := by simpa using h4
        have hbase : All2 (RepC (env S0 N s w ι)) ((Array.range (len * k.size)).map (fun x => (if len * k.size = 0 then #[] else zz.cells)[x % (if len * k.size = 0 then #[] else zz.cells).size]!)).toList ((List.replicate len (dv zz.cells.toList)).flatten.map .d) := by
          have hw : ∀ e ∈ List.replicate len (dv zz.cells.toList), e.length = k.size := fun e he => by rw [List.eq_of_mem_replicate he]; simpa [dv] using h4
          refine All2.of_get (by rw [List.length_map, flat_len hw]; simp) fun q y c hy hc => ?_
          have hq : q < len * k.size := by
            have := (List.getElem?_eq_some_iff.1 hc).1
            rw [List.length_map, flat_len hw, List.length_replicate] at this
            exact this
          have hne : ¬ len * k.size = 0 := by omega
          have hmod : q % k.size < zz.cells.size := by rw [h4]; exact Nat.mod_lt _ hsz.2
          simp only [hne, if_false, h4] at hy
          have hy' : y = zz.cells[q % k.size] := by
            simp [hq] at hy
            rw [← hy]
            simp [hmod]
          obtain ⟨y', hy1, hr⟩ := zero_rows (E := env S0 N s w ι) h5 (n := len) (m := len * k.size) (by rw [hzl]) (cur := (Array.range (len * k.size)).map (fun x => zz.cells[x % k.size]!)) (fun q hq => by
            have hmod : q % k.size < zz.cells.size := by rw [h4]; exact Nat.mod_lt _ hsz.2
            simp [hq, hzl, hmod]) q c hc
          have : y' = y := by
            simp [hq] at hy1
            rw [hy', ← hy1]
            simp [hmod]
          rw [← this]
          exact hr
        obtain ⟨cells', hf, hr, hw, hlen⟩ := rowsA_run h (fun e he => by rw [List.eq_of_mem_replicate he]; simpa [dv] using h4) hbase hes
        have hcl := hr.length
        rw [List.length_map, flat_len hw, hlen] at hcl
        simp at hcl
        refine good_new h hid (cur := cells') (ty := e0) (v := .slice (some ⟨w.heap.size, 0, none⟩) len len) ?_ ?_ ?_ ?_
        · have h24 : ¬ (2 ^ 24 < len * k.size) := by omega
          by_cases h0 : len * k.size = 0
          · obtain rfl : len = 0 := by
              rcases Nat.eq_zero_or_pos len with h' | h'
              · exact h'
              · have := Nat.mul_pos h' hsz.2; omega
            simp at hf
            simp [execOp, ho, Instr.buildSlice, run_underlying hsl, sizeOf, typeInfo, h1, hparts, hf, newRow]
          · simp only [h0, if_false] at hf
            simp [execOp, ho, Instr.buildSlice, run_underlying hsl, sizeOf, typeInfo, h1, h0, hparts, hf, newRow, h24, zeroValue, h3]
        · intro q c hq
          obtain ⟨y, hy, hrr⟩ := hr.get hq
          exact ⟨y, by simpa using hy, hrr⟩
        · exact ⟨hsz.2, hw⟩
        · intro E e1 e2 e3 e4
          refine own_rep e3 e1 e2 (by simpa using hlen) (Nat.le_refl _) ?_ (by rw [e4]; exact heap_alloc_new w _) hcl
          simp only [maxLen]
          have : len ≤ len * k.size := Nat.le_mul_of_pos_right _ hsz.2
          omega
      · cases he
    · cases he
  · cases he
def mslice1 (P : Program) (s : St) (seed : Nat) (t : TypeId) (l c : Operand) : Option Eff :=
  match ti P t, evP s l, evP s c with
  | some ⟨.sl e, _, _, _⟩, some (.int _ l), some (.int _ c) => match ti P e with
    | some j => if 0 ≤ l ∧ l ≤ c ∧ (j.bytes : Int) * c ≤ 281474976710656 ∧ c ≤ 9223372036854775807 ∧ 0 < j.size then
        some { val := some (one (.own seed l.toNat)), ups := [(seed, .row j.size (List.replicate l.toNat (dv j.zero)) false)], cnt := 1 } else none
    | none => none
  | _, _, _ => none
theorem good_mslice (h : Rel S0 w0 N s a w ι) (hid : ∀ k, k < 1 → ¬ N (seed + k)) {t : TypeId} {l c : Operand} {e : Eff} (ho : o.op = .makeSlice t l c) (he : mslice1 P s seed t l c = some e) : Good P S0 w0 N s a w seed o e := by
  unfold mslice1 at he
  split at he
  · rename_i e0 n b z kl l' kc c' hi hl hc
    split at he
    · rename_i j hj
      split at he
      · rename_i hcond
        obtain ⟨g0, g1, g2, g3, g4⟩ := hcond
        cases he
        have hsl := ti_slice hi rfl
        obtain ⟨k, d, zz, h1, hd, h3, h4, rfl, h5⟩ := ti_info hj
        simp only at g2 g4 ⊢
        have hzl : zz.cells.toList.length = k.size := by simpa using h4
        have hr := run_make (P := P) w t e0 k zz hsl h1 h3 kl kc l' c' g0 g1 g2 g3
        refine good_new h hid (cur := madeCells zz.cells (c'.toNat * k.size)) (ty := e0) (v := .slice (some ⟨w.heap.size, 0, none⟩) l'.toNat c'.toNat) ?_ ?_ ?_ ?_
        · simp [execOp, ho, h.evP hl, h.evP hc, hr]
        · have hle : l'.toNat * k.size ≤ c'.toNat * k.size := Nat.mul_le_mul_right _ (by omega)
          refine zero_rows h5 (m := l'.toNat * k.size) (by rw [hzl]) (fun q hq => ?_)
          have hmod : q % k.size < zz.cells.size := by rw [h4]; exact Nat.mod_lt _ g4
          have hlt : q < c'.toNat * k.size := by omega
          rw [hzl]
          rw [Array.getElem?_toList, Array.getElem?_eq_getElem hmod]
          simp only [madeCells, Array.getElem?_map, h4]
          rw [Array.getElem?_eq_getElem (by simpa using hlt)]
          simp [hmod]
        · refine ⟨g4, fun e he => ?_⟩
          rw [List.eq_of_mem_replicate he]
          simpa [dv] using h4
        · intro E e1 e2 e3 e4
          refine own_rep e3 e1 e2 (by simp) (by omega) ?_ (by rw [e4]; exact heap_alloc_new w _) (size_madeCells _ _)
          simp only [maxLen]; omega
      · cases he
    · cases he
  · cases he
end
end
end Go.Proofs.Ytnmpdpijcehofaa.Eng
