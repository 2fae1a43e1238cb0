/-
  Values seen as data: a part of the engine, of no one program. No condition.
-/
import Derived.Test.YtnmpdpijcehofaaE7
namespace Go.Proofs.Ytnmpdpijcehofaa.Eng
set_option linter.all false
noncomputable section
open Go.RowKit

def spl {α : Type} (l : List α) (o : Nat) (m : List α) : List α := l.take o ++ (m ++ l.drop (o + m.length))
theorem spl_len {α : Type} {l m : List α} {o : Nat} (h : o + m.length ≤ l.length) : (spl l o m).length = l.length := by
  simp only [spl, List.length_append, List.length_take, List.length_drop]; omega
theorem spl_get {α : Type} {l m : List α} {o : Nat} (h : o + m.length ≤ l.length) (k : Nat) : (spl l o m)[k]? = if k < o then l[k]? else if k < o + m.length then m[k - o]? else l[k]? := by
  unfold spl
  rw [List.getElem?_append]
  simp only [List.length_take]
  have ho : min o l.length = o := by omega
  rw [ho]
  by_cases h1 : k < o
  · simp [h1]
  · rw [if_neg h1, if_neg h1, List.getElem?_append]
    by_cases h2 : k < o + m.length
    · rw [if_pos (by omega), if_pos h2]
    · rw [if_neg (by omega), if_neg h2, List.getElem?_drop]
      congr 1
      omega

section
variable {P : Program} {S0 : Nat → Prop} {w0 : Base} {N : Nat → Prop} {s : St} {a : Act} {w : World} {ι : Nat → Option Nat} {seed : Nat} {o : Oper}

theorem run_loadVar {t : TypeId} {i : TI} (hi : ti P t = some i) (w : World) (ad : Addr) (ys : List Value) (hl : ys.length = i.size) (hy : ∀ j u, ys[j]? = some u → w.cell? (ad.add j) = some u) (h1 : i.k.isAgg = false → ys.length = 1) :
    (loadVar t ad).run P w = .ok (if i.k.isAgg then .agg ys.toArray else ys.getD 0 undef) w := by
  have hl' := run_loadCells_list (P := P) w ad ys hy
  rw [hl] at hl'
  cases hk : i.k.isAgg with
  | true => simp [loadVar, ti_agg hi, ti_size hi, hk, hl']
  | false =>
    have hone := h1 hk
    obtain ⟨y, rfl⟩ : ∃ y, ys = [y] := by
      match ys, hone with
      | [y], _ => exact ⟨y, rfl⟩
    have h0 := hy 0 y rfl
    rw [Addr.add_zero'] at h0
    simp [loadVar, ti_agg hi, hk, h0]

def load1 (P : Program) (s : St) (t : TypeId) (x : Operand) : Option Eff :=
  match evO s x, ti P t with
  | some (.x (.one c)), some i => (cellsAt s.hp i.size c).bind fun cs => (asVal i.k.isAgg cs).map fun v => { val := some v }
  | _, _ => none
theorem asVal_rep {E : Env} {ys : List Value} {cs : List AC} {agg : Bool} {v : AV} (h : All2 (RepC E) ys cs) (hv : asVal agg cs = some v) : (agg = false → ys.length = 1) ∧ RepV E (if agg then .agg ys.toArray else ys.getD 0 undef) v := by
  unfold asVal at hv
  cases agg with
  | true => simp only [if_true] at hv; cases hv; exact ⟨by simp, ys.toArray, rfl, by simpa using h⟩
  | false =>
    simp only [Bool.false_eq_true, if_false] at hv
    split at hv
    · cases hv
      cases h with
      | cons h t => cases t; exact ⟨by simp, h⟩
    · cases hv
theorem good_load (h : Rel S0 w0 N s a w ι) {t : TypeId} {x : Operand} {e : Eff} (ho : o.op = .load t x) (he : load1 P s t x = some e) : Good P S0 w0 N s a w seed o e := by
  unfold load1 at he
  split at he
  · rename_i c i hx hi
    obtain ⟨cs, hc, he⟩ := Option.bind_eq_some_iff.1 he
    obtain ⟨v, hv, rfl⟩ := Option.map_eq_some_iff.1 he
    obtain ⟨ad, ys, hp, hl, hcell, hr⟩ := h.cellsAt (h.ev hx) hc
    obtain ⟨h1, h2⟩ := asVal_rep hr hv
    refine good_pure h (v := if i.k.isAgg then .agg ys.toArray else ys.getD 0 undef) ?_ h2
    simp only [execOp, ho, hp, Instr.loadAt, Instr.sureAddr, Sem.run_bind, Sem.run_pure, Result.andThen_ok, run_loadVar hi w ad ys hl hcell h1]
  · cases he

/-- A plain computation of one value. -/
theorem good_val (h : Rel S0 w0 N s a w ι) {v : Value} (hr : (execOp a.eval o).run P w = .ok (.value v) w) (hv : v.oneCell' = true) : Good P S0 w0 N s a w seed o { val := some (vv v) } :=
  good_pure h hr (rep_v hv)
theorem good_move (h : Rel S0 w0 N s a w ι) {x : Operand} {v : AV} (ho : o.op = .move x ∨ o.op = .assign x) (hx : evO s x = some v) : Good P S0 w0 N s a w seed o { val := some v } := by
  refine good_pure h (v := a.eval x) ?_ (h.ev hx)
  rcases ho with ho | ho <;> simp [execOp, ho]
theorem good_pick (h : Rel S0 w0 N s a w ι) {c x y : Operand} {b : Bool} {v : AV} (ho : o.op = .pick c x y) (hc : evP s c = some (.bool b)) (hx : evO s (if b then x else y) = some v) : Good P S0 w0 N s a w seed o { val := some v } := by
  refine good_pure h (v := a.eval (if b then x else y)) ?_ (h.ev hx)
  simp only [execOp, ho, h.evP hc, asBool]
  cases b <;> rfl
theorem good_bin (h : Rel S0 w0 N s a w ι) {op : BinOp} {t t' : TypeId} {x y : Operand} {u v r : Value} (ho : o.op = .binOp op t x y t') (hx : evP s x = some u) (hy : evP s y = some v) (hr : binX P op t u v = some r) : Good P S0 w0 N s a w seed o { val := some (vv r) } := by
  obtain ⟨h1, h2⟩ := binX_run hr x y w
  refine good_val h ?_ h2
  rw [Sem.run_bind] at h1
  simp only [execOp, ho, h.evP hx, h.evP hy, Sem.run_bind]
  rw [h1]; rfl
theorem good_un (h : Rel S0 w0 N s a w ι) {op : UnOp} {t : TypeId} {x : Operand} {u r : Value} (ho : o.op = .unOp op t x) (hx : evP s x = some u) (hr : unV op u = some r) : Good P S0 w0 N s a w seed o { val := some (vv r) } := by
  obtain ⟨h1, h2⟩ := unV_run hr P w
  refine good_val h ?_ h2
  simp only [execOp, ho, h.evP hx, Sem.run_bind, h1]; rfl
theorem good_cv (h : Rel S0 w0 N s a w ι) {src dst : TypeId} {x : Operand} {u r : Value} (ho : o.op = .convert src dst x) (hx : evP s x = some u) (hr : cvV P src dst u = some r) : Good P S0 w0 N s a w seed o { val := some (vv r) } := by
  obtain ⟨h1, h2⟩ := cvV_run hr w
  refine good_val h ?_ h2
  simp only [execOp, ho, h.evP hx, Sem.run_bind, h1]; rfl

def fieldOf (P : Program) (t : TypeId) (k : Nat) : Option (Nat × TI) :=
  match ti P t with
  | some ⟨.st fs, _, _, _⟩ => match fs[k]? with
    | some (off, ft) => match ti P ft with
      | some i => if i.size = 0 then none else some (off, i)
      | none => none
    | none => none
  | _ => none
theorem fieldOf_spec {t : TypeId} {k off : Nat} {i : TI} (h : fieldOf P t k = some (off, i)) : ∃ (fs : Array Field) (f : Field), P.underlying t = some (.struct fs) ∧ fs[k]? = some f ∧ f.offset = off ∧ ti P f.type = some i ∧ i.size ≠ 0 := by
  unfold fieldOf at h
  split at h
  · rename_i fs n b z hi
    obtain ⟨j, d, zz, _, hd, _, _, hx, _⟩ := ti_info hi
    simp only [TI.mk.injEq] at hx
    split at h
    · rename_i off' ft hk
      split at h
      · rename_i i' hi'
        split at h
        · cases h
        · rename_i hne
          cases h
          cases d <;> simp [tk] at hx
          rename_i fields
          rw [hx.1] at hk
          simp only [List.getElem?_map, Option.map_eq_some_iff, Prod.mk.injEq] at hk
          obtain ⟨f, hf, rfl, rfl⟩ := hk
          exact ⟨fields, f, hd, by simpa using hf, rfl, hi', hne⟩
      · cases h
    · cases h
  · cases h
theorem good_fieldAddr (h : Rel S0 w0 N s a w ι) {t : TypeId} {x : Operand} {k off : Nat} {i : TI} {c c' : AC} (ho : o.op = .fieldAddr t x k) (hx : evO s x = some (one c)) (hf : fieldOf P t k = some (off, i)) (hc : shift s.hp off c = some c') :
    Good P S0 w0 N s a w seed o { val := some (one c') } := by
  obtain ⟨fs, f, h1, h2, rfl, h3, h4⟩ := fieldOf_spec hf
  obtain ⟨ad, hp, hr⟩ := h.shift (h.ev hx) hc
  refine good_pure h (v := .pointer (some (ad.add f.offset))) ?_ hr
  simp [execOp, ho, hp, Instr.fieldAt, run_underlying h1, h2, Instr.sureAddr, fieldPlace, ti_size h3, h4]
def partOf (off n : Nat) (agg : Bool) (cs : List AC) : Option AV := if off + n ≤ cs.length then asVal agg ((cs.drop off).take n) else none
theorem part_run {E : Env} {cs : Array Value} {l : List AC} (h : All2 (RepC E) cs.toList l) {off : Nat} {t : TypeId} {i : TI} (hi : ti P t = some i) {v : AV} (hv : partOf off i.size i.k.isAgg l = some v) (w : World) :
    ∃ u, (part t cs off).run P w = .ok u w ∧ RepV E u v := by
  unfold partOf at hv
  split at hv
  · rename_i hle
    have h2 : All2 (RepC E) ((cs.toList.drop off).take i.size) ((l.drop off).take i.size) := (h.drop off).take i.size
    obtain ⟨h3, h4⟩ := asVal_rep h2 hv
    refine ⟨_, ?_, h4⟩
    have hlen := h.length
    cases hk : i.k.isAgg with
    | true =>
      simp only [part, Sem.run_bind, ti_agg hi, hk, Result.andThen_ok, if_true, ti_size hi, Sem.run_pure]
      congr 2
      apply Array.ext'
      simp [Array.toList_extract, List.extract, Nat.add_sub_cancel_left]
    | false =>
      have h5 := h3 hk
      have hlt : off < cs.size := by
        rw [List.length_take, List.length_drop] at h5
        simp at hlen
        omega
      simp only [part, Sem.run_bind, ti_agg hi, hk, Result.andThen_ok, Bool.false_eq_true, if_false]
      rw [Array.getElem?_eq_getElem hlt]
      simp only [Sem.run_pure]
      congr 1
      have h6 : 0 < i.size := by rw [List.length_take] at h5; omega
      have : ((cs.toList.drop off).take i.size)[0]? = some cs[off] := by
        rw [List.getElem?_take, if_pos h6, List.getElem?_drop]; simp [hlt]
      simp [List.getD, this]
  · cases hv
theorem good_field (h : Rel S0 w0 N s a w ι) {t : TypeId} {x : Operand} {k off : Nat} {i : TI} {l : List AC} {v : AV} (ho : o.op = .field t x k) (hx : evO s x = some (.x (.agg l))) (hf : fieldOf P t k = some (off, i)) (hv : partOf off i.size i.k.isAgg l = some v) :
    Good P S0 w0 N s a w seed o { val := some v } := by
  obtain ⟨fs, f, h1, h2, rfl, h3, h4⟩ := fieldOf_spec hf
  obtain ⟨arr, hp, hr⟩ := h.ev hx
  obtain ⟨u, hu, hr'⟩ := part_run hr h3 hv w
  refine good_pure h (v := u) ?_ hr'
  simp [execOp, ho, hp, Instr.field, run_underlying h1, h2, asAgg, hu]
theorem good_extract (h : Rel S0 w0 N s a w ι) {x : Operand} {k : Nat} {l : List AX} {v : AX} (ho : o.op = .extract x k) (hx : evO s x = some (.tup l)) (hk : l[k]? = some v) : Good P S0 w0 N s a w seed o { val := some (.x v) } := by
  obtain ⟨arr, hp, hr⟩ := h.ev hx
  obtain ⟨u, hu, hr'⟩ := hr.get hk
  refine good_pure h (v := u) ?_ hr'
  have hu' : arr[k]? = some u := by simpa using hu
  simp [execOp, ho, hp, Instr.extract, hu']
theorem good_nilCheck (h : Rel S0 w0 N s a w ι) {x : Operand} {c c' : AC} (ho : o.op = .nilCheck x) (hx : evO s x = some (one c)) (hc : shift s.hp 0 c = some c') : Good P S0 w0 N s a w seed o { val := some (one c) } := by
  obtain ⟨ad, hp, _⟩ := h.shift (h.ev hx) hc
  refine good_pure h (v := a.eval x) ?_ (h.ev hx)
  simp [execOp, ho, hp]

/-- A new variable. -/
theorem good_new (h : Rel S0 w0 N s a w ι) (hid : ∀ k, k < 1 → ¬ N (seed + k)) {cur : Array Value} {ty : TypeId} {ob : Ob} {v : Value} {x : AV}
    (hr : (execOp a.eval o).run P w = .ok (.value v) (w.alloc (.cells cur ty)))
    (hc : ∀ (k : Nat) (c : AC), ob.cells[k]? = some c → ∃ y, cur[k]? = some y ∧ RepC (env S0 N s w ι) y c) (hsh : ob.shape cur.size)
    (hx : ∀ E : Env, E.ι seed = some w.heap.size → E.H seed = some ob → E.N seed → E.w = w.alloc (.cells cur ty) → RepV E v x) :
    Good P S0 w0 N s a w seed o { val := some x, ups := [(seed, ob)], cnt := 1 } := by
  have h1 := h.alloc (id := seed) (nx' := seed + 1) (by simpa using hid 0 (by omega)) ob cur ty hc hsh
  have hN : ∀ b, With N seed b → Plus N seed 1 b := fun b hb => hb.imp id (fun e => by omega)
  refine ⟨v, _, _, .inl hr, (h1.weakN (nx' := seed + 1) hN), fun y hy => ?_⟩
  cases hy
  refine hx _ (upd_same _ _ _) ?_ (.inr ⟨Nat.le_refl _, by show seed < seed + 1; omega⟩) rfl
  simp [env, lk_nil, lk_cons]
end
end
end Go.Proofs.Ytnmpdpijcehofaa.Eng
