/-
  Values seen as data: a part of the engine, of no one program. No condition.
-/
import Derived.Test.YtnmpdpijcehofaaE4
import Derived.Handy
namespace Go.Proofs.Ytnmpdpijcehofaa.Eng
set_option linter.all false
noncomputable section
open Go.RowKit

/-! ### Types, as far as they are asked -/
inductive TK where
  | sl (e : TypeId)
  | st (fs : List (Nat × TypeId))
  | arr (n : Nat) (e : TypeId)
  | int (k : IntKind)
  | other
structure TI where
  k : TK
  size : Nat
  bytes : Nat
  zero : List Value
def tk : TypeDesc → TK
  | .slice e => .sl e
  | .struct fs => .st (fs.toList.map fun f => (f.offset, f.type))
  | .array n e => .arr n e
  | .int k => .int k
  | _ => .other
def ti (P : Program) (t : TypeId) : Option TI :=
  match P.info? t, P.underlying t with
  | some i, some d =>
    match i.zero with
    | some z => if z.cells.size = i.size ∧ z.cells.toList.all (·.oneCell') = true then some ⟨tk d, i.size, i.bytes, z.cells.toList⟩ else none
    | none => none
  | _, _ => none
theorem ti_info {P : Program} {t : TypeId} {x : TI} (h : ti P t = some x) : ∃ i d z, P.info? t = some i ∧ P.underlying t = some d ∧ i.zero = some z ∧ z.cells.size = i.size ∧ x = ⟨tk d, i.size, i.bytes, z.cells.toList⟩ ∧ ∀ v ∈ z.cells.toList, v.oneCell' = true := by
  unfold ti at h
  split at h
  · rename_i i d hi hd
    split at h
    · rename_i z hz
      split at h
      · rename_i hc
        exact ⟨i, d, z, hi, hd, hz, hc.1, by simpa using h.symm, List.all_eq_true.1 hc.2⟩
      · cases h
    · cases h
  · cases h
theorem ti_size {P : Program} {t : TypeId} {x : TI} (h : ti P t = some x) (w : World) : (sizeOf t).run P w = .ok x.size w := by
  obtain ⟨i, d, z, hi, hd, hz, _, rfl, _⟩ := ti_info h
  simp [sizeOf, typeInfo, hi]
theorem ti_slice {P : Program} {t e : TypeId} {x : TI} (h : ti P t = some x) (hk : x.k = .sl e) : P.underlying t = some (.slice e) := by
  obtain ⟨i, d, z, hi, hd, hz, _, rfl, _⟩ := ti_info h
  cases d <;> simp [tk] at hk
  subst hk
  exact hd
def TK.isAgg : TK → Bool
  | .st _ | .arr _ _ => true
  | _ => false
theorem ti_agg {P : Program} {t : TypeId} {x : TI} (h : ti P t = some x) (w : World) : (isAgg t).run P w = .ok x.k.isAgg w := by
  obtain ⟨i, d, z, hi, hd, hz, _, rfl, _⟩ := ti_info h
  unfold isAgg
  rw [Sem.run_bind, run_underlying hd w]
  cases d <;> simp [tk, TK.isAgg]

/-! ### What an operand is -/
def evO (s : St) : Operand → Option AV
  | .tmp t => lk s.fr t
  | .const v => match v with
    | .agg cs => if cs.toList.all (·.oneCell') = true then some (.x (.agg (cs.toList.map fun c => .d (.v c)))) else none
    | .tuple _ => none
    | v => some (.x (.one (.d (.v v))))
  | .func f => some (.x (.one (.d (.v (.func (.func f) #[] #[])))))
  | .global _ => none
section
variable {S0 : Nat → Prop} {w0 : Base} {N : Nat → Prop} {s : St} {a : Act} {w : World} {ι : Nat → Option Nat}
theorem rep_v {E : Env} {v : Value} (h : v.oneCell' = true) : RepV E v (.x (.one (.d (.v v)))) := Shows.v h
theorem All2.self {α β : Type} {R : α → β → Prop} {f : α → β} : ∀ {l : List α}, (∀ x ∈ l, R x (f x)) → All2 R l (l.map f)
  | [], _ => .nil
  | x :: l, h => .cons (h x (by simp)) (All2.self fun y hy => h y (by simp [hy]))
theorem rep_agg {E : Env} {cs : Array Value} (h : ∀ v ∈ cs.toList, v.oneCell' = true) : RepV E (.agg cs) (.x (.agg (cs.toList.map fun c => .d (.v c)))) :=
  ⟨cs, rfl, All2.self fun x hx => Shows.v (h x hx)⟩
theorem Rel.ev (h : Rel S0 w0 N s a w ι) {o : Operand} {x : AV} (ho : evO s o = some x) : RepV (env S0 N s w ι) (a.eval o) x := by
  cases o with
  | tmp t =>
    obtain ⟨v, h1, h2⟩ := h.fr t x ho
    have : a.eval (.tmp t) = v := by simp [Act.eval, h1]
    rw [this]
    exact h2
  | const v =>
    show RepV _ v x
    cases v with
    | agg cs =>
      simp only [evO] at ho
      split at ho
      · rename_i hc
        cases ho
        exact rep_agg (List.all_eq_true.1 hc)
      · cases ho
    | tuple _ => simp [evO] at ho
    | _ => simp only [evO, Option.some.injEq] at ho; subst ho; exact rep_v rfl
  | func f => simp only [evO, Option.some.injEq] at ho; subst ho; exact rep_v rfl
  | global g => cases ho

/-! ### Plain values -/
def plainC : AC → Option Value
  | .d (.v v) => some v
  | _ => none
def plainL : List AC → Option (List Value)
  | [] => some []
  | c :: cs => match plainC c, plainL cs with
    | some v, some vs => some (v :: vs)
    | _, _ => none
def plain : AV → Option Value
  | .x (.one c) => plainC c
  | .x (.agg cs) => (plainL cs).map fun vs => .agg vs.toArray
  | _ => none
theorem plainC_eq {E : Env} {x v : Value} {c : AC} (h : RepC E x c) (hp : plainC c = some v) : x = v := by
  cases c with
  | d c => cases c with
    | v u => simp only [plainC, Option.some.injEq] at hp; subst hp; cases h; rfl
    | sl _ _ => simp [plainC] at hp
  | _ => simp [plainC] at hp
theorem plainL_eq {E : Env} {xs vs : List Value} {cs : List AC} (h : All2 (RepC E) xs cs) (hp : plainL cs = some vs) : xs = vs := by
  induction h generalizing vs with
  | nil => simp [plainL] at hp; exact hp.symm ▸ rfl
  | @cons x c xs cs h _ ih =>
    simp only [plainL] at hp
    split at hp
    · rename_i v vs' h1 h2
      cases hp
      rw [plainC_eq h h1, ih h2]
    · cases hp
theorem plain_eq {E : Env} {x v : Value} {a : AV} (h : RepV E x a) (hp : plain a = some v) : x = v := by
  cases a with
  | x a => cases a with
    | one c => exact plainC_eq h hp
    | agg cs =>
      obtain ⟨arr, rfl, ha⟩ := h
      simp only [plain, Option.map_eq_some_iff] at hp
      obtain ⟨vs, h1, rfl⟩ := hp
      rw [← plainL_eq ha h1]
  | tup _ => simp [plain] at hp
def evP (s : St) (o : Operand) : Option Value := (evO s o).bind plain
theorem Rel.evP (h : Rel S0 w0 N s a w ι) {o : Operand} {v : Value} (ho : evP s o = some v) : a.eval o = v := by
  obtain ⟨x, h1, h2⟩ := Option.bind_eq_some_iff.1 ho
  exact plain_eq (h.ev h1) h2

/-! ### Slices, seen as data -/
def dataC (hp : List (Nat × Ob)) : AC → Option D
  | .d x => some x
  | .own b L => match lk hp b with
    | some (.row sz es _) => if es.length = L then some (.sl sz es) else none
    | _ => none
  | .view b lo n L => match lk hp b with
    | some (.row sz es _) => if es.length = L ∧ lo + n ≤ L then some (.sl sz ((es.drop lo).take n)) else none
    | _ => none
  | _ => none
/-- x is a slice whose elements are these. -/
def SlOf (R : Value → D → Prop) (w : World) (x : Value) (sz : Nat) (es : List (List D)) : Prop :=
  (∀ e ∈ es, e.length = sz) ∧ ((x = nilS ∧ es = []) ∨ ∃ ad cap, x = .slice (some ad) es.length cap ∧ es.length ≤ cap ∧ cap ≤ maxLen ∧
    ∀ k c, es.flatten[k]? = some c → ∃ y, w.cell? (ad.add k) = some y ∧ R y c)
theorem flat_len {α : Type} {sz : Nat} : ∀ {es : List (List α)}, (∀ e ∈ es, e.length = sz) → es.flatten.length = es.length * sz
  | [], _ => by simp
  | e :: es, h => by
    rw [List.flatten_cons, List.length_append, flat_len (fun e' he => h e' (by simp [he])), h e (by simp), List.length_cons, Nat.add_mul]
    omega
theorem flat_get {α : Type} {sz : Nat} : ∀ {es : List (List α)}, (∀ e ∈ es, e.length = sz) → ∀ {i : Nat} {e : List α}, es[i]? = some e → ∀ {k : Nat} {c : α}, e[k]? = some c → es.flatten[i * sz + k]? = some c
  | [], _, i, e, hi, _, _, _ => by simp at hi
  | e0 :: es, h, i, e, hi, k, c, hk => by
    have h0 : e0.length = sz := h e0 (by simp)
    cases i with
    | zero =>
      simp at hi
      subst hi
      have hlt : k < e0.length := (List.getElem?_eq_some_iff.1 hk).1
      rw [List.flatten_cons, Nat.zero_mul, Nat.zero_add, List.getElem?_append_left hlt]
      exact hk
    | succ i =>
      have hi' : es[i]? = some e := by simpa using hi
      rw [List.flatten_cons, List.getElem?_append_right (by rw [h0, Nat.add_mul]; omega)]
      have : (i + 1) * sz + k - e0.length = i * sz + k := by rw [h0, Nat.add_mul]; omega
      rw [this]
      exact flat_get (fun e' he => h e' (by simp [he])) hi' hk
theorem flat_drop {α : Type} {sz : Nat} {es : List (List α)} (h : ∀ e ∈ es, e.length = sz) (lo : Nat) : (es.drop lo).flatten = es.flatten.drop (lo * sz) := by
  induction lo generalizing es with
  | zero => simp
  | succ lo ih =>
    cases es with
    | nil => simp
    | cons e es =>
      have h0 : e.length = sz := h e (by simp)
      have h1 : e.drop ((lo + 1) * sz) = [] := List.drop_eq_nil_of_le (by rw [h0, Nat.add_mul]; omega)
      have h2 : (lo + 1) * sz - e.length = lo * sz := by rw [h0, Nat.add_mul]; omega
      rw [List.drop_succ_cons, ih (fun e' he => h e' (by simp [he])), List.flatten_cons, List.drop_append, h1, h2, List.nil_append]
theorem flat_take {α : Type} {sz : Nat} {es : List (List α)} (h : ∀ e ∈ es, e.length = sz) (n : Nat) : (es.take n).flatten = es.flatten.take (n * sz) := by
  induction n generalizing es with
  | zero => simp
  | succ n ih =>
    cases es with
    | nil => simp
    | cons e es =>
      have h0 : e.length = sz := h e (by simp)
      have h1 : e.take ((n + 1) * sz) = e := List.take_of_length_le (by rw [h0, Nat.add_mul]; omega)
      have h2 : (n + 1) * sz - e.length = n * sz := by rw [h0, Nat.add_mul]; omega
      rw [List.take_succ_cons, List.flatten_cons, ih (fun e' he => h e' (by simp [he])), List.flatten_cons, List.take_append, h1, h2]

theorem Rel.slOf (h : Rel S0 w0 N s a w ι) {x : Value} {c : AC} (hx : RepC (env S0 N s w ι) x c) {sz : Nat} {es : List (List D)} (hd : dataC s.hp c = some (.sl sz es)) :
    SlOf (Shows (Tr S0 w ι (lk s.hp)) w) w x sz es := by
  have whole : ∀ {b g : Nat} {sz : Nat} {es : List (List D)} {fz : Bool}, lk s.hp b = some (.row sz es fz) → ι b = some g → (∀ e ∈ es, e.length = sz) ∧
      ∀ k c, es.flatten[k]? = some c → ∃ y, w.cell? ⟨g, k, none⟩ = some y ∧ Shows (Tr S0 w ι (lk s.hp)) w y c := fun {b g sz es fz} hb hg => by
    obtain ⟨_, cur, ty, hh, hc, hsh⟩ := h.block hb hg
    refine ⟨hsh.2, fun k c hk => ?_⟩
    obtain ⟨y, hy, hr⟩ := hc k (.d c) (by show (es.flatten.map AC.d)[k]? = _; rw [List.getElem?_map, hk]; rfl)
    exact ⟨y, by rw [cell_of_row w g k cur ty (0, 0) hh]; exact hy, hr⟩
  have none' : ∀ {b sz : Nat} {es : List (List D)} {fz : Bool}, lk s.hp b = some (.row sz es fz) → ι b = none → es = [] := fun {b sz es fz} hb hg => by
    have h2 := (h.ob b _ hb).2
    unfold RepO at h2
    have hg' : (env S0 N s w ι).ι b = none := hg
    rw [hg'] at h2
    obtain ⟨sz', fz', he⟩ := h2
    cases he
    rfl
  cases c with
  | d c =>
    simp only [dataC, Option.some.injEq] at hd
    subst hd
    cases hx with
    | nil => exact ⟨by simp, .inl ⟨rfl, rfl⟩⟩
    | @sl ad n cap _ _ f hn hS hc hm hw hr hd =>
      subst hn
      exact ⟨hw, .inr ⟨ad, cap, rfl, hc, hm, fun k c hk => ⟨f k, hr k c hk, hd k c hk⟩⟩⟩
  | own b L =>
    simp only [dataC] at hd
    split at hd
    · rename_i sz' es' fz hb
      split at hd
      · rename_i hl
        simp only [Option.some.injEq, D.sl.injEq] at hd
        obtain ⟨rfl, rfl⟩ := hd
        obtain ⟨_, _, hx⟩ := hx
        obtain ⟨_, hx⟩ := hx _ _ fz hb
        rcases hx hl with ⟨hn, rfl⟩ | ⟨g, cap, hg, rfl, hc, hm, _⟩
        · obtain rfl := none' hb hn
          exact ⟨by simp, .inl ⟨rfl, rfl⟩⟩
        · obtain ⟨h1, h2⟩ := whole hb hg
          refine ⟨h1, .inr ⟨_, cap, by rw [hl], by omega, hm, fun k c hk => ?_⟩⟩
          rw [Addr.add_lit, Nat.zero_add]
          exact h2 k c hk
      · cases hd
    · cases hd
  | view b lo n L =>
    simp only [dataC] at hd
    split at hd
    · rename_i sz' es' fz hb
      split at hd
      · rename_i hl
        simp only [Option.some.injEq, D.sl.injEq] at hd
        obtain ⟨rfl, rfl⟩ := hd
        obtain ⟨_, _, hx⟩ := hx
        obtain ⟨_, hx⟩ := hx _ _ fz hb
        obtain ⟨A, cap, rfl, hc, hm, hA0, hA⟩ := hx hl.1
        have hlen : ((es'.drop lo).take n).length = n := by rw [List.length_take, List.length_drop]; omega
        by_cases hn : n = 0
        · subst hn
          refine ⟨by simp, ?_⟩
          cases A with
          | none =>
            rw [hA0 rfl]
            exact .inl ⟨rfl, by simp⟩
          | some ad => exact .inr ⟨ad, cap, by simp, by simp, hm, fun k c hk => by simp at hk⟩
        · obtain ⟨g, hg, rfl⟩ := hA (by omega)
          obtain ⟨h1, h2⟩ := whole hb hg
          have hw1 : ∀ e ∈ (es'.drop lo).take n, e.length = sz' := fun e he => h1 e (List.mem_of_mem_drop (List.mem_of_mem_take he))
          refine ⟨hw1, .inr ⟨_, cap, by rw [hlen], by rw [hlen]; exact hc, hm, fun k c hk => ?_⟩⟩
          rw [Addr.add_lit]
          rw [flat_take (fun e he => h1 e (List.mem_of_mem_drop he)), flat_drop h1, List.getElem?_take] at hk
          split at hk
          · rw [List.getElem?_drop] at hk
            exact h2 _ c hk
          · cases hk
      · cases hd
    · cases hd
  | _ => simp [dataC] at hd
end
end
end Go.Proofs.Ytnmpdpijcehofaa.Eng
