/-
  Values seen as data: a part of the engine, of no one program. No condition.
-/
import Derived.Test.YtnmpdpijcehofaaE31
import Derived.Scope
namespace Go.Proofs.Ytnmpdpijcehofaa.Eng
set_option linter.all false
noncomputable section
open Go.RowKit

/-! ### Regions -/
def frOf (fr : List (Nat × AV)) (dst : Option Tmp) (x : Option AV) : List (Nat × AV) :=
  match dst, x with
  | some d, some v => (d, v) :: fr
  | some d, none => del fr d
  | none, _ => fr
def put1 (s : St) (dst : Option Tmp) (x : Option AV) (ups : List (Nat × Ob)) (nx : Nat) : St :=
  { fr := frOf s.fr dst x, hp := ups ++ s.hp, nx := nx, nt := s.nt }
def dstOk (s : St) (dst : Option Tmp) : Bool :=
  match dst with
  | some d => d < s.nt
  | none => true
/-- An operation, as far as it matters here: its temporary, what it does, its guard by the temporary that tells. -/
structure SO where
  dst : Option Nat
  op : Op
  g : Option (Nat × Bool)
/-! An empty slice, whichever way it came to be. -/
def emptyD : D → Prop
  | .sl _ [] => True
  | .v (.slice none 0 0) => True
  | _ => False
def laxD (d d' : D) : Prop := d = d' ∨ (emptyD d ∧ ∃ k, d' = .sl k [])
def laxDs : List D → List D → Prop
  | [], [] => True
  | d :: ds, d' :: ds' => laxD d d' ∧ laxDs ds ds'
  | _, _ => False
def laxA : DA → DA → Prop
  | .one c, .one c' => laxD c c'
  | .agg cs, .agg cs' => laxDs cs cs'
  | _, _ => False
def laxAs : List DA → List DA → Prop
  | [], [] => True
  | d :: ds, d' :: ds' => laxA d d' ∧ laxAs ds ds'
  | _, _ => False
theorem laxD.shows {S : Nat → Prop} {w : World} {x : Value} {d d' : D} (h : laxD d d') (hx : Shows S w x d) : Shows S w x d' := by
  rcases h with rfl | ⟨he, k, rfl⟩
  · exact hx
  · cases hx with
    | v h =>
      unfold emptyD at he
      split at he
      · rename_i hq; cases hq
      · rename_i hq; cases hq; exact .nil
      · exact he.elim
    | nil => exact .nil
    | sl f hn hS hc hm hw hr hd =>
      unfold emptyD at he
      split at he
      · rename_i hq; cases hq; exact .sl f hn (by simp) hc hm (by simp) (by simp) (by simp)
      · rename_i hq; cases hq
      · exact he.elim
theorem laxDs.shows {S : Nat → Prop} {w : World} : ∀ {xs : List Value} {ds ds' : List D}, laxDs ds ds' → All2 (Shows S w) xs ds → All2 (Shows S w) xs ds'
  | [], [], [], _, _ => .nil
  | _ :: _, _ :: _, _ :: _, h, .cons hx t => .cons (h.1.shows hx) (laxDs.shows h.2 t)
  | [], [], _ :: _, h, _ => h.elim
  | _ :: _, _ :: _, [], h, _ => h.elim
theorem laxA.shows {S : Nat → Prop} {w : World} {x : Value} {d d' : DA} (h : laxA d d') (hx : ShowsA S w x d) : ShowsA S w x d' := by
  cases d <;> cases d' <;> simp only [laxA] at h
  · exact laxD.shows h hx
  · obtain ⟨arr, h1, h2⟩ := hx; exact ⟨arr, h1, laxDs.shows h h2⟩
theorem laxAs.shows {S : Nat → Prop} {w : World} : ∀ {xs : List Value} {ds ds' : List DA}, laxAs ds ds' → All2 (ShowsA S w) xs ds → All2 (ShowsA S w) xs ds'
  | [], [], [], _, _ => .nil
  | _ :: _, _ :: _, _ :: _, h, .cons hx t => .cons (h.1.shows hx) (laxAs.shows h.2 t)
  | [], [], _ :: _, h, _ => h.elim
  | _ :: _, _ :: _, [], h, _ => h.elim
theorem Con.lax {P : Program} {f : FuncId} {ds ds' : List DA} {r : RV} (h : Con P f ds' r) (hl : laxAs ds ds') : Con P f ds r :=
  ⟨h.1, fun S w args hS ha => h.2 S w args hS (hl.shows ha)⟩

/-- One operation, whose new objects get the numbers from 'seed' on. -/
def stepA (P : Program) (s : St) (seed : Nat) (dst : Option Nat) (op : Op) (K : St → Prop) : Prop :=
  match op with
  | .call ⟨.value (.func f), args, _⟩ => ∃ vs ds r fz, evL s args.toList = some vs ∧ argL s.hp vs = some ds ∧ Con P f ds r ∧ (fz = true ∨ Flat r) ∧
      K (put1 { s with hp := callHp s fz vs } dst (some (unV' seed r).1) (unV' seed r).2.1 (unV' seed r).2.2)
  | op => ∃ e, effect P s seed op = some e ∧ K (put1 s dst e.val e.ups (seed + e.cnt))
def boolV (s : St) (t : Nat) : Option Bool :=
  match lk s.fr t with
  | some (.x (.one (.d (.v (.bool b))))) => some b
  | _ => none
/-- An operation that is not carried out leaves an empty tuple. -/
def skip1 (s : St) (dst : Option Tmp) : St := put1 s dst (some (.tup [])) [] s.nx
/-- The guard says no: its temporary has the other value, or was not written itself. -/
def offB (s : St) (t : Nat) (w : Bool) : Prop := boolV s t = some (!w) ∨ lk s.fr t = some (.tup [])
/-- The guard's temporary, once it is decided. -/
def know (s : St) (t : Nat) (b : Bool) : St := { s with fr := (t, vv (.bool b)) :: s.fr }
def RS (U : Nat → Prop) (w0 : Base) (s : St) (a : Act) (w : World) : Prop := ∃ ι, Rel U w0 (Lt s.nx) s a w ι

section
variable {P : Program} {U : Nat → Prop} {w0 : Base} {N : Nat → Prop} {s : St} {a : Act} {w : World} {ι : Nat → Option Nat} {seed : Nat} {o : Oper}

/-- Behind an operation: its temporary. -/
theorem Rel.dst (h : Rel U w0 N s a w ι) {dst : Option Tmp} {v : Value} {x : Option AV} (hd : dstOk s dst = true) (hx : ∀ y, x = some y → RepV (env U N s w ι) v y) {nx' : Nat} (hN : ∀ b, N b → b < nx') :
    RS U w0 (put1 s dst x [] nx') (a.put dst v) w := by
  have key : ∀ {s' : St} {a' : Act}, Rel U w0 N s' a' w ι → RS U w0 { s' with nx := nx' } a' w := fun hh => ⟨ι, hh.weakN hN⟩
  cases dst with
  | none => exact key h
  | some d =>
    cases x with
    | none => exact key (h.forget d v)
    | some y => exact key (h.put (by simpa [dstOk] using hd) (hx y rfl))
theorem stepA_call {f : FuncId} {args : Array Operand} {ts : Array TypeId} {K : St → Prop} {op : Op} {dst : Option Nat} (ho : op = .call ⟨.value (.func f), args, ts⟩) (h : stepA P s seed dst op K) :
    ∃ vs ds r fz, evL s args.toList = some vs ∧ argL s.hp vs = some ds ∧ Con P f ds r ∧ (fz = true ∨ Flat r) ∧ K (put1 { s with hp := callHp s fz vs } dst (some (unV' seed r).1) (unV' seed r).2.1 (unV' seed r).2.2) := by
  subst ho
  exact h
theorem stepA_other {K : St → Prop} {op : Op} {dst : Option Nat} (ho : ∀ f args ts, op ≠ .call ⟨.value (.func f), args, ts⟩) (h : stepA P s seed dst op K) : ∃ e, effect P s seed op = some e ∧ K (put1 s dst e.val e.ups (seed + e.cnt)) := by
  unfold stepA at h
  split at h
  · exact absurd rfl (ho _ _ _)
  · exact h
theorem unV'_le (seed : Nat) (r : RV) : seed ≤ (unV' seed r).2.2 := by
  match r with
  | [y] => exact unX_le seed y
  | [] => exact unXs_le seed []
  | y :: z :: l => exact unXs_le seed (y :: z :: l)
theorem put1_app (s : St) (dst : Option Tmp) (x : Option AV) (ups : List (Nat × Ob)) (nx : Nat) : put1 s dst x ups nx = put1 (App ups nx s) dst x [] nx := by
  simp [put1, App]
/-- One operation, in the model. -/
theorem step_sound (h : Rel U w0 N s a w ι) (hU : ∀ b, w0.w.heap.size ≤ b → U b) {K : St → Prop} {K' : Act → World → Prop} {Q : Exit → Act → World → Prop} (hd : dstOk s o.dst = true) (hN : ∀ b, N b → b < seed) (hA : stepA P s seed o.dst o.op K)
    (hK : ∀ s' a' w', K s' → RS U w0 s' a' w' → K' a' w') : o.wp P a w K' Q := by
  by_cases hcall : ∃ f args ts, o.op = .call ⟨.value (.func f), args, ts⟩
  · obtain ⟨f, args, ts, hop⟩ := hcall
    obtain ⟨vs, ds, r, fz, h1, h2, h3, h4, h5⟩ := stepA_call hop hA
    refine call_wp h hU hop h1 h2 h3 h4 (lim := (unV' seed r).2.2) (fun k hk _ hn => by have := hN k hn; omega) (Nat.le_refl _) (fun v w' ι' hr hv => ?_)
    rw [put1_app] at h5
    refine hK _ _ _ h5 (hr.dst (x := some (unV' seed r).1) ?_ (fun y hy => by cases hy; exact hv) (fun b hb => ?_))
    · cases hdst : o.dst with
      | none => rfl
      | some d => rw [hdst] at hd; exact hd
    · have := unV'_le seed r
      rcases hb with hb | hb
      · have := hN b hb; omega
      · omega
  · obtain ⟨e, he, h5⟩ := stepA_other (fun f args ts hop => hcall ⟨f, args, ts, hop⟩) hA
    obtain ⟨v, w', ι', hout, hr, hv⟩ := good_effect h (fun k hk hn => by have := hN _ hn; omega) he
    rw [put1_app] at h5
    have hfin := hK _ (a.put o.dst v) w' h5 (hr.dst (s := App e.ups (seed + e.cnt) s) (x := e.val) (v := v) (dst := o.dst) (by
      cases hdst : o.dst with
      | none => rfl
      | some d => rw [hdst] at hd; exact hd) hv (fun b hb => by
        rcases hb with hb | hb
        · have := hN b hb; omega
        · omega))
    unfold Oper.wp
    rcases hout with hrun | ⟨rfl, hrun⟩
    · rw [hrun]; exact hfin
    · rw [hrun]; exact hfin
theorem bool_val (h : Rel U w0 N s a w ι) {t : Nat} {b : Bool} (hg : boolV s t = some b) : a.tmps[t]? = some (.bool b) := by
  unfold boolV at hg
  split at hg
  · rename_i b' hl
    cases hg
    obtain ⟨v, h1, h2⟩ := h.fr t _ hl
    have : v = .bool b := plain_eq h2 rfl
    subst this
    exact h1
  · cases hg
theorem off_yield (h : Rel U w0 N s a w ι) {ops : Array Oper} {j t : Nat} {w' : Bool} (et : (ops[j]?).bind (·.dst) = some t) (hb : offB s t w') : (yielded ops a.tmps j == some w') = false := by
  rcases hb with hb | hb
  · have hy : yielded ops a.tmps j = some (!w') := by unfold yielded; rw [et]; simp [bool_val h hb]
    simp [hy]
  · obtain ⟨v, h1, arr, rfl, h3⟩ := h.fr t _ hb
    have hy : yielded ops a.tmps j = none := by unfold yielded; rw [et]; simp [h1]
    simp [hy]
theorem rep_undef {E : Env} : RepV E undef (.tup []) := ⟨#[], rfl, .nil⟩
/-- The short form of an operation, in its region. -/
def SOk (ops : Array Oper) (o : Oper) (so : SO) : Prop :=
  so.dst = o.dst ∧ so.op = o.op ∧ match o.guard, so.g with
    | none, none => True
    | some (j, w), some (t, w') => (ops[j]?).bind (·.dst) = some t ∧ w' = w
    | _, _ => False
theorem stepA_eff {K : St → Prop} {op : Op} {dst : Option Nat} {e : Eff} (he : effect P s seed op = some e) (h : K (put1 s dst e.val e.ups (seed + e.cnt))) : stepA P s seed dst op K := by
  unfold stepA
  split
  · rename_i f args ts
    simp [effect] at he
  · exact ⟨e, he, h⟩
theorem RS.know (h : RS U w0 s a w) {t : Nat} {b : Bool} (hb : boolV s t = some b) : RS U w0 (know s t b) a w := by
  obtain ⟨ι, h⟩ := h
  refine ⟨ι, fun k x hk => ?_, h.ob, h.inj, h.gr, h.nt, h.df, h.st⟩
  simp only [Eng.know, lk_cons] at hk
  split at hk
  · rename_i e; subst e; cases hk; exact ⟨_, bool_val h hb, rep_v rfl⟩
  · exact h.fr k x hk
end
end
end Go.Proofs.Ytnmpdpijcehofaa.Eng
