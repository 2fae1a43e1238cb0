/-
  Values seen as data: a part of the engine, of no one program. No condition.
-/
import Derived.Test.YtnmpdpijcehofaaE19
namespace Go.Proofs.Ytnmpdpijcehofaa.Eng
set_option linter.all false
noncomputable section
open Go.RowKit

/-! ### A call on the caller's memory -/
def inXA : DA → AX
  | .one c => .one (.d c)
  | .agg cs => .agg (cs.map .d)
def Lt (nx b : Nat) : Prop := b < nx
theorem Step.refl (E : Env) : Step E E := ⟨fun _ h => h, fun _ _ => rfl, fun _ h => h, fun b sz es fz _ hb => ⟨sz, es, fz, hb, .inl ⟨.inr rfl, rfl, rfl, fun _ _ cur ty hh => ⟨cur, hh, rfl⟩⟩⟩, fun b cs _ hb => ⟨cs, hb, rfl⟩⟩
/-- The memory of the call's own, whoever's frame. -/
def mem (hp : List (Nat × Ob)) (nx : Nat) : St := { fr := [], hp := hp, nx := nx, nt := 0 }
def noAct : Act := { tmps := #[], defers := [] }
def RH (U : Nat → Prop) (w0 : Base) (hp : List (Nat × Ob)) (nx : Nat) (w : World) (ι : Nat → Option Nat) : Prop := Rel U w0 (Lt nx) (mem hp nx) noAct w ι
/-- Called on such memory with such arguments, the function returns on that memory that result. -/
def CallH (P : Program) (f : FuncId) (hp : List (Nat × Ob)) (nx : Nat) (vs : List AV) (hp' : List (Nat × Ob)) (nx' : Nat) (r : AV) : Prop :=
  (∃ fn, P.funcs[f]? = some fn ∧ (fn.name == "runtime.NumGoroutine") = false ∧ fn.body.isNone = false) ∧
  ∀ (U : Nat → Prop) (w0 : Base) (w : World) (ι : Nat → Option Nat) (args : Array Value), (∀ b, w0.w.heap.size ≤ b → U b) → RH U w0 hp nx w ι → All2 (RepV (env U (Lt nx) (mem hp nx) w ι)) args.toList vs →
    Calls P f args w fun e w' => ∃ v ι', e = .returned v ∧ RH U w0 hp' nx' w' ι' ∧ RepV (env U (Lt nx') (mem hp' nx') w' ι') v r ∧ Step (env U (Lt nx) (mem hp nx) w ι) (env U (Lt nx') (mem hp' nx') w' ι')

section
variable {P : Program} {U : Nat → Prop} {w0 : Base} {N : Nat → Prop} {s : St} {a : Act} {w : World} {ι : Nat → Option Nat} {seed : Nat} {o : Oper}

theorem Rel.rebase (h : Rel U w0 N s a w ι) : Rel U ⟨w0.w, env U N s w ι⟩ N s a w ι := ⟨h.fr, h.ob, h.inj, h.gr, h.nt, h.df, Step.refl _⟩
theorem Rel.unbase {w0 : World} {E E' : Env} (h : Rel U ⟨w0, E⟩ N s a w ι) (hs : Step E' E) : Rel U ⟨w0, E'⟩ N s a w ι := ⟨h.fr, h.ob, h.inj, h.gr, h.nt, h.df, hs.trans h.st⟩
theorem Rel.toH (h : Rel U w0 (Lt s.nx) s a w ι) : RH U w0 s.hp s.nx w ι := ⟨fun t x ht => absurd ht (by simp [mem, lk_nil, lk_cons]), h.ob, h.inj, h.gr, rfl, rfl, h.st⟩
theorem Rel.ofH (h : Rel U w0 (Lt s.nx) s a w ι) {hp' : List (Nat × Ob)} {nx' : Nat} {w' : World} {ι' : Nat → Option Nat} (hh : RH U w0 hp' nx' w' ι') (hs : Step (env U (Lt s.nx) (mem s.hp s.nx) w ι) (env U (Lt nx') (mem hp' nx') w' ι')) :
    Rel U w0 (Lt nx') { s with hp := hp', nx := nx' } a w' ι' :=
  ⟨fun t x ht => by obtain ⟨v, h1, h2⟩ := h.fr t x ht; exact ⟨v, h1, h2.keep (E' := env U (Lt nx') (mem hp' nx') w' ι') hs⟩, hh.ob, hh.inj, hh.gr, h.nt, h.df, hh.st⟩
theorem Rel.evAll (h : Rel U w0 N s a w ι) : ∀ {xs : List Operand} {vs : List AV}, evL s xs = some vs → All2 (RepV (env U N s w ι)) (xs.map a.eval) vs
  | [], vs, hv => by simp only [evL, Option.some.injEq] at hv; subst hv; exact .nil
  | x :: xs, vs, hv => by
    simp only [evL] at hv
    split at hv
    · rename_i v vs' h1 h2
      cases hv
      exact .cons (h.ev h1) (h.evAll h2)
    · cases hv
theorem Rel.passVals (h : Rel U w0 N s a w ι) : ∀ {xs : List Value} {vs : List AV} {ds : List DA}, All2 (RepV (env U N s w ι)) xs vs → argL s.hp vs = some ds →
    All2 (ShowsA (fun blk => Tr U w ι (lk s.hp) blk ∨ ∃ b ∈ vs.flatMap idsX, Own ι s.hp b blk) w) xs ds
  | [], vs, ds, hv, hd => by
    cases hv
    simp only [argL, Option.some.injEq] at hd
    subst hd
    exact .nil
  | x :: xs, vs, ds, hv, hd => by
    cases hv with
    | @cons _ v _ vs' h1 h2 =>
      simp only [argL] at hd
      split at hd
      · rename_i d ds' h3 h4
        cases hd
        refine .cons (ShowsA.keep ?_ (h.passX h1 h3)) ((h.passVals h2 h4).mono fun _ _ hs => ShowsA.keep ?_ hs)
        · rintro blk (hb | ⟨b, hb, hi⟩)
          · exact .inl hb
          · exact .inr ⟨b, by simp [hb], hi⟩
        · rintro blk (hb | ⟨b, hb, hi⟩)
          · exact .inl hb
          · exact .inr ⟨b, List.mem_flatMap.2 (by obtain ⟨c', h3, h4⟩ := List.mem_flatMap.1 hb; exact ⟨c', by simp [h3], h4⟩), hi⟩
      · cases hd

/-- A call by its contract, on the caller's memory. -/
theorem callH_wp (h : Rel U w0 (Lt s.nx) s a w ι) (hU : ∀ b, w0.w.heap.size ≤ b → U b) {f : FuncId} {x : Operand} {args : Array Operand} {ts : Array TypeId} (ho : o.op = .call { callee := .value x, args := args, argTypes := ts })
    (hx : evP s x = some (.func (.func f) #[] #[])) {vs : List AV} (hv : evL s args.toList = some vs) {hp' : List (Nat × Ob)} {nx' : Nat} {r : AV} (hc : CallH P f s.hp s.nx vs hp' nx' r)
    {K : Act → World → Prop} {Q : Exit → Act → World → Prop}
    (hK : ∀ v w' ι', Rel U w0 (Lt nx') { s with hp := hp', nx := nx' } a w' ι' → RepV (env U (Lt nx') { s with hp := hp', nx := nx' } w' ι') v r → K (a.put o.dst v) w') : o.wp P a w K Q := by
  obtain ⟨⟨fn, hf, hname, hbody⟩, hcalls⟩ := hc
  have hfx := h.evP hx
  have hargs := h.evAll hv
  have hcall := hcalls U w0 w ι (args.map a.eval) hU h.toH (by rw [Array.toList_map]; exact hargs)
  have hrun : (execOp a.eval o).run P w = .ok (.enter f (args.map a.eval)) w := by
    have hn' : ¬ fn.name = "runtime.NumGoroutine" := by simpa using hname
    have hb' : ¬ fn.body = none := by intro e; rw [e] at hbody; simp at hbody
    simp [execOp, ho, resolve, hfx, Deferred.ofValue, invoke, callFunc, hf, hn', hb']
  unfold Oper.wp
  rw [hrun, Oper.upon_enter]
  refine hcall.mono fun e w' ⟨v, ι', he, hr, hrep, hs⟩ => ?_
  subst he
  exact hK v w' ι' (h.ofH hr hs) hrep

/-! ### A temporary's rows are frozen: it shows data -/
def frzT (s : St) (t : Nat) : St :=
  match lk s.fr t with
  | some x => match argX s.hp x with
    | some d => { s with fr := (t, .x (inXA d)) :: s.fr, hp := frz s.hp (idsX x) }
    | none => s
  | none => s
theorem frzT_nx (s : St) (t : Nat) : (frzT s t).nx = s.nx := by
  unfold frzT
  split <;> (try split) <;> rfl
theorem Rel.frzT (h : Rel U w0 N s a w ι) (hU : ∀ b, w0.w.heap.size ≤ b → U b) (t : Nat) : Rel U w0 N (frzT s t) a w ι := by
  unfold Eng.frzT
  split
  · rename_i x hx
    split
    · rename_i d hd
      have h1 := h.frz (idsX x)
      obtain ⟨v, hv, hrep⟩ := h1.fr t x hx
      have hd1 : argX (Eng.frz s.hp (idsX x)) x = some d := by rw [argX_frz]; exact hd
      have hp := h1.passX hrep hd1
      have hT : ∀ blk, (Tr U w ι (lk (Eng.frz s.hp (idsX x))) blk ∨ ∃ b ∈ idsX x, Own ι (Eng.frz s.hp (idsX x)) b blk) → Tr U w ι (lk (Eng.frz s.hp (idsX x))) blk := by
        rintro blk (hb | ⟨b, hb, hi, sz, es, fz, hlk⟩)
        · exact hb
        · refine ⟨hU _ (h1.block (o := .row sz es fz) hlk hi).1, h1.old (o := .row sz es fz) hlk hi, fun b' o hb' hm hi' => ?_⟩
          have : b' = b := h1.inj b' b _ _ blk hb' hlk hi' hi
          subst this
          have hlk' := hlk
          rw [lk_frz] at hlk'
          have ho : o = .row sz es fz := by have := hb'.symm.trans hlk; simpa using this
          subst ho
          cases hs : lk s.hp b' with
          | none => rw [hs] at hlk'; cases hlk'
          | some o' =>
            rw [hs] at hlk'
            cases o' with
            | box _ => cases hlk'
            | row sz' es' f' =>
              simp only [Option.some.injEq, Ob.row.injEq] at hlk'
              have : fz = true := by rw [← hlk'.2.2]; simp [hb]
              subst this
              simp [Ob.mut] at hm
      have hp' := ShowsA.keep hT hp
      refine ⟨fun t' y ht => ?_, h1.ob, h1.inj, h1.gr, h1.nt, h1.df, h1.st⟩
      replace ht : lk ((t, AV.x (inXA d)) :: s.fr) t' = some y := ht
      rw [lk_cons] at ht
      by_cases he : t = t'
      · subst he
        rw [if_pos rfl] at ht
        cases ht
        refine ⟨v, hv, ?_⟩
        cases d with
        | one c => exact hp'
        | agg cs => obtain ⟨arr, rfl, ha⟩ := hp'; exact ⟨arr, rfl, All2.map_right ha⟩
      · rw [if_neg he] at ht
        exact h1.fr t' y ht
    · exact h
  · exact h
end
end
end Go.Proofs.Ytnmpdpijcehofaa.Eng
