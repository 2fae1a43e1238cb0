/-
  Values seen as data: a part of the engine, of no one program. No condition.
-/
import Derived.Test.YtnmpdpijcehofaaE18
namespace Go.Proofs.Ytnmpdpijcehofaa.Eng
set_option linter.all false
noncomputable section
open Go.RowKit

theorem ShowsC.flat {T T' : Nat → Prop} {w : World} {x : Value} {c : RC} {F : List Nat} (h : ShowsC T w x c F) (hf : RCFlat c) : ShowsC T' w x c F := by
  cases h with
  | c h => exact .c (h.flat hf)
  | nil => exact .nil
  | o hn h =>
    refine .o hn ⟨h.pos, h.le, h.max, h.width, ?_⟩
    obtain ⟨cur, ty, h1, h2, h3⟩ := h.cells
    refine ⟨cur, ty, h1, h2, fun k c hk => ?_⟩
    obtain ⟨y, hy, hs⟩ := h3 k c hk
    obtain ⟨e, he, hce⟩ := List.mem_flatten.1 (List.mem_of_getElem? hk)
    exact ⟨y, hy, hs.flat (hf e he c hce)⟩
theorem ShowsL.mono {β : Type} {R R' : Value → β → List Nat → Prop} {xs : List Value} {cs : List β} {F : List Nat} (h : ShowsL R xs cs F) (hr : ∀ x c F, c ∈ cs → R x c F → R' x c F) : ShowsL R' xs cs F := by
  induction h with
  | nil => exact .nil
  | cons h _ ih => exact .cons (hr _ _ _ (by simp) h) (ih fun x c F hc => hr x c F (by simp [hc]))
theorem ShowsX.flat {T T' : Nat → Prop} {w : World} {x : Value} {c : RX} {F : List Nat} (h : ShowsX T w x c F) (hf : RXFlat c) : ShowsX T' w x c F := by
  cases c with
  | one c => exact ShowsC.flat h hf
  | agg cs => obtain ⟨arr, h1, h2⟩ := h; exact ⟨arr, h1, h2.mono fun x c F hc hs => ShowsC.flat hs (hf c hc)⟩
theorem ShowsV.flat {T T' : Nat → Prop} {w : World} {x : Value} {r : RV} {F : List Nat} (h : ShowsV T w x r F) (hf : Flat r) : ShowsV T' w x r F := by
  match r, h, hf with
  | [y], h, hf => exact ShowsX.flat h (hf y (by simp))
  | [], h, hf => obtain ⟨arr, h1, h2⟩ := h; exact ⟨arr, h1, h2.mono fun x c F hc hs => ShowsX.flat hs (hf c hc)⟩
  | y :: z :: l, h, hf => obtain ⟨arr, h1, h2⟩ := h; exact ⟨arr, h1, h2.mono fun x c F hc hs => ShowsX.flat hs (hf c hc)⟩

theorem argX_frz (hp : List (Nat × Ob)) (ids : List Nat) (v : AV) : argX (frz hp ids) v = argX hp v := by
  have hl : ∀ cs, dataL (frz hp ids) cs = dataL hp cs := fun cs => by
    induction cs with
    | nil => rfl
    | cons c cs ih => simp only [dataL, dataC_frz, ih]
  cases v with
  | x v => cases v with
    | one c => simp only [argX, dataC_frz]
    | agg cs => simp only [argX, hl]
  | tup _ => rfl
theorem argL_frz (hp : List (Nat × Ob)) (ids : List Nat) : ∀ vs, argL (frz hp ids) vs = argL hp vs
  | [] => rfl
  | v :: vs => by simp only [argL, argX_frz, argL_frz hp ids vs]
theorem evL_hp (s : St) (hp : List (Nat × Ob)) : ∀ xs, evL { s with hp := hp } xs = evL s xs
  | [] => rfl
  | x :: xs => by
    have : evO { s with hp := hp } x = evO s x := by cases x <;> rfl
    simp only [evL, this, evL_hp s hp xs]

section
variable {P : Program} {U : Nat → Prop} {w0 : Base} {N : Nat → Prop} {s : St} {a : Act} {w : World} {ι : Nat → Option Nat} {seed : Nat} {o : Oper}

def callHp (s : St) (fz : Bool) (vs : List AV) : List (Nat × Ob) := if fz then frz s.hp (vs.flatMap idsX) else s.hp
theorem call_wp (h : Rel U w0 N s a w ι) (hU : ∀ b, w0.w.heap.size ≤ b → U b) {f : FuncId} {args : Array Operand} {ts : Array TypeId} (ho : o.op = .call { callee := .value (.func f), args := args, argTypes := ts })
    {vs : List AV} {ds : List DA} (hv : evL s args.toList = some vs) (hd : argL s.hp vs = some ds) {r : RV} (hc : Con P f ds r) {fz : Bool} (hfz : fz = true ∨ Flat r) {lim : Nat} (hid : ∀ k, seed ≤ k → k < lim → ¬ N k) (hl : (unV' seed r).2.2 ≤ lim)
    {K : Act → World → Prop} {Q : Exit → Act → World → Prop}
    (hK : ∀ v w' ι', Rel U w0 (Span N seed (unV' seed r).2.2) (App (unV' seed r).2.1 (unV' seed r).2.2 { s with hp := callHp s fz vs }) a w' ι' →
      RepV (env U (Span N seed (unV' seed r).2.2) (App (unV' seed r).2.1 (unV' seed r).2.2 { s with hp := callHp s fz vs }) w' ι') v (unV' seed r).1 → K (a.put o.dst v) w') : o.wp P a w K Q := by
  obtain ⟨⟨fn, hf, hname, hbody⟩, hcalls⟩ := hc
  have h1 : Rel U w0 N { s with hp := callHp s fz vs } a w ι := by
    cases fz with
    | false => exact h
    | true => exact h.frz _
  have hv1 : evL { s with hp := callHp s fz vs } args.toList = some vs := by rw [evL_hp]; exact hv
  have hd1 : argL (callHp s fz vs) vs = some ds := by
    cases fz with
    | false => exact hd
    | true => show argL (frz s.hp _) vs = _; rw [argL_frz]; exact hd
  have hpass := h1.passAll hv1 hd1
  have hS : ∀ b, (Tr U w ι (lk (callHp s fz vs)) b ∨ ∃ i ∈ vs.flatMap idsX, Own ι (callHp s fz vs) i b) → b < w.heap.size := by
    rintro b (hb | ⟨i, _, hi, sz, es, f, hlk⟩)
    · exact hb.2.1
    · exact h1.old (o := .row sz es f) hlk hi
  have hcall := hcalls _ w (args.map a.eval) hS (by simpa using hpass)
  have hrun : (execOp a.eval o).run P w = .ok (.enter f (args.map a.eval)) w := by
    have hn' : ¬ fn.name = "runtime.NumGoroutine" := by simpa using hname
    have hb' : ¬ fn.body = none := by intro e; rw [e] at hbody; simp at hbody
    simp [execOp, ho, resolve, Act.eval, Deferred.ofValue, invoke, callFunc, hf, hn', hb']
  unfold Oper.wp
  rw [hrun, Oper.upon_enter]
  refine hcall.mono fun e w' ⟨v, F, he, hsh, hg, hnd, hF⟩ => ?_
  subst he
  simp only
  -- what may be read behind the call
  have h2 : Rel (fun b => U b ∧ b ∉ F) w0 N { s with hp := callHp s fz vs } a w' ι := h1.world hg fun b hb hub => ⟨hub, fun hbF => by have := (hF b hbF).1; omega⟩
  have hsh' : ∃ T : Nat → Prop, ShowsV T w' v r F ∧ (∀ b, T b → (U b ∧ b ∉ F) ∧ b < w'.heap.size) ∧ (∀ b o g, lk (callHp s fz vs) b = some o → o.mut = true → ι b = some g → ¬ T g) ∧ ∀ g ∈ F, ¬ T g := by
    cases fz with
    | false =>
      have hflat : Flat r := by rcases hfz with h' | h'; cases h'; exact h'
      exact ⟨fun _ => False, hsh.flat hflat, fun _ h => h.elim, fun _ _ _ _ _ _ h => h, fun _ _ h => h⟩
    | true =>
      refine ⟨_, hsh, fun b hb => ?_, fun b o g hb hm hi hT => ?_, fun g hg hT => hT.2.2 hg⟩
      · obtain ⟨hb, hlt, hnF⟩ := hb
        refine ⟨⟨?_, hnF⟩, hlt⟩
        rcases hb with (hb | ⟨i, _, hi, sz, es, f, hlk⟩) | hb
        · exact hb.1
        · exact hU b (h1.block (o := .row sz es f) hlk hi).1
        · exact hU b (Nat.le_trans h.gr.size hb)
      · have hglt : g < w.heap.size := h1.old hb hi
        rcases hT.1 with (hT | ⟨i, hin, hii, sz, es, f, hlk⟩) | hT
        · exact hT.2.2 b o hb hm hi
        · have : b = i := h1.inj b i _ _ g hb hlk hi hii
          subst this
          have hlk' : lk (frz s.hp (vs.flatMap idsX)) b = some (.row sz es f) := hlk
          rw [lk_frz] at hlk'
          have ho : o = .row sz es f := by rw [hlk] at hb; exact (Option.some.inj hb).symm
          subst ho
          cases hs : lk s.hp b with
          | none => rw [hs] at hlk'; cases hlk'
          | some o' =>
            rw [hs] at hlk'
            cases o' with
            | box _ => cases hlk'
            | row sz' es' f' =>
              simp only [Option.some.injEq, Ob.row.injEq] at hlk'
              have : f = true := by rw [← hlk'.2.2]; simp [hin]
              subst this
              simp [Ob.mut] at hm
        · omega
  obtain ⟨T, hsT, hTU, hTm, hTF⟩ := hsh'
  have htake : Take (fun b => U b ∧ b ∉ F) w0 N T (F ++ []) { s with hp := callHp s fz vs } a w' ι :=
    ⟨h2, hTU, hTm, fun g hg => by
      rw [List.append_nil] at hg
      exact ⟨fun hu => hu.2 hg, Nat.le_trans h.gr.size (hF g hg).1, hTF g hg⟩, fun b o g hb hi hg => by
      rw [List.append_nil] at hg
      have := h1.old hb hi
      have := (hF g hg).1
      omega⟩
  obtain ⟨ι', t, r', _⟩ := htake.v (by simpa using hnd) hid hl hsT
  refine hK v w' ι' (t.rel.univ fun b hb => hb.1) (r'.keep ?_)
  refine ⟨fun b hb => ⟨hb.1.1, hb.2⟩, fun _ _ => rfl, fun _ h => h, fun b sz es fz _ hb => ⟨sz, es, fz, hb, .inl ⟨.inr rfl, rfl, rfl, fun g _ cur ty hh => ⟨cur, hh, rfl⟩⟩⟩, fun b cs _ hb => ⟨cs, hb, rfl⟩⟩
end
end
end Go.Proofs.Ytnmpdpijcehofaa.Eng
