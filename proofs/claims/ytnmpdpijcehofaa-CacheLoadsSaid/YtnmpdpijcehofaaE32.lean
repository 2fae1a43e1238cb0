/-
  Calls on the caller's memory: what is dropped, what is frozen, contracts by data. A part of the engine, of no one program. No condition.
-/
import Derived.Test.YtnmpdpijcehofaaE29
import Derived.LoopN
namespace Go.Proofs.Ytnmpdpijcehofaa.Eng
set_option linter.all false
noncomputable section
open Go.RowKit

section
variable {P : Program} {U : Nat → Prop} {w0 : Base} {N : Nat → Prop} {s : St} {a : Act} {w : World} {ι : Nat → Option Nat}

/-- Objects are dropped. -/
theorem Rel.drop (h : Rel U w0 N s a w ι) {hp' : List (Nat × Ob)} (hh : ∀ b o, lk hp' b = some o → lk s.hp b = some o) : Rel U w0 N { s with hp := hp' } a w ι ∧ Step (env U N s w ι) (env U N { s with hp := hp' } w ι) := by
  have hs : Step (env U N s w ι) (env U N { s with hp := hp' } w ι) := by
    refine ⟨fun b hb => ⟨hb.1, hb.2.1, fun b' o hb' hm => hb.2.2 b' o (hh b' o hb') hm⟩, fun _ _ => rfl, fun _ h => h, fun b sz es fz hN hb => ⟨sz, es, fz, hh b _ hb, .inl ⟨.inr rfl, rfl, rfl, fun _ _ cur ty hh => ⟨cur, hh, rfl⟩⟩⟩, fun b cs hN hb => ⟨cs, hh b _ hb, rfl⟩⟩
  refine ⟨h.change (nx' := s.nx) hs h.gr (fun b o hb => ?_) (fun b b' o o' g h1 h2 => h.inj b b' o o' g (hh b o h1) (hh b' o' h2)), hs⟩
  obtain ⟨hN, hr⟩ := h.ob b o (hh b o hb)
  exact ⟨hN, RepO.keep hs rfl (fun _ _ => rfl) hr⟩
theorem CallH.drop {f : FuncId} {hp hp1 hp2 : List (Nat × Ob)} {nx nx' : Nat} {vs : List AV} {r : AV} (h : CallH P f hp nx vs hp1 nx' r) (hh : ∀ b o, lk hp2 b = some o → lk hp1 b = some o) : CallH P f hp nx vs hp2 nx' r := by
  refine ⟨h.1, fun U w0 w ι args hU hr ha => (h.2 U w0 w ι args hU hr ha).mono fun e w' ⟨v, ι', he, h1, h2, h3⟩ => ?_⟩
  obtain ⟨h4, h5⟩ := Rel.drop (s := mem hp1 nx') h1 hh
  exact ⟨v, ι', he, h4, h2.keep h5, h3.trans h5⟩

/-- A contract by data, on the caller's memory. -/
theorem con_callH {f : FuncId} {hp : List (Nat × Ob)} {nx : Nat} {vs : List AV} {ds : List DA} {r : RV} (hc : Con P f ds r) (hd : argL hp vs = some ds) {fz : Bool} (hfz : fz = true ∨ Flat r) :
    CallH P f hp nx vs ((unV' nx r).2.1 ++ callHp (mem hp nx) fz vs) (unV' nx r).2.2 (unV' nx r).1 := by
  obtain ⟨hfn, hcalls⟩ := hc
  refine ⟨hfn, fun U w0 w ι args hU h0 hargs => ?_⟩
  have h : Rel U ⟨w0.w, env U (Lt nx) (mem hp nx) w ι⟩ (Lt nx) (mem hp nx) noAct w ι := Rel.rebase h0
  have h1 : Rel U ⟨w0.w, env U (Lt nx) (mem hp nx) w ι⟩ (Lt nx) { (mem hp nx) with hp := callHp (mem hp nx) fz vs } noAct w ι := by
    cases fz with
    | false => exact h
    | true => exact h.frz _
  have hd1 : argL (callHp (mem hp nx) fz vs) vs = some ds := by
    cases fz with
    | false => exact hd
    | true => show argL (frz hp _) vs = _; rw [argL_frz]; exact hd
  have hargs1 : All2 (RepV (env U (Lt nx) { (mem hp nx) with hp := callHp (mem hp nx) fz vs } w ι)) args.toList vs := by
    have hst := h1.st
    exact hargs.mono fun _ _ hh => hh.keep hst
  have hpass := h1.passVals hargs1 hd1
  have hS : ∀ b, (Tr U w ι (lk (callHp (mem hp nx) fz vs)) b ∨ ∃ i ∈ vs.flatMap idsX, Own ι (callHp (mem hp nx) fz vs) i b) → b < w.heap.size := by
    rintro b (hb | ⟨i, _, hi, sz, es, f, hlk⟩)
    · exact hb.2.1
    · exact h1.old (o := .row sz es f) hlk hi
  refine (hcalls _ w args hS hpass).mono fun e w' ⟨v, F, he, hsh, hg, hnd, hF⟩ => ?_
  subst he
  have h2 : Rel (fun b => U b ∧ b ∉ F) ⟨w0.w, env U (Lt nx) (mem hp nx) w ι⟩ (Lt nx) { (mem hp nx) with hp := callHp (mem hp nx) fz vs } noAct w' ι := h1.world hg fun b hb hub => ⟨hub, fun hbF => by have := (hF b hbF).1; omega⟩
  have hsh' : ∃ T : Nat → Prop, ShowsV T w' v r F ∧ (∀ b, T b → (U b ∧ b ∉ F) ∧ b < w'.heap.size) ∧ (∀ b o g, lk (callHp (mem hp nx) fz vs) b = some o → o.mut = true → ι b = some g → ¬ T g) ∧ ∀ g ∈ F, ¬ T g := by
    cases fz with
    | false =>
      have hflat : Flat r := by rcases hfz with h' | h'; cases h'; exact h'
      exact ⟨fun _ => False, hsh.flat hflat, fun _ h => h.elim, fun _ _ _ _ _ _ h => h, fun _ _ h => h⟩
    | true =>
      refine ⟨_, hsh, fun b hb => ?_, fun b o g hb hm hi hT => ?_, fun g hg hT => hT.2.2 hg⟩
      · obtain ⟨hb, hlt, hnF⟩ := hb
        refine ⟨⟨?_, hnF⟩, hlt⟩
        rcases hb with (hb | ⟨i, _, hi, sz, es, f, hlk⟩) | hb
        · exact hb.1
        · exact hU b (h1.block (o := .row sz es f) hlk hi).1
        · exact hU b (Nat.le_trans h.gr.size hb)
      · have hglt : g < w.heap.size := h1.old hb hi
        rcases hT.1 with (hT | ⟨i, hin, hii, sz, es, f, hlk⟩) | hT
        · exact hT.2.2 b o hb hm hi
        · have : b = i := h1.inj b i _ _ g hb hlk hi hii
          subst this
          have hlk' : lk (frz hp (vs.flatMap idsX)) b = some (.row sz es f) := hlk
          rw [lk_frz] at hlk'
          have ho : o = .row sz es f := by rw [hlk] at hb; exact (Option.some.inj hb).symm
          subst ho
          cases hs : lk hp b with
          | none => rw [hs] at hlk'; cases hlk'
          | some o' =>
            rw [hs] at hlk'
            cases o' with
            | box _ => cases hlk'
            | row sz' es' f' =>
              simp only [Option.some.injEq, Ob.row.injEq] at hlk'
              have : f = true := by rw [← hlk'.2.2]; simp [hin]
              subst this
              simp [Ob.mut] at hm
        · omega
  obtain ⟨T, hsT, hTU, hTm, hTF⟩ := hsh'
  have htake : Take (fun b => U b ∧ b ∉ F) ⟨w0.w, env U (Lt nx) (mem hp nx) w ι⟩ (Lt nx) T (F ++ []) { (mem hp nx) with hp := callHp (mem hp nx) fz vs } noAct w' ι :=
    ⟨h2, hTU, hTm, fun g hg => by
      rw [List.append_nil] at hg
      exact ⟨fun hu => hu.2 hg, Nat.le_trans h.gr.size (hF g hg).1, hTF g hg⟩, fun b o g hb hi hg => by
      rw [List.append_nil] at hg
      have := h1.old hb hi
      have := (hF g hg).1
      omega⟩
  obtain ⟨ι', t, r', _⟩ := htake.v (seed := nx) (lim := (unV' nx r).2.2) (by simpa using hnd) (fun k hk _ hn => by have : k < nx := hn; omega) (Nat.le_refl _) hsT
  have hle := unV'_le nx r
  have hspan : ∀ b, Span (Lt nx) nx (unV' nx r).2.2 b → Lt (unV' nx r).2.2 b := fun b hb => by
    rcases hb with hb | hb
    · have : b < nx := hb; show b < _; omega
    · exact hb.2
  have hfin := (t.rel.univ (U' := U) fun b hb => hb.1).weakN (N' := Lt (unV' nx r).2.2) (nx' := (unV' nx r).2.2) hspan
  have hfin' : Rel U ⟨w0.w, env U (Lt nx) (mem hp nx) w ι⟩ (Lt (unV' nx r).2.2) (mem ((unV' nx r).2.1 ++ callHp (mem hp nx) fz vs) (unV' nx r).2.2) noAct w' ι' := hfin
  refine ⟨v, ι', rfl, Rel.unbase hfin' (Rel.st h0), ?_, hfin'.st⟩
  refine r'.keep ?_
  refine ⟨fun b hb => ⟨hb.1.1, hb.2⟩, fun _ _ => rfl, hspan, fun b sz es fz _ hb => ⟨sz, es, fz, hb, .inl ⟨.inr rfl, rfl, rfl, fun g _ cur ty hh => ⟨cur, hh, rfl⟩⟩⟩, fun b cs _ hb => ⟨cs, hb, rfl⟩⟩

/-- A contract by data, out of one on memory. -/
def resA (l : List AX) : AV :=
  match l with
  | [x] => .x x
  | l => .tup l
def lisA (r : AV) : List AX :=
  match r with
  | .x x => [x]
  | .tup l => l
theorem con_of_callH {f : FuncId} {ds : List DA} {hp' : List (Nat × Ob)} {nx' : Nat} {r : AV} {rv : RV} (hc : CallH P f [] 0 (ds.map fun d => .x (inX d)) hp' nx' r) (h1 : resA (lisA r) = r) (h2 : outXs hp' (lisA r) = some rv) (h3 : ((lisA r).flatMap ownsX).Nodup) : Con P f ds rv := by
  refine ⟨hc.1, fun S w args hS ha => ?_⟩
  have hr0 : RH (fun b => S b ∨ w.heap.size ≤ b) ⟨w, botE w⟩ [] 0 w (fun _ => none) := ⟨fun t x ht => absurd ht (by simp [mem, lk_nil, lk_cons]), fun b o hb => absurd hb (by simp [mem, lk_nil, lk_cons]), fun b b' o o' g hb => absurd hb (by simp [mem, lk_nil, lk_cons]), Gr.refl w, rfl, rfl, Step.bot⟩
  have hargs : All2 (RepV (env (fun b => S b ∨ w.heap.size ≤ b) (Lt 0) (mem [] 0) w (fun _ => none))) args.toList (ds.map fun d => .x (inX d)) := by
    refine All2.map_right (ha.mono fun x d hx => ?_)
    have hT : ∀ b, S b → Tr (fun b => S b ∨ w.heap.size ≤ b) w (fun _ => none) (lk (mem [] 0).hp) b := fun b hb => ⟨.inl hb, hS b hb, fun b' o' hb' => absurd hb' (by simp [mem, lk_nil, lk_cons])⟩
    cases d with
    | one c => exact Shows.keep hT (fun _ _ => rfl) hx
    | agg cs =>
      obtain ⟨arr, rfl, ha⟩ := hx
      exact ⟨arr, rfl, All2.map_right (ha.mono fun _ _ hs => Shows.keep hT (fun _ _ => rfl) hs)⟩
  refine (hc.2 _ ⟨w, botE w⟩ w _ args (fun b hb => .inr hb) hr0 hargs).mono fun e w' ⟨v, ι', he, hr, hrep, _⟩ => ?_
  have hvs : ∃ vs, v = resVal vs ∧ All2 (RepX (env (fun b => S b ∨ w.heap.size ≤ b) (Lt nx') (mem hp' nx') w' ι')) vs (lisA r) := by
    cases r with
    | x x => exact ⟨[v], by simp [resVal], .cons hrep .nil⟩
    | tup l =>
      obtain ⟨arr, rfl, ha⟩ := hrep
      refine ⟨arr.toList, ?_, ha⟩
      have hne : ¬ arr.size = 1 := by
        have := ha.length
        intro he
        match l, h1 with
        | [y], h1 => cases h1
        | [], _ => simp [he] at this
        | _ :: _ :: _, _ => simp [he] at this
      simp [resVal, hne]
  obtain ⟨vs, rfl, hvs⟩ := hvs
  obtain ⟨F, q1, q2, q3, q4⟩ := out_post hr hvs h2 h3 (laxR_rfl rv)
  exact ⟨_, F, he, q1, q2, q3, q4⟩

end
end
end Go.Proofs.Ytnmpdpijcehofaa.Eng
