/-
  The contracts of the program's functions, data in, data out. Conditions: those in the statements.
-/
import Derived.Test.YtmhnogmbpoeaeaaH1
import Derived.Test.YtmhnogmbpoeaeaaI1
namespace Go.Proofs.Ytmhnogmbpoeaeaa
set_option linter.all false
open Go Go.Proofs.Ytmhnogmbpoeaeaa.Eng Go.RowKit
noncomputable section

open Go.ChangeShapes Go.WideShapes Go.ChangeAt
theorem okD_ents {d : D} (h : OkD d (.sl [.i .i64, .i .u64])) : ∃ l : List Ent, l.length ≤ maxLen ∧ (∀ x ∈ l, (Lit.int .i64 x.at_).wf = true ∧ (Lit.int .u64 x.v).wf = true) ∧ d = .sl 2 (l.map entC) :=
  okD_sl (good := fun x : Ent => (Lit.int .i64 x.at_).wf = true ∧ (Lit.int .u64 x.v).wf = true) (fun row hr => by
    cases hr with
    | cons h1 t1 =>
      cases t1 with
      | cons h2 t2 =>
        cases t2
        obtain ⟨a, ha, rfl⟩ := okD_i h1
        obtain ⟨b, hb, rfl⟩ := okD_i h2
        exact ⟨⟨a, b⟩, ⟨ha, hb⟩, rfl⟩) h
theorem in_ents {H : Type} {enc : TypeId × Value → H} {P : Program} {w : World} {base : Nat} {spare : Nat → Bool} {held : Bool} {S : Nat → Prop} {r : Reach} {b0 : Nat} {t : TypeId} {v : Value} {d : DataW H} {ps : List MemPlace} {e : TypeId} (ht : P.underlying t = some (.slice e)) {m : Nat}
    (hc : cellsT P m t = some [.sl [.i .i64, .i .u64]]) (hv : Value.okWide P w r b0 t v) (h : DataW.Trod enc P w base spare held t v d ps) (hS : ∀ x ∈ ps, S x.block) : ∃ l : List Ent, (l.length ≤ maxLen ∧ ∀ x ∈ l, (Lit.int .i64 x.at_).wf = true ∧ (Lit.int .u64 x.v).wf = true) ∧ ShowsA S w v (sEn l) := by
  obtain ⟨c, k1, k2⟩ := in_slice ht hc hv h hS
  obtain ⟨l, h1, h2, rfl⟩ := okD_ents k1
  exact ⟨l, ⟨h1, h2⟩, k2⟩
theorem ents_U {l : List Ent} (h : ∀ x ∈ l, (Lit.int .i64 x.at_).wf = true ∧ (Lit.int .u64 x.v).wf = true) : ∀ e ∈ l, isU e.v := fun e he =>
  wf_U (l := l.map (·.v)) (fun n hn => by
    obtain ⟨x, hx, rfl⟩ := List.mem_map.1 hn
    exact (h x hx).2) e.v (List.mem_map.2 ⟨e, he, rfl⟩)
end
end Go.Proofs.Ytmhnogmbpoeaeaa
