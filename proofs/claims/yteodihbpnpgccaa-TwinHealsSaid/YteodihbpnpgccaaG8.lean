/-
  The contracts of the program's functions, data in, data out. Conditions: those in the statements.
-/
import Derived.Test.YteodihbpnpgccaaG2
import Derived.Test.YteodihbpnpgccaaI1
namespace Go.Proofs.Yteodihbpnpgccaa
set_option linter.all false
open Go Go.Proofs.Yteodihbpnpgccaa.Eng Go.RowKit
noncomputable section

open Go.ChangeShapes Go.WideShapes Go.ChangeAt
theorem okD_sup {ds : List D} (h : All2 OkD ds [.i .i64, .i .i64]) : ∃ s : Sup, ((Lit.int .i64 s.w).wf = true ∧ (Lit.int .i64 s.t).wf = true) ∧ ds = supC s := by
  cases h with
  | cons h1 t1 =>
    cases t1 with
    | cons h2 t2 =>
      cases t2
      obtain ⟨a, ha, rfl⟩ := okD_i h1
      obtain ⟨b, hb, rfl⟩ := okD_i h2
      exact ⟨⟨a, b⟩, ⟨ha, hb⟩, rfl⟩
theorem in_sup {H : Type} {enc : TypeId × Value → H} {P : Program} {w : World} {base : Nat} {spare : Nat → Bool} {held : Bool} {S : Nat → Prop} {r : Reach} {b0 : Nat} {t : TypeId} {v : Value} {d : DataW H} {ps : List MemPlace} {fs : Array Field} (ht : P.underlying t = some (.struct fs)) {m : Nat}
    (hc : cellsT P m t = some [.i .i64, .i .i64]) (hv : Value.okWide P w r b0 t v) (h : DataW.Trod enc P w base spare held t v d ps) (hS : ∀ x ∈ ps, S x.block) : ∃ s : Sup, ((Lit.int .i64 s.w).wf = true ∧ (Lit.int .i64 s.t).wf = true) ∧ ShowsA S w v (supA s) := by
  obtain ⟨ds, k1, k2⟩ := in_struct ht hc hv h hS
  obtain ⟨d, hd, rfl⟩ := okD_sup k1
  exact ⟨d, hd, k2⟩
end
end Go.Proofs.Yteodihbpnpgccaa
