/-
  The contracts of the program's functions, data in, data out. Conditions: those in the statements.
-/
import Derived.Test.YtnmpdpijcehofaaC23
import Derived.Test.YtnmpdpijcehofaaC10
namespace Go.Proofs.Ytnmpdpijcehofaa
set_option linter.all false
open Go Go.Proofs.Ytnmpdpijcehofaa.Eng Go.RowKit
noncomputable section

open Go.ChangeShapes Go.WideShapes Go.ChangeAt
theorem in_ents {H : Type} {enc : TypeId × Value → H} {P : Program} {w : World} {base : Nat} {spare : Nat → Bool} {held : Bool} {S : Nat → Prop} {r : Reach} {b0 : Nat} {t e : TypeId} {v : Value} {d : DataW H} {ps : List MemPlace} (ht : P.underlying t = some (.slice e)) {m : Nat}
    (hc : cellsT P m t = some [.sl [.i .i64, .i .u64]]) (hv : Value.okWide P w r b0 t v) (h : DataW.Trod enc P w base spare held t v d ps) (hS : ∀ x ∈ ps, S x.block) : ∃ l : List Ent, (l.length ≤ maxLen ∧ ∀ x ∈ l, (Lit.int .i64 x.at_).wf = true ∧ (Lit.int .u64 x.v).wf = true) ∧ ShowsA S w v (sE l) := by
  obtain ⟨c, k1, k2⟩ := in_slice ht hc hv h hS
  obtain ⟨l, l1, l2, rfl⟩ := okD_sl (good := fun x : Ent => (Lit.int .i64 x.at_).wf = true ∧ (Lit.int .u64 x.v).wf = true) (en := entD) (fun row hr => by
    cases hr with
    | cons h1 t1 =>
      cases t1 with
      | cons h2 t2 =>
        cases t2
        obtain ⟨a, ha, rfl⟩ := okD_i h1
        obtain ⟨b, hb, rfl⟩ := okD_i h2
        exact ⟨⟨a, b⟩, ⟨ha, hb⟩, rfl⟩) k1
  exact ⟨l, ⟨l1, l2⟩, k2⟩
end
end Go.Proofs.Ytnmpdpijcehofaa
