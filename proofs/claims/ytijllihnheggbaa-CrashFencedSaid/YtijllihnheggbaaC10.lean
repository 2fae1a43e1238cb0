/-
  The contracts of the program's functions, data in, data out. Conditions: those in the statements.
-/
import Derived.Test.YtijllihnheggbaaC8
import Derived.Test.YtijllihnheggbaaI1
namespace Go.Proofs.Ytijllihnheggbaa
set_option linter.all false
open Go Go.Proofs.Ytijllihnheggbaa.Eng Go.RowKit
noncomputable section

open Go.ChangeShapes Go.WideShapes Go.ChangeAt
def DevIn (d : Dev) : Prop := d.img.length ≤ maxLen ∧ Wf .u64 d.img ∧ d.dirty.length ≤ maxLen ∧ (∀ x ∈ d.dirty, (Lit.int .i64 x.at_).wf = true ∧ (Lit.int .u64 x.v).wf = true) ∧ (Lit.int .i64 d.left).wf = true
theorem okD_dirty {d : D} (h : OkD d (.sl [.i .i64, .i .u64, .b])) : ∃ l : List Dty, l.length ≤ maxLen ∧ (∀ x ∈ l, (Lit.int .i64 x.at_).wf = true ∧ (Lit.int .u64 x.v).wf = true) ∧ d = .sl 3 (l.map dtyD) :=
  okD_sl (good := fun x : Dty => (Lit.int .i64 x.at_).wf = true ∧ (Lit.int .u64 x.v).wf = true) (fun row hr => by
    cases hr with
    | cons h1 t1 =>
      cases t1 with
      | cons h2 t2 =>
        cases t2 with
        | cons h3 t3 =>
          cases t3
          obtain ⟨a, ha, rfl⟩ := okD_i h1
          obtain ⟨b, hb, rfl⟩ := okD_i h2
          obtain ⟨c, rfl⟩ := okD_b h3
          exact ⟨⟨a, b, c⟩, ⟨ha, hb⟩, rfl⟩) h
theorem okD_dev {ds : List D} (h : All2 OkD ds [.sl [.i .u64], .sl [.i .i64, .i .u64, .b], .i .i64, .b]) : ∃ d : Dev, DevIn d ∧ ds = devC d := by
  cases h with
  | cons h1 t1 =>
    cases t1 with
    | cons h2 t2 =>
      cases t2 with
      | cons h3 t3 =>
        cases t3 with
        | cons h4 t4 =>
          cases t4
          obtain ⟨m, m1, m2, rfl⟩ := okD_nums h1
          obtain ⟨l, l1, l2, rfl⟩ := okD_dirty h2
          obtain ⟨n, n1, rfl⟩ := okD_i h3
          obtain ⟨b, rfl⟩ := okD_b h4
          exact ⟨⟨m, l, n, b⟩, ⟨m1, m2, l1, l2, n1⟩, rfl⟩
theorem in_dev {H : Type} {enc : TypeId × Value → H} {P : Program} {w : World} {base : Nat} {spare : Nat → Bool} {held : Bool} {S : Nat → Prop} {r : Reach} {b0 : Nat} {t : TypeId} {v : Value} {d : DataW H} {ps : List MemPlace} {fs : Array Field} (ht : P.underlying t = some (.struct fs)) {m : Nat}
    (hc : cellsT P m t = some [.sl [.i .u64], .sl [.i .i64, .i .u64, .b], .i .i64, .b]) (hv : Value.okWide P w r b0 t v) (h : DataW.Trod enc P w base spare held t v d ps) (hS : ∀ x ∈ ps, S x.block) : ∃ d : Dev, DevIn d ∧ ShowsA S w v (devA d) := by
  obtain ⟨ds, k1, k2⟩ := in_struct ht hc hv h hS
  obtain ⟨d, hd, rfl⟩ := okD_dev k1
  exact ⟨d, hd, k2⟩
end
end Go.Proofs.Ytijllihnheggbaa
