/-
  No cell of these rows narrows 'for every input' (looked for: loops, veiled, ifaces, maps, wideKeys, modest, calm, conditions, laid).
  DERIVED. THE GIVEN ROWS OF THIS SEAT. 6 by the template 'for every input the law returns true; each argument reads behind the call as it read before'; 0 by the template 'total and deterministic' (their statements: YtnkakhmmlgkbgaaTotals.lean).
  GIVEN WITH THE SEED: the statements are not yours to turn. If you find one false, say at which input.
  Laid BY PROGRAM, IN A SANDBOX (cutbox-rows.mjs): the forced cells as the released guide's own fill.sh prints them over the translation 4ba450f1d7f5b93d… (all of the seat's roots in one cut). By AI agents, Wed Nov 11 2026. No macro, syntax, notation, axiom, sorry.
-/
import Derived.Test.YtnkakhmmlgkbgaaChecked
import GoSem.Claim
import GoSem.ClaimJoined
import GoSem.ClaimMapViews
import Derived.JoinedTies
import Derived.KernelRfl
namespace Go.Proofs.Ytnkakhmmlgkbgaa
/- THE CELL 'sum', in the pinned program and in every row, IS THE sha256 OF THE DUMP (.gsa) THAT YtnkakhmmlgkbgaaProg.lean LOADS. Nothing in Lean hashes anything: it is a label: what it is worth is what the hold of that sum in a sandbox is worth. -/
noncomputable def Try.pinned : Pinned := { name := "ytnkakhmmlgkbgaa", sum := "4ba450f1d7f5b93d504e660c9eb57eed8c65096e314e08417ad239b253690f58", checked := Try.checked }
namespace Rows
def none {H : Type} : Left H := { results := [], args := [] }

/-- 'ballastlaw06.SuperNames': WHATEVER THE INPUT: true; the input reads as it did. -/
def superNamesSpec : ChangeSpec := { name := "superNames", fn := fun _ => fun
  | [] => { results := [.lit (.bool true)], args := [] }
  | _ => none }
def superNamesRow : OpenClaim := { program := "ytnkakhmmlgkbgaa", sum := "4ba450f1d7f5b93d504e660c9eb57eed8c65096e314e08417ad239b253690f58", func := "ballast/ballastlaw06.SuperNames", spec := "superNames", apart := false }
def SuperNamesSaid : Prop := superNamesRow.holds Try.pinned (OpenSpec.ofChange superNamesSpec)

/-- ITS FALSE NEIGHBOUR: 'it returns false'. Refute it at one input. -/
def superNamesWrong : ChangeSpec := { name := "superNames", fn := fun _ => fun
  | [] => { results := [.lit (.bool false)], args := [] }
  | _ => none }
def SuperNamesWrongFalsely : Prop := superNamesRow.holds Try.pinned (OpenSpec.ofChange superNamesWrong)

/-- 'ballastlaw06.SuperTells': WHATEVER THE INPUT: true; the input reads as it did. -/
def superTellsSpec : ChangeSpec := { name := "superTells", fn := fun _ => fun
  | [d1, d2] => { results := [.lit (.bool true)], args := [d1, d2] }
  | _ => none }
def superTellsRow : OpenClaim := { program := "ytnkakhmmlgkbgaa", sum := "4ba450f1d7f5b93d504e660c9eb57eed8c65096e314e08417ad239b253690f58", func := "ballast/ballastlaw06.SuperTells", spec := "superTells", apart := false }
def SuperTellsSaid : Prop := superTellsRow.holds Try.pinned (OpenSpec.ofChange superTellsSpec)

/-- ITS FALSE NEIGHBOUR: 'it returns false'. Refute it at one input. -/
def superTellsWrong : ChangeSpec := { name := "superTells", fn := fun _ => fun
  | [d1, d2] => { results := [.lit (.bool false)], args := [d1, d2] }
  | _ => none }
def SuperTellsWrongFalsely : Prop := superTellsRow.holds Try.pinned (OpenSpec.ofChange superTellsWrong)

/-- 'ballastlaw06.SuperBack': WHATEVER THE INPUT: true; the input reads as it did. -/
def superBackSpec : ChangeSpec := { name := "superBack", fn := fun _ => fun
  | [d1, d2] => { results := [.lit (.bool true)], args := [d1, d2] }
  | _ => none }
def superBackRow : OpenClaim := { program := "ytnkakhmmlgkbgaa", sum := "4ba450f1d7f5b93d504e660c9eb57eed8c65096e314e08417ad239b253690f58", func := "ballast/ballastlaw06.SuperBack", spec := "superBack", apart := false }
def SuperBackSaid : Prop := superBackRow.holds Try.pinned (OpenSpec.ofChange superBackSpec)

/-- ITS FALSE NEIGHBOUR: 'it returns false'. Refute it at one input. -/
def superBackWrong : ChangeSpec := { name := "superBack", fn := fun _ => fun
  | [d1, d2] => { results := [.lit (.bool false)], args := [d1, d2] }
  | _ => none }
def SuperBackWrongFalsely : Prop := superBackRow.holds Try.pinned (OpenSpec.ofChange superBackWrong)

/-- 'ballastlaw06.SuperOnce': WHATEVER THE INPUT: true; the input reads as it did. -/
def superOnceSpec : ChangeSpec := { name := "superOnce", fn := fun _ => fun
  | [d] => { results := [.lit (.bool true)], args := [d] }
  | _ => none }
def superOnceRow : OpenClaim := { program := "ytnkakhmmlgkbgaa", sum := "4ba450f1d7f5b93d504e660c9eb57eed8c65096e314e08417ad239b253690f58", func := "ballast/ballastlaw06.SuperOnce", spec := "superOnce", apart := false }
def SuperOnceSaid : Prop := superOnceRow.holds Try.pinned (OpenSpec.ofChange superOnceSpec)

/-- ITS FALSE NEIGHBOUR: 'it returns false'. Refute it at one input. -/
def superOnceWrong : ChangeSpec := { name := "superOnce", fn := fun _ => fun
  | [d] => { results := [.lit (.bool false)], args := [d] }
  | _ => none }
def SuperOnceWrongFalsely : Prop := superOnceRow.holds Try.pinned (OpenSpec.ofChange superOnceWrong)

/-- 'ballastlaw06.SuperByte': WHATEVER THE INPUT: true; the input reads as it did. -/
def superByteSpec : ChangeSpec := { name := "superByte", fn := fun _ => fun
  | [d1, d2, d3, d4] => { results := [.lit (.bool true)], args := [d1, d2, d3, d4] }
  | _ => none }
def superByteRow : OpenClaim := { program := "ytnkakhmmlgkbgaa", sum := "4ba450f1d7f5b93d504e660c9eb57eed8c65096e314e08417ad239b253690f58", func := "ballast/ballastlaw06.SuperByte", spec := "superByte", apart := false }
def SuperByteSaid : Prop := superByteRow.holds Try.pinned (OpenSpec.ofChange superByteSpec)

/-- ITS FALSE NEIGHBOUR: 'it returns false'. Refute it at one input. -/
def superByteWrong : ChangeSpec := { name := "superByte", fn := fun _ => fun
  | [d1, d2, d3, d4] => { results := [.lit (.bool false)], args := [d1, d2, d3, d4] }
  | _ => none }
def SuperByteWrongFalsely : Prop := superByteRow.holds Try.pinned (OpenSpec.ofChange superByteWrong)

/-- 'ballastlaw06.SuperSum': WHATEVER THE INPUT: true; the input reads as it did. -/
def superSumSpec : ChangeSpec := { name := "superSum", fn := fun _ => fun
  | [d] => { results := [.lit (.bool true)], args := [d] }
  | _ => none }
def superSumRow : OpenClaim := { program := "ytnkakhmmlgkbgaa", sum := "4ba450f1d7f5b93d504e660c9eb57eed8c65096e314e08417ad239b253690f58", func := "ballast/ballastlaw06.SuperSum", spec := "superSum", apart := false }
def SuperSumSaid : Prop := superSumRow.holds Try.pinned (OpenSpec.ofChange superSumSpec)

/-- ITS FALSE NEIGHBOUR: 'it returns false'. Refute it at one input. -/
def superSumWrong : ChangeSpec := { name := "superSum", fn := fun _ => fun
  | [d] => { results := [.lit (.bool false)], args := [d] }
  | _ => none }
def SuperSumWrongFalsely : Prop := superSumRow.holds Try.pinned (OpenSpec.ofChange superSumWrong)

/- THE SECOND FORM. 'bulk': how many values and letters a reading holds, each counted each time it is reached (what is shared counts as often as it is met; a slice's spare places count too). A statement '..UptoSaid' is the law's where the arguments, and the package variables that the reading takes, are together of bulk at most 1048576: NARROWER than '..Said'. Prove '..Said' where nothing that the law and all that it calls make is longer than what came in: it says more and counts as full. Else prove '..UptoSaid'. A law counts once. -/
mutual
def uptoBulk {H : Type} : DataW H → Nat
  | .lit (.string bytes) => bytes.length + 1
  | .lit _ => 1
  | .nil => 1
  | .ptr d => uptoBulk d + 1
  | .slice elems spare => uptoBulkAll elems + uptoBulkAll spare + 1
  | .agg parts => uptoBulkAll parts + 1
  | .iface _ d => uptoBulk d + 1
  | .map entries => uptoBulkEntries entries + 1
  | .held _ => 1
def uptoBulkAll {H : Type} : List (DataW H) → Nat
  | [] => 0
  | d :: r => uptoBulk d + uptoBulkAll r
def uptoBulkEntries {H : Type} : List (Lit × DataW H) → Nat
  | [] => 0
  | x :: r => uptoBulkEntry x + uptoBulkEntries r
def uptoBulkEntry {H : Type} : Lit × DataW H → Nat
  | (.string bytes, d) => bytes.length + uptoBulk d + 1
  | (_, d) => uptoBulk d + 1
 end
def uptoSmall : (H : Type) → List (DataW H) → Bool := fun _ ds => decide (uptoBulkAll ds ≤ 1048576)
def OpenSpec.upto (s : _root_.Go.ChangeSpec) : _root_.Go.OpenSpec := { _root_.Go.OpenSpec.ofChange s with cond := some uptoSmall }

/-- 'ballastlaw06.SuperNames', WHERE WHAT IT READS IS OF BULK AT MOST 1048576: true; the input reads as it did. -/
def superNamesUptoRow : OpenClaim := { program := "ytnkakhmmlgkbgaa", sum := "4ba450f1d7f5b93d504e660c9eb57eed8c65096e314e08417ad239b253690f58", func := "ballast/ballastlaw06.SuperNames", spec := "superNames", apart := false, narrowed := true }
def SuperNamesUptoSaid : Prop := superNamesUptoRow.holds Try.pinned (OpenSpec.upto superNamesSpec)

/-- 'ballastlaw06.SuperTells', WHERE WHAT IT READS IS OF BULK AT MOST 1048576: true; the input reads as it did. -/
def superTellsUptoRow : OpenClaim := { program := "ytnkakhmmlgkbgaa", sum := "4ba450f1d7f5b93d504e660c9eb57eed8c65096e314e08417ad239b253690f58", func := "ballast/ballastlaw06.SuperTells", spec := "superTells", apart := false, narrowed := true }
def SuperTellsUptoSaid : Prop := superTellsUptoRow.holds Try.pinned (OpenSpec.upto superTellsSpec)

/-- 'ballastlaw06.SuperBack', WHERE WHAT IT READS IS OF BULK AT MOST 1048576: true; the input reads as it did. -/
def superBackUptoRow : OpenClaim := { program := "ytnkakhmmlgkbgaa", sum := "4ba450f1d7f5b93d504e660c9eb57eed8c65096e314e08417ad239b253690f58", func := "ballast/ballastlaw06.SuperBack", spec := "superBack", apart := false, narrowed := true }
def SuperBackUptoSaid : Prop := superBackUptoRow.holds Try.pinned (OpenSpec.upto superBackSpec)

/-- 'ballastlaw06.SuperOnce', WHERE WHAT IT READS IS OF BULK AT MOST 1048576: true; the input reads as it did. -/
def superOnceUptoRow : OpenClaim := { program := "ytnkakhmmlgkbgaa", sum := "4ba450f1d7f5b93d504e660c9eb57eed8c65096e314e08417ad239b253690f58", func := "ballast/ballastlaw06.SuperOnce", spec := "superOnce", apart := false, narrowed := true }
def SuperOnceUptoSaid : Prop := superOnceUptoRow.holds Try.pinned (OpenSpec.upto superOnceSpec)

/-- 'ballastlaw06.SuperByte', WHERE WHAT IT READS IS OF BULK AT MOST 1048576: true; the input reads as it did. -/
def superByteUptoRow : OpenClaim := { program := "ytnkakhmmlgkbgaa", sum := "4ba450f1d7f5b93d504e660c9eb57eed8c65096e314e08417ad239b253690f58", func := "ballast/ballastlaw06.SuperByte", spec := "superByte", apart := false, narrowed := true }
def SuperByteUptoSaid : Prop := superByteUptoRow.holds Try.pinned (OpenSpec.upto superByteSpec)

/-- 'ballastlaw06.SuperSum', WHERE WHAT IT READS IS OF BULK AT MOST 1048576: true; the input reads as it did. -/
def superSumUptoRow : OpenClaim := { program := "ytnkakhmmlgkbgaa", sum := "4ba450f1d7f5b93d504e660c9eb57eed8c65096e314e08417ad239b253690f58", func := "ballast/ballastlaw06.SuperSum", spec := "superSum", apart := false, narrowed := true }
def SuperSumUptoSaid : Prop := superSumUptoRow.holds Try.pinned (OpenSpec.upto superSumSpec)

end Rows
end Go.Proofs.Ytnkakhmmlgkbgaa
