/-
  No cell of these rows narrows 'for every input' (looked for: loops, veiled, ifaces, maps, wideKeys, modest, calm, conditions, laid).
  DERIVED. THE GIVEN ROWS OF THIS SEAT. 6 by the template 'for every input the law returns true; each argument reads behind the call as it read before'; 0 by the template 'total and deterministic' (their statements: YteodihbpnpgccaaTotals.lean).
  GIVEN WITH THE SEED: the statements are not yours to turn. If you find one false, say at which input.
  Laid BY PROGRAM, IN A SANDBOX (cutbox-rows.mjs): the forced cells as the released guide's own fill.sh prints them over the translation 270249ba85789e2d… (all of the seat's roots in one cut). By AI agents, Wed Nov 11 2026. No macro, syntax, notation, axiom, sorry.
-/
import Derived.Test.YteodihbpnpgccaaChecked
import GoSem.Claim
import GoSem.ClaimJoined
import GoSem.ClaimMapViews
import Derived.JoinedTies
import Derived.KernelRfl
namespace Go.Proofs.Yteodihbpnpgccaa
/- THE CELL 'sum', in the pinned program and in every row, IS THE sha256 OF THE DUMP (.gsa) THAT YteodihbpnpgccaaProg.lean LOADS. Nothing in Lean hashes anything: it is a label: what it is worth is what the hold of that sum in a sandbox is worth. -/
noncomputable def Try.pinned : Pinned := { name := "yteodihbpnpgccaa", sum := "270249ba85789e2dac2831f504c2d200b34583b3141961525826cf57297015b9", checked := Try.checked }
namespace Rows
def none {H : Type} : Left H := { results := [], args := [] }

/-- 'ballastlaw07.TwinNames': WHATEVER THE INPUT: true; the input reads as it did. -/
def twinNamesSpec : ChangeSpec := { name := "twinNames", fn := fun _ => fun
  | [] => { results := [.lit (.bool true)], args := [] }
  | _ => none }
def twinNamesRow : OpenClaim := { program := "yteodihbpnpgccaa", sum := "270249ba85789e2dac2831f504c2d200b34583b3141961525826cf57297015b9", func := "ballast/ballastlaw07.TwinNames", spec := "twinNames", apart := false }
def TwinNamesSaid : Prop := twinNamesRow.holds Try.pinned (OpenSpec.ofChange twinNamesSpec)

/-- ITS FALSE NEIGHBOUR: 'it returns false'. Refute it at one input. -/
def twinNamesWrong : ChangeSpec := { name := "twinNames", fn := fun _ => fun
  | [] => { results := [.lit (.bool false)], args := [] }
  | _ => none }
def TwinNamesWrongFalsely : Prop := twinNamesRow.holds Try.pinned (OpenSpec.ofChange twinNamesWrong)

/-- 'ballastlaw07.TwinTells': WHATEVER THE INPUT: true; the input reads as it did. -/
def twinTellsSpec : ChangeSpec := { name := "twinTells", fn := fun _ => fun
  | [d] => { results := [.lit (.bool true)], args := [d] }
  | _ => none }
def twinTellsRow : OpenClaim := { program := "yteodihbpnpgccaa", sum := "270249ba85789e2dac2831f504c2d200b34583b3141961525826cf57297015b9", func := "ballast/ballastlaw07.TwinTells", spec := "twinTells", apart := false }
def TwinTellsSaid : Prop := twinTellsRow.holds Try.pinned (OpenSpec.ofChange twinTellsSpec)

/-- ITS FALSE NEIGHBOUR: 'it returns false'. Refute it at one input. -/
def twinTellsWrong : ChangeSpec := { name := "twinTells", fn := fun _ => fun
  | [d] => { results := [.lit (.bool false)], args := [d] }
  | _ => none }
def TwinTellsWrongFalsely : Prop := twinTellsRow.holds Try.pinned (OpenSpec.ofChange twinTellsWrong)

/-- 'ballastlaw07.TwinHeals': WHATEVER THE INPUT: true; the input reads as it did. -/
def twinHealsSpec : ChangeSpec := { name := "twinHeals", fn := fun _ => fun
  | [d1, d2, d3, d4, d5] => { results := [.lit (.bool true)], args := [d1, d2, d3, d4, d5] }
  | _ => none }
def twinHealsRow : OpenClaim := { program := "yteodihbpnpgccaa", sum := "270249ba85789e2dac2831f504c2d200b34583b3141961525826cf57297015b9", func := "ballast/ballastlaw07.TwinHeals", spec := "twinHeals", apart := false }
def TwinHealsSaid : Prop := twinHealsRow.holds Try.pinned (OpenSpec.ofChange twinHealsSpec)

/-- ITS FALSE NEIGHBOUR: 'it returns false'. Refute it at one input. -/
def twinHealsWrong : ChangeSpec := { name := "twinHeals", fn := fun _ => fun
  | [d1, d2, d3, d4, d5] => { results := [.lit (.bool false)], args := [d1, d2, d3, d4, d5] }
  | _ => none }
def TwinHealsWrongFalsely : Prop := twinHealsRow.holds Try.pinned (OpenSpec.ofChange twinHealsWrong)

/-- 'ballastlaw07.TwinAgain': WHATEVER THE INPUT: true; the input reads as it did. -/
def twinAgainSpec : ChangeSpec := { name := "twinAgain", fn := fun _ => fun
  | [d] => { results := [.lit (.bool true)], args := [d] }
  | _ => none }
def twinAgainRow : OpenClaim := { program := "yteodihbpnpgccaa", sum := "270249ba85789e2dac2831f504c2d200b34583b3141961525826cf57297015b9", func := "ballast/ballastlaw07.TwinAgain", spec := "twinAgain", apart := false }
def TwinAgainSaid : Prop := twinAgainRow.holds Try.pinned (OpenSpec.ofChange twinAgainSpec)

/-- ITS FALSE NEIGHBOUR: 'it returns false'. Refute it at one input. -/
def twinAgainWrong : ChangeSpec := { name := "twinAgain", fn := fun _ => fun
  | [d] => { results := [.lit (.bool false)], args := [d] }
  | _ => none }
def TwinAgainWrongFalsely : Prop := twinAgainRow.holds Try.pinned (OpenSpec.ofChange twinAgainWrong)

/-- 'ballastlaw07.TwinApart': WHATEVER THE INPUT: true; the input reads as it did. -/
def twinApartSpec : ChangeSpec := { name := "twinApart", fn := fun _ => fun
  | [d1, d2, d3] => { results := [.lit (.bool true)], args := [d1, d2, d3] }
  | _ => none }
def twinApartRow : OpenClaim := { program := "yteodihbpnpgccaa", sum := "270249ba85789e2dac2831f504c2d200b34583b3141961525826cf57297015b9", func := "ballast/ballastlaw07.TwinApart", spec := "twinApart", apart := false }
def TwinApartSaid : Prop := twinApartRow.holds Try.pinned (OpenSpec.ofChange twinApartSpec)

/-- ITS FALSE NEIGHBOUR: 'it returns false'. Refute it at one input. -/
def twinApartWrong : ChangeSpec := { name := "twinApart", fn := fun _ => fun
  | [d1, d2, d3] => { results := [.lit (.bool false)], args := [d1, d2, d3] }
  | _ => none }
def TwinApartWrongFalsely : Prop := twinApartRow.holds Try.pinned (OpenSpec.ofChange twinApartWrong)

/-- 'ballastlaw07.TwinFirst': WHATEVER THE INPUT: true; the input reads as it did. -/
def twinFirstSpec : ChangeSpec := { name := "twinFirst", fn := fun _ => fun
  | [d1, d2] => { results := [.lit (.bool true)], args := [d1, d2] }
  | _ => none }
def twinFirstRow : OpenClaim := { program := "yteodihbpnpgccaa", sum := "270249ba85789e2dac2831f504c2d200b34583b3141961525826cf57297015b9", func := "ballast/ballastlaw07.TwinFirst", spec := "twinFirst", apart := false }
def TwinFirstSaid : Prop := twinFirstRow.holds Try.pinned (OpenSpec.ofChange twinFirstSpec)

/-- ITS FALSE NEIGHBOUR: 'it returns false'. Refute it at one input. -/
def twinFirstWrong : ChangeSpec := { name := "twinFirst", fn := fun _ => fun
  | [d1, d2] => { results := [.lit (.bool false)], args := [d1, d2] }
  | _ => none }
def TwinFirstWrongFalsely : Prop := twinFirstRow.holds Try.pinned (OpenSpec.ofChange twinFirstWrong)

/- THE SECOND FORM. 'bulk': how many values and letters a reading holds, each counted each time it is reached (what is shared counts as often as it is met; a slice's spare places count too). A statement '..UptoSaid' is the law's where the arguments, and the package variables that the reading takes, are together of bulk at most 1048576: NARROWER than '..Said'. Prove '..Said' where nothing that the law and all that it calls make is longer than what came in: it says more and counts as full. Else prove '..UptoSaid'. A law counts once. -/
mutual
def uptoBulk {H : Type} : DataW H → Nat
  | .lit (.string bytes) => bytes.length + 1
  | .lit _ => 1
  | .nil => 1
  | .ptr d => uptoBulk d + 1
  | .slice elems spare => uptoBulkAll elems + uptoBulkAll spare + 1
  | .agg parts => uptoBulkAll parts + 1
  | .iface _ d => uptoBulk d + 1
  | .map entries => uptoBulkEntries entries + 1
  | .held _ => 1
def uptoBulkAll {H : Type} : List (DataW H) → Nat
  | [] => 0
  | d :: r => uptoBulk d + uptoBulkAll r
def uptoBulkEntries {H : Type} : List (Lit × DataW H) → Nat
  | [] => 0
  | x :: r => uptoBulkEntry x + uptoBulkEntries r
def uptoBulkEntry {H : Type} : Lit × DataW H → Nat
  | (.string bytes, d) => bytes.length + uptoBulk d + 1
  | (_, d) => uptoBulk d + 1
 end
def uptoSmall : (H : Type) → List (DataW H) → Bool := fun _ ds => decide (uptoBulkAll ds ≤ 1048576)
def OpenSpec.upto (s : _root_.Go.ChangeSpec) : _root_.Go.OpenSpec := { _root_.Go.OpenSpec.ofChange s with cond := some uptoSmall }

/-- 'ballastlaw07.TwinNames', WHERE WHAT IT READS IS OF BULK AT MOST 1048576: true; the input reads as it did. -/
def twinNamesUptoRow : OpenClaim := { program := "yteodihbpnpgccaa", sum := "270249ba85789e2dac2831f504c2d200b34583b3141961525826cf57297015b9", func := "ballast/ballastlaw07.TwinNames", spec := "twinNames", apart := false, narrowed := true }
def TwinNamesUptoSaid : Prop := twinNamesUptoRow.holds Try.pinned (OpenSpec.upto twinNamesSpec)

/-- 'ballastlaw07.TwinTells', WHERE WHAT IT READS IS OF BULK AT MOST 1048576: true; the input reads as it did. -/
def twinTellsUptoRow : OpenClaim := { program := "yteodihbpnpgccaa", sum := "270249ba85789e2dac2831f504c2d200b34583b3141961525826cf57297015b9", func := "ballast/ballastlaw07.TwinTells", spec := "twinTells", apart := false, narrowed := true }
def TwinTellsUptoSaid : Prop := twinTellsUptoRow.holds Try.pinned (OpenSpec.upto twinTellsSpec)

/-- 'ballastlaw07.TwinHeals', WHERE WHAT IT READS IS OF BULK AT MOST 1048576: true; the input reads as it did. -/
def twinHealsUptoRow : OpenClaim := { program := "yteodihbpnpgccaa", sum := "270249ba85789e2dac2831f504c2d200b34583b3141961525826cf57297015b9", func := "ballast/ballastlaw07.TwinHeals", spec := "twinHeals", apart := false, narrowed := true }
def TwinHealsUptoSaid : Prop := twinHealsUptoRow.holds Try.pinned (OpenSpec.upto twinHealsSpec)

/-- 'ballastlaw07.TwinAgain', WHERE WHAT IT READS IS OF BULK AT MOST 1048576: true; the input reads as it did. -/
def twinAgainUptoRow : OpenClaim := { program := "yteodihbpnpgccaa", sum := "270249ba85789e2dac2831f504c2d200b34583b3141961525826cf57297015b9", func := "ballast/ballastlaw07.TwinAgain", spec := "twinAgain", apart := false, narrowed := true }
def TwinAgainUptoSaid : Prop := twinAgainUptoRow.holds Try.pinned (OpenSpec.upto twinAgainSpec)

/-- 'ballastlaw07.TwinApart', WHERE WHAT IT READS IS OF BULK AT MOST 1048576: true; the input reads as it did. -/
def twinApartUptoRow : OpenClaim := { program := "yteodihbpnpgccaa", sum := "270249ba85789e2dac2831f504c2d200b34583b3141961525826cf57297015b9", func := "ballast/ballastlaw07.TwinApart", spec := "twinApart", apart := false, narrowed := true }
def TwinApartUptoSaid : Prop := twinApartUptoRow.holds Try.pinned (OpenSpec.upto twinApartSpec)

/-- 'ballastlaw07.TwinFirst', WHERE WHAT IT READS IS OF BULK AT MOST 1048576: true; the input reads as it did. -/
def twinFirstUptoRow : OpenClaim := { program := "yteodihbpnpgccaa", sum := "270249ba85789e2dac2831f504c2d200b34583b3141961525826cf57297015b9", func := "ballast/ballastlaw07.TwinFirst", spec := "twinFirst", apart := false, narrowed := true }
def TwinFirstUptoSaid : Prop := twinFirstUptoRow.holds Try.pinned (OpenSpec.upto twinFirstSpec)

end Rows
end Go.Proofs.Yteodihbpnpgccaa
