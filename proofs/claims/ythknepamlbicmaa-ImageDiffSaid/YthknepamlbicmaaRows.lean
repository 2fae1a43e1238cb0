/-
  No cell of these rows narrows 'for every input' (looked for: loops, veiled, ifaces, maps, wideKeys, modest, calm, conditions, laid).
  DERIVED. THE GIVEN ROWS OF THIS SEAT. 7 by the template 'for every input the law returns true; each argument reads behind the call as it read before'; 0 by the template 'total and deterministic' (their statements: YthknepamlbicmaaTotals.lean).
  GIVEN WITH THE SEED: the statements are not yours to turn. If you find one false, say at which input.
  Laid BY PROGRAM, IN A SANDBOX (cutbox-rows.mjs): the forced cells as the released guide's own fill.sh prints them over the translation 9f33897fcaf50647… (all of the seat's roots in one cut). By AI agents, Wed Nov 11 2026. No macro, syntax, notation, axiom, sorry.
-/
import Derived.Test.YthknepamlbicmaaChecked
import GoSem.Claim
import GoSem.ClaimJoined
import GoSem.ClaimMapViews
import Derived.JoinedTies
import Derived.KernelRfl
namespace Go.Proofs.Ythknepamlbicmaa
/- THE CELL 'sum', in the pinned program and in every row, IS THE sha256 OF THE DUMP (.gsa) THAT YthknepamlbicmaaProg.lean LOADS. Nothing in Lean hashes anything: it is a label: what it is worth is what the hold of that sum in a sandbox is worth. -/
noncomputable def Try.pinned : Pinned := { name := "ythknepamlbicmaa", sum := "9f33897fcaf5064725547845bb641f3089334787d27e74798d01851b156e3a4c", checked := Try.checked }
namespace Rows
def none {H : Type} : Left H := { results := [], args := [] }

/-- 'ballastlaw02.ImageNames': WHATEVER THE INPUT: true; the input reads as it did. -/
def imageNamesSpec : ChangeSpec := { name := "imageNames", fn := fun _ => fun
  | [] => { results := [.lit (.bool true)], args := [] }
  | _ => none }
def imageNamesRow : OpenClaim := { program := "ythknepamlbicmaa", sum := "9f33897fcaf5064725547845bb641f3089334787d27e74798d01851b156e3a4c", func := "ballast/ballastlaw02.ImageNames", spec := "imageNames", apart := false }
def ImageNamesSaid : Prop := imageNamesRow.holds Try.pinned (OpenSpec.ofChange imageNamesSpec)

/-- ITS FALSE NEIGHBOUR: 'it returns false'. Refute it at one input. -/
def imageNamesWrong : ChangeSpec := { name := "imageNames", fn := fun _ => fun
  | [] => { results := [.lit (.bool false)], args := [] }
  | _ => none }
def ImageNamesWrongFalsely : Prop := imageNamesRow.holds Try.pinned (OpenSpec.ofChange imageNamesWrong)

/-- 'ballastlaw02.ImageRanges': WHATEVER THE INPUT: true; the input reads as it did. -/
def imageRangesSpec : ChangeSpec := { name := "imageRanges", fn := fun _ => fun
  | [d1, d2, d3, d4] => { results := [.lit (.bool true)], args := [d1, d2, d3, d4] }
  | _ => none }
def imageRangesRow : OpenClaim := { program := "ythknepamlbicmaa", sum := "9f33897fcaf5064725547845bb641f3089334787d27e74798d01851b156e3a4c", func := "ballast/ballastlaw02.ImageRanges", spec := "imageRanges", apart := false }
def ImageRangesSaid : Prop := imageRangesRow.holds Try.pinned (OpenSpec.ofChange imageRangesSpec)

/-- ITS FALSE NEIGHBOUR: 'it returns false'. Refute it at one input. -/
def imageRangesWrong : ChangeSpec := { name := "imageRanges", fn := fun _ => fun
  | [d1, d2, d3, d4] => { results := [.lit (.bool false)], args := [d1, d2, d3, d4] }
  | _ => none }
def ImageRangesWrongFalsely : Prop := imageRangesRow.holds Try.pinned (OpenSpec.ofChange imageRangesWrong)

/-- 'ballastlaw02.ImageDiffs': WHATEVER THE INPUT: true; the input reads as it did. -/
def imageDiffsSpec : ChangeSpec := { name := "imageDiffs", fn := fun _ => fun
  | [d1, d2, d3] => { results := [.lit (.bool true)], args := [d1, d2, d3] }
  | _ => none }
def imageDiffsRow : OpenClaim := { program := "ythknepamlbicmaa", sum := "9f33897fcaf5064725547845bb641f3089334787d27e74798d01851b156e3a4c", func := "ballast/ballastlaw02.ImageDiffs", spec := "imageDiffs", apart := false }
def ImageDiffsSaid : Prop := imageDiffsRow.holds Try.pinned (OpenSpec.ofChange imageDiffsSpec)

/-- ITS FALSE NEIGHBOUR: 'it returns false'. Refute it at one input. -/
def imageDiffsWrong : ChangeSpec := { name := "imageDiffs", fn := fun _ => fun
  | [d1, d2, d3] => { results := [.lit (.bool false)], args := [d1, d2, d3] }
  | _ => none }
def ImageDiffsWrongFalsely : Prop := imageDiffsRow.holds Try.pinned (OpenSpec.ofChange imageDiffsWrong)

/-- 'ballastlaw02.ImagePut': WHATEVER THE INPUT: true; the input reads as it did. -/
def imagePutSpec : ChangeSpec := { name := "imagePut", fn := fun _ => fun
  | [d1, d2, d3] => { results := [.lit (.bool true)], args := [d1, d2, d3] }
  | _ => none }
def imagePutRow : OpenClaim := { program := "ythknepamlbicmaa", sum := "9f33897fcaf5064725547845bb641f3089334787d27e74798d01851b156e3a4c", func := "ballast/ballastlaw02.ImagePut", spec := "imagePut", apart := false }
def ImagePutSaid : Prop := imagePutRow.holds Try.pinned (OpenSpec.ofChange imagePutSpec)

/-- ITS FALSE NEIGHBOUR: 'it returns false'. Refute it at one input. -/
def imagePutWrong : ChangeSpec := { name := "imagePut", fn := fun _ => fun
  | [d1, d2, d3] => { results := [.lit (.bool false)], args := [d1, d2, d3] }
  | _ => none }
def ImagePutWrongFalsely : Prop := imagePutRow.holds Try.pinned (OpenSpec.ofChange imagePutWrong)

/-- 'ballastlaw02.ImageDiff': WHATEVER THE INPUT: true; the input reads as it did. -/
def imageDiffSpec : ChangeSpec := { name := "imageDiff", fn := fun _ => fun
  | [d1, d2] => { results := [.lit (.bool true)], args := [d1, d2] }
  | _ => none }
def imageDiffRow : OpenClaim := { program := "ythknepamlbicmaa", sum := "9f33897fcaf5064725547845bb641f3089334787d27e74798d01851b156e3a4c", func := "ballast/ballastlaw02.ImageDiff", spec := "imageDiff", apart := false }
def ImageDiffSaid : Prop := imageDiffRow.holds Try.pinned (OpenSpec.ofChange imageDiffSpec)

/-- ITS FALSE NEIGHBOUR: 'it returns false'. Refute it at one input. -/
def imageDiffWrong : ChangeSpec := { name := "imageDiff", fn := fun _ => fun
  | [d1, d2] => { results := [.lit (.bool false)], args := [d1, d2] }
  | _ => none }
def ImageDiffWrongFalsely : Prop := imageDiffRow.holds Try.pinned (OpenSpec.ofChange imageDiffWrong)

/-- 'ballastlaw02.ImageLines': WHATEVER THE INPUT: true; the input reads as it did. -/
def imageLinesSpec : ChangeSpec := { name := "imageLines", fn := fun _ => fun
  | [d1, d2, d3] => { results := [.lit (.bool true)], args := [d1, d2, d3] }
  | _ => none }
def imageLinesRow : OpenClaim := { program := "ythknepamlbicmaa", sum := "9f33897fcaf5064725547845bb641f3089334787d27e74798d01851b156e3a4c", func := "ballast/ballastlaw02.ImageLines", spec := "imageLines", apart := false }
def ImageLinesSaid : Prop := imageLinesRow.holds Try.pinned (OpenSpec.ofChange imageLinesSpec)

/-- ITS FALSE NEIGHBOUR: 'it returns false'. Refute it at one input. -/
def imageLinesWrong : ChangeSpec := { name := "imageLines", fn := fun _ => fun
  | [d1, d2, d3] => { results := [.lit (.bool false)], args := [d1, d2, d3] }
  | _ => none }
def ImageLinesWrongFalsely : Prop := imageLinesRow.holds Try.pinned (OpenSpec.ofChange imageLinesWrong)

/-- 'ballastlaw02.ImageGet': WHATEVER THE INPUT: true; the input reads as it did. -/
def imageGetSpec : ChangeSpec := { name := "imageGet", fn := fun _ => fun
  | [d1, d2, d3, d4] => { results := [.lit (.bool true)], args := [d1, d2, d3, d4] }
  | _ => none }
def imageGetRow : OpenClaim := { program := "ythknepamlbicmaa", sum := "9f33897fcaf5064725547845bb641f3089334787d27e74798d01851b156e3a4c", func := "ballast/ballastlaw02.ImageGet", spec := "imageGet", apart := false }
def ImageGetSaid : Prop := imageGetRow.holds Try.pinned (OpenSpec.ofChange imageGetSpec)

/-- ITS FALSE NEIGHBOUR: 'it returns false'. Refute it at one input. -/
def imageGetWrong : ChangeSpec := { name := "imageGet", fn := fun _ => fun
  | [d1, d2, d3, d4] => { results := [.lit (.bool false)], args := [d1, d2, d3, d4] }
  | _ => none }
def ImageGetWrongFalsely : Prop := imageGetRow.holds Try.pinned (OpenSpec.ofChange imageGetWrong)

/- THE SECOND FORM. 'bulk': how many values and letters a reading holds, each counted each time it is reached (what is shared counts as often as it is met; a slice's spare places count too). A statement '..UptoSaid' is the law's where the arguments, and the package variables that the reading takes, are together of bulk at most 1048576: NARROWER than '..Said'. Prove '..Said' where nothing that the law and all that it calls make is longer than what came in: it says more and counts as full. Else prove '..UptoSaid'. A law counts once. -/
mutual
def uptoBulk {H : Type} : DataW H → Nat
  | .lit (.string bytes) => bytes.length + 1
  | .lit _ => 1
  | .nil => 1
  | .ptr d => uptoBulk d + 1
  | .slice elems spare => uptoBulkAll elems + uptoBulkAll spare + 1
  | .agg parts => uptoBulkAll parts + 1
  | .iface _ d => uptoBulk d + 1
  | .map entries => uptoBulkEntries entries + 1
  | .held _ => 1
def uptoBulkAll {H : Type} : List (DataW H) → Nat
  | [] => 0
  | d :: r => uptoBulk d + uptoBulkAll r
def uptoBulkEntries {H : Type} : List (Lit × DataW H) → Nat
  | [] => 0
  | x :: r => uptoBulkEntry x + uptoBulkEntries r
def uptoBulkEntry {H : Type} : Lit × DataW H → Nat
  | (.string bytes, d) => bytes.length + uptoBulk d + 1
  | (_, d) => uptoBulk d + 1
 end
def uptoSmall : (H : Type) → List (DataW H) → Bool := fun _ ds => decide (uptoBulkAll ds ≤ 1048576)
def OpenSpec.upto (s : _root_.Go.ChangeSpec) : _root_.Go.OpenSpec := { _root_.Go.OpenSpec.ofChange s with cond := some uptoSmall }

/-- 'ballastlaw02.ImageNames', WHERE WHAT IT READS IS OF BULK AT MOST 1048576: true; the input reads as it did. -/
def imageNamesUptoRow : OpenClaim := { program := "ythknepamlbicmaa", sum := "9f33897fcaf5064725547845bb641f3089334787d27e74798d01851b156e3a4c", func := "ballast/ballastlaw02.ImageNames", spec := "imageNames", apart := false, narrowed := true }
def ImageNamesUptoSaid : Prop := imageNamesUptoRow.holds Try.pinned (OpenSpec.upto imageNamesSpec)

/-- 'ballastlaw02.ImageRanges', WHERE WHAT IT READS IS OF BULK AT MOST 1048576: true; the input reads as it did. -/
def imageRangesUptoRow : OpenClaim := { program := "ythknepamlbicmaa", sum := "9f33897fcaf5064725547845bb641f3089334787d27e74798d01851b156e3a4c", func := "ballast/ballastlaw02.ImageRanges", spec := "imageRanges", apart := false, narrowed := true }
def ImageRangesUptoSaid : Prop := imageRangesUptoRow.holds Try.pinned (OpenSpec.upto imageRangesSpec)

/-- 'ballastlaw02.ImageDiffs', WHERE WHAT IT READS IS OF BULK AT MOST 1048576: true; the input reads as it did. -/
def imageDiffsUptoRow : OpenClaim := { program := "ythknepamlbicmaa", sum := "9f33897fcaf5064725547845bb641f3089334787d27e74798d01851b156e3a4c", func := "ballast/ballastlaw02.ImageDiffs", spec := "imageDiffs", apart := false, narrowed := true }
def ImageDiffsUptoSaid : Prop := imageDiffsUptoRow.holds Try.pinned (OpenSpec.upto imageDiffsSpec)

/-- 'ballastlaw02.ImagePut', WHERE WHAT IT READS IS OF BULK AT MOST 1048576: true; the input reads as it did. -/
def imagePutUptoRow : OpenClaim := { program := "ythknepamlbicmaa", sum := "9f33897fcaf5064725547845bb641f3089334787d27e74798d01851b156e3a4c", func := "ballast/ballastlaw02.ImagePut", spec := "imagePut", apart := false, narrowed := true }
def ImagePutUptoSaid : Prop := imagePutUptoRow.holds Try.pinned (OpenSpec.upto imagePutSpec)

/-- 'ballastlaw02.ImageDiff', WHERE WHAT IT READS IS OF BULK AT MOST 1048576: true; the input reads as it did. -/
def imageDiffUptoRow : OpenClaim := { program := "ythknepamlbicmaa", sum := "9f33897fcaf5064725547845bb641f3089334787d27e74798d01851b156e3a4c", func := "ballast/ballastlaw02.ImageDiff", spec := "imageDiff", apart := false, narrowed := true }
def ImageDiffUptoSaid : Prop := imageDiffUptoRow.holds Try.pinned (OpenSpec.upto imageDiffSpec)

/-- 'ballastlaw02.ImageLines', WHERE WHAT IT READS IS OF BULK AT MOST 1048576: true; the input reads as it did. -/
def imageLinesUptoRow : OpenClaim := { program := "ythknepamlbicmaa", sum := "9f33897fcaf5064725547845bb641f3089334787d27e74798d01851b156e3a4c", func := "ballast/ballastlaw02.ImageLines", spec := "imageLines", apart := false, narrowed := true }
def ImageLinesUptoSaid : Prop := imageLinesUptoRow.holds Try.pinned (OpenSpec.upto imageLinesSpec)

/-- 'ballastlaw02.ImageGet', WHERE WHAT IT READS IS OF BULK AT MOST 1048576: true; the input reads as it did. -/
def imageGetUptoRow : OpenClaim := { program := "ythknepamlbicmaa", sum := "9f33897fcaf5064725547845bb641f3089334787d27e74798d01851b156e3a4c", func := "ballast/ballastlaw02.ImageGet", spec := "imageGet", apart := false, narrowed := true }
def ImageGetUptoSaid : Prop := imageGetUptoRow.holds Try.pinned (OpenSpec.upto imageGetSpec)

end Rows
end Go.Proofs.Ythknepamlbicmaa
