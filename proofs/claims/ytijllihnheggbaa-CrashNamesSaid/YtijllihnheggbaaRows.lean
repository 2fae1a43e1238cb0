/-
  No cell of these rows narrows 'for every input' (looked for: loops, veiled, ifaces, maps, wideKeys, modest, calm, conditions, laid).
  DERIVED. THE GIVEN ROWS OF THIS SEAT. 6 by the template 'for every input the law returns true; each argument reads behind the call as it read before'; 0 by the template 'total and deterministic' (their statements: YtijllihnheggbaaTotals.lean).
  GIVEN WITH THE SEED: the statements are not yours to turn. If you find one false, say at which input.
  Laid BY PROGRAM, IN A SANDBOX (cutbox-rows.mjs): the forced cells as the released guide's own fill.sh prints them over the translation e7e0ca0c993fd99d… (all of the seat's roots in one cut). By AI agents, Wed Nov 11 2026. No macro, syntax, notation, axiom, sorry.
-/
import Derived.Test.YtijllihnheggbaaChecked
import GoSem.Claim
import GoSem.ClaimJoined
import GoSem.ClaimMapViews
import Derived.JoinedTies
import Derived.KernelRfl
namespace Go.Proofs.Ytijllihnheggbaa
/- THE CELL 'sum', in the pinned program and in every row, IS THE sha256 OF THE DUMP (.gsa) THAT YtijllihnheggbaaProg.lean LOADS. Nothing in Lean hashes anything: it is a label: what it is worth is what the hold of that sum in a sandbox is worth. -/
noncomputable def Try.pinned : Pinned := { name := "ytijllihnheggbaa", sum := "e7e0ca0c993fd99de442994e64b993bfaf091bd2ee809268c81528af45700834", checked := Try.checked }
namespace Rows
def none {H : Type} : Left H := { results := [], args := [] }

/-- 'ballastlaw04.CrashNames': WHATEVER THE INPUT: true; the input reads as it did. -/
def crashNamesSpec : ChangeSpec := { name := "crashNames", fn := fun _ => fun
  | [] => { results := [.lit (.bool true)], args := [] }
  | _ => none }
def crashNamesRow : OpenClaim := { program := "ytijllihnheggbaa", sum := "e7e0ca0c993fd99de442994e64b993bfaf091bd2ee809268c81528af45700834", func := "ballast/ballastlaw04.CrashNames", spec := "crashNames", unfollowed := true, recurses := true, apart := false }
def CrashNamesSaid : Prop := crashNamesRow.holds Try.pinned (OpenSpec.ofChange crashNamesSpec)

/-- ITS FALSE NEIGHBOUR: 'it returns false'. Refute it at one input. -/
def crashNamesWrong : ChangeSpec := { name := "crashNames", fn := fun _ => fun
  | [] => { results := [.lit (.bool false)], args := [] }
  | _ => none }
def CrashNamesWrongFalsely : Prop := crashNamesRow.holds Try.pinned (OpenSpec.ofChange crashNamesWrong)

/-- 'ballastlaw04.CrashTells': WHATEVER THE INPUT: true; the input reads as it did. -/
def crashTellsSpec : ChangeSpec := { name := "crashTells", fn := fun _ => fun
  | [d1, d2, d3] => { results := [.lit (.bool true)], args := [d1, d2, d3] }
  | _ => none }
def crashTellsRow : OpenClaim := { program := "ytijllihnheggbaa", sum := "e7e0ca0c993fd99de442994e64b993bfaf091bd2ee809268c81528af45700834", func := "ballast/ballastlaw04.CrashTells", spec := "crashTells", unfollowed := true, recurses := true, apart := false }
def CrashTellsSaid : Prop := crashTellsRow.holds Try.pinned (OpenSpec.ofChange crashTellsSpec)

/-- ITS FALSE NEIGHBOUR: 'it returns false'. Refute it at one input. -/
def crashTellsWrong : ChangeSpec := { name := "crashTells", fn := fun _ => fun
  | [d1, d2, d3] => { results := [.lit (.bool false)], args := [d1, d2, d3] }
  | _ => none }
def CrashTellsWrongFalsely : Prop := crashTellsRow.holds Try.pinned (OpenSpec.ofChange crashTellsWrong)

/-- 'ballastlaw04.CrashWords': WHATEVER THE INPUT: true; the input reads as it did. -/
def crashWordsSpec : ChangeSpec := { name := "crashWords", fn := fun _ => fun
  | [d1, d2] => { results := [.lit (.bool true)], args := [d1, d2] }
  | _ => none }
def crashWordsRow : OpenClaim := { program := "ytijllihnheggbaa", sum := "e7e0ca0c993fd99de442994e64b993bfaf091bd2ee809268c81528af45700834", func := "ballast/ballastlaw04.CrashWords", spec := "crashWords", unfollowed := true, recurses := true, apart := false }
def CrashWordsSaid : Prop := crashWordsRow.holds Try.pinned (OpenSpec.ofChange crashWordsSpec)

/-- ITS FALSE NEIGHBOUR: 'it returns false'. Refute it at one input. -/
def crashWordsWrong : ChangeSpec := { name := "crashWords", fn := fun _ => fun
  | [d1, d2] => { results := [.lit (.bool false)], args := [d1, d2] }
  | _ => none }
def CrashWordsWrongFalsely : Prop := crashWordsRow.holds Try.pinned (OpenSpec.ofChange crashWordsWrong)

/-- 'ballastlaw04.CrashEnds': WHATEVER THE INPUT: true; the input reads as it did. -/
def crashEndsSpec : ChangeSpec := { name := "crashEnds", fn := fun _ => fun
  | [d1, d2, d3] => { results := [.lit (.bool true)], args := [d1, d2, d3] }
  | _ => none }
def crashEndsRow : OpenClaim := { program := "ytijllihnheggbaa", sum := "e7e0ca0c993fd99de442994e64b993bfaf091bd2ee809268c81528af45700834", func := "ballast/ballastlaw04.CrashEnds", spec := "crashEnds", unfollowed := true, recurses := true, apart := false }
def CrashEndsSaid : Prop := crashEndsRow.holds Try.pinned (OpenSpec.ofChange crashEndsSpec)

/-- ITS FALSE NEIGHBOUR: 'it returns false'. Refute it at one input. -/
def crashEndsWrong : ChangeSpec := { name := "crashEnds", fn := fun _ => fun
  | [d1, d2, d3] => { results := [.lit (.bool false)], args := [d1, d2, d3] }
  | _ => none }
def CrashEndsWrongFalsely : Prop := crashEndsRow.holds Try.pinned (OpenSpec.ofChange crashEndsWrong)

/-- 'ballastlaw04.CrashFenced': WHATEVER THE INPUT: true; the input reads as it did. -/
def crashFencedSpec : ChangeSpec := { name := "crashFenced", fn := fun _ => fun
  | [d1, d2, d3, d4, d5] => { results := [.lit (.bool true)], args := [d1, d2, d3, d4, d5] }
  | _ => none }
def crashFencedRow : OpenClaim := { program := "ytijllihnheggbaa", sum := "e7e0ca0c993fd99de442994e64b993bfaf091bd2ee809268c81528af45700834", func := "ballast/ballastlaw04.CrashFenced", spec := "crashFenced", inPlace := ["slices.overlaps[ballast/api.Dirty]"], unfollowed := true, recurses := true, apart := false }
def CrashFencedSaid : Prop := crashFencedRow.holds Try.pinned (OpenSpec.ofChange crashFencedSpec)

/-- ITS FALSE NEIGHBOUR: 'it returns false'. Refute it at one input. -/
def crashFencedWrong : ChangeSpec := { name := "crashFenced", fn := fun _ => fun
  | [d1, d2, d3, d4, d5] => { results := [.lit (.bool false)], args := [d1, d2, d3, d4, d5] }
  | _ => none }
def CrashFencedWrongFalsely : Prop := crashFencedRow.holds Try.pinned (OpenSpec.ofChange crashFencedWrong)

/-- 'ballastlaw04.CrashMasks': WHATEVER THE INPUT: true; the input reads as it did. -/
def crashMasksSpec : ChangeSpec := { name := "crashMasks", fn := fun _ => fun
  | [d1, d2, d3, d4] => { results := [.lit (.bool true)], args := [d1, d2, d3, d4] }
  | _ => none }
def crashMasksRow : OpenClaim := { program := "ytijllihnheggbaa", sum := "e7e0ca0c993fd99de442994e64b993bfaf091bd2ee809268c81528af45700834", func := "ballast/ballastlaw04.CrashMasks", spec := "crashMasks", unfollowed := true, recurses := true, apart := false }
def CrashMasksSaid : Prop := crashMasksRow.holds Try.pinned (OpenSpec.ofChange crashMasksSpec)

/-- ITS FALSE NEIGHBOUR: 'it returns false'. Refute it at one input. -/
def crashMasksWrong : ChangeSpec := { name := "crashMasks", fn := fun _ => fun
  | [d1, d2, d3, d4] => { results := [.lit (.bool false)], args := [d1, d2, d3, d4] }
  | _ => none }
def CrashMasksWrongFalsely : Prop := crashMasksRow.holds Try.pinned (OpenSpec.ofChange crashMasksWrong)

/- THE SECOND FORM. 'bulk': how many values and letters a reading holds, each counted each time it is reached (what is shared counts as often as it is met; a slice's spare places count too). A statement '..UptoSaid' is the law's where the arguments, and the package variables that the reading takes, are together of bulk at most 1048576: NARROWER than '..Said'. Prove '..Said' where nothing that the law and all that it calls make is longer than what came in: it says more and counts as full. Else prove '..UptoSaid'. A law counts once. -/
mutual
def uptoBulk {H : Type} : DataW H → Nat
  | .lit (.string bytes) => bytes.length + 1
  | .lit _ => 1
  | .nil => 1
  | .ptr d => uptoBulk d + 1
  | .slice elems spare => uptoBulkAll elems + uptoBulkAll spare + 1
  | .agg parts => uptoBulkAll parts + 1
  | .iface _ d => uptoBulk d + 1
  | .map entries => uptoBulkEntries entries + 1
  | .held _ => 1
def uptoBulkAll {H : Type} : List (DataW H) → Nat
  | [] => 0
  | d :: r => uptoBulk d + uptoBulkAll r
def uptoBulkEntries {H : Type} : List (Lit × DataW H) → Nat
  | [] => 0
  | x :: r => uptoBulkEntry x + uptoBulkEntries r
def uptoBulkEntry {H : Type} : Lit × DataW H → Nat
  | (.string bytes, d) => bytes.length + uptoBulk d + 1
  | (_, d) => uptoBulk d + 1
 end
def uptoSmall : (H : Type) → List (DataW H) → Bool := fun _ ds => decide (uptoBulkAll ds ≤ 1048576)
def OpenSpec.upto (s : _root_.Go.ChangeSpec) : _root_.Go.OpenSpec := { _root_.Go.OpenSpec.ofChange s with cond := some uptoSmall }

/-- 'ballastlaw04.CrashNames', WHERE WHAT IT READS IS OF BULK AT MOST 1048576: true; the input reads as it did. -/
def crashNamesUptoRow : OpenClaim := { program := "ytijllihnheggbaa", sum := "e7e0ca0c993fd99de442994e64b993bfaf091bd2ee809268c81528af45700834", func := "ballast/ballastlaw04.CrashNames", spec := "crashNames", unfollowed := true, recurses := true, apart := false, narrowed := true }
def CrashNamesUptoSaid : Prop := crashNamesUptoRow.holds Try.pinned (OpenSpec.upto crashNamesSpec)

/-- 'ballastlaw04.CrashTells', WHERE WHAT IT READS IS OF BULK AT MOST 1048576: true; the input reads as it did. -/
def crashTellsUptoRow : OpenClaim := { program := "ytijllihnheggbaa", sum := "e7e0ca0c993fd99de442994e64b993bfaf091bd2ee809268c81528af45700834", func := "ballast/ballastlaw04.CrashTells", spec := "crashTells", unfollowed := true, recurses := true, apart := false, narrowed := true }
def CrashTellsUptoSaid : Prop := crashTellsUptoRow.holds Try.pinned (OpenSpec.upto crashTellsSpec)

/-- 'ballastlaw04.CrashWords', WHERE WHAT IT READS IS OF BULK AT MOST 1048576: true; the input reads as it did. -/
def crashWordsUptoRow : OpenClaim := { program := "ytijllihnheggbaa", sum := "e7e0ca0c993fd99de442994e64b993bfaf091bd2ee809268c81528af45700834", func := "ballast/ballastlaw04.CrashWords", spec := "crashWords", unfollowed := true, recurses := true, apart := false, narrowed := true }
def CrashWordsUptoSaid : Prop := crashWordsUptoRow.holds Try.pinned (OpenSpec.upto crashWordsSpec)

/-- 'ballastlaw04.CrashEnds', WHERE WHAT IT READS IS OF BULK AT MOST 1048576: true; the input reads as it did. -/
def crashEndsUptoRow : OpenClaim := { program := "ytijllihnheggbaa", sum := "e7e0ca0c993fd99de442994e64b993bfaf091bd2ee809268c81528af45700834", func := "ballast/ballastlaw04.CrashEnds", spec := "crashEnds", unfollowed := true, recurses := true, apart := false, narrowed := true }
def CrashEndsUptoSaid : Prop := crashEndsUptoRow.holds Try.pinned (OpenSpec.upto crashEndsSpec)

/-- 'ballastlaw04.CrashFenced', WHERE WHAT IT READS IS OF BULK AT MOST 1048576: true; the input reads as it did. -/
def crashFencedUptoRow : OpenClaim := { program := "ytijllihnheggbaa", sum := "e7e0ca0c993fd99de442994e64b993bfaf091bd2ee809268c81528af45700834", func := "ballast/ballastlaw04.CrashFenced", spec := "crashFenced", inPlace := ["slices.overlaps[ballast/api.Dirty]"], unfollowed := true, recurses := true, apart := false, narrowed := true }
def CrashFencedUptoSaid : Prop := crashFencedUptoRow.holds Try.pinned (OpenSpec.upto crashFencedSpec)

/-- 'ballastlaw04.CrashMasks', WHERE WHAT IT READS IS OF BULK AT MOST 1048576: true; the input reads as it did. -/
def crashMasksUptoRow : OpenClaim := { program := "ytijllihnheggbaa", sum := "e7e0ca0c993fd99de442994e64b993bfaf091bd2ee809268c81528af45700834", func := "ballast/ballastlaw04.CrashMasks", spec := "crashMasks", unfollowed := true, recurses := true, apart := false, narrowed := true }
def CrashMasksUptoSaid : Prop := crashMasksUptoRow.holds Try.pinned (OpenSpec.upto crashMasksSpec)

end Rows
end Go.Proofs.Ytijllihnheggbaa
