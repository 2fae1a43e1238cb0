/-
  The contracts of the program's functions, data in, data out. Conditions: those in the statements.
-/
import Derived.Test.YtacooafifeakkaaF3
import Derived.Test.YtacooafifeakkaaI1
namespace Go.Proofs.Ytacooafifeakkaa
set_option linter.all false
open Go Go.Proofs.Ytacooafifeakkaa.Eng Go.RowKit
noncomputable section
theorem k_alive5 : Con Try.prog 12 [] [rB true] := runCon (P := Try.prog) (by kernel_rfl) (noPrim_ok _) (lim := 5000) (n := 40) (f := 12) (ds := []) (r := [rB true]) (by kernel_rfl)
end
end Go.Proofs.Ytacooafifeakkaa
