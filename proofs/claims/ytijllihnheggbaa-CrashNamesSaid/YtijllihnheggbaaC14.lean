/-
  The contracts of the program's functions, data in, data out. Conditions: those in the statements.
-/
import Derived.Test.YtijllihnheggbaaC13
namespace Go.Proofs.Ytijllihnheggbaa
set_option linter.all false
open Go Go.Proofs.Ytijllihnheggbaa.Eng Go.RowKit
noncomputable section

@[irreducible] def rz (l : List Dty) : Nat := if l.isEmpty then 0 else 3
theorem rz_nil : rz [] = 0 := by unfold rz; rfl
theorem rz_snoc (l : List Dty) (x : Dty) : rz (l ++ [x]) = 3 := by unfold rz; simp
theorem rz_or (l : List Dty) : (rz l = 3 ∨ rz l = 0) = True := by unfold rz; cases l <;> simp
theorem ins_ne (a v : Int) (l : List Dty) : ins a v l ≠ [] := by
  cases l with
  | nil => simp [ins]
  | cons x l => unfold ins; split <;> (try split) <;> simp
theorem stG_step {a v : Int} {p : Bool} {l : List Dty} {i : Nat} (h : i < l.length) : stG a v p (l.drop i) = (if p = false ∧ a ≤ (l.getD i default).at_ then [⟨a, v, false⟩] else []) ++ ((if (l.getD i default).at_ = a then [] else [l.getD i default]) ++ stG a v (p || decide (a ≤ (l.getD i default).at_)) (l.drop (i + 1))) := by
  rw [drop_getD h]; rfl
theorem rz_app (l : List Dty) (x : Dty) (r : List Dty) : rz (l ++ x :: r) = 3 := by unfold rz; simp
theorem rz_of {l : List Dty} (h : l ≠ []) : rz l = 3 := by unfold rz; cases l <;> simp_all
theorem rz_or' (l : List Dty) : rz l = 3 ∨ l = [] := by unfold rz; cases l <;> simp
theorem dty_snoc (l : List Dty) (a v : Int) (f : Bool) : l.map dtyD ++ [[.v (.int .i64 a), .v (.int .u64 v), .v (.bool f)]] = (l ++ [(⟨a, v, f⟩ : Dty)]).map dtyD := by rw [List.map_append]; rfl
end
end Go.Proofs.Ytijllihnheggbaa
