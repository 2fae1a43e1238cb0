/-
  The contracts of the program's functions, data in, data out. Conditions: those in the statements.
-/
import Derived.Test.YtijllihnheggbaaC16
import Derived.Test.YtijllihnheggbaaI1
namespace Go.Proofs.Ytijllihnheggbaa
set_option linter.all false
open Go Go.Proofs.Ytijllihnheggbaa.Eng Go.RowKit
noncomputable section


theorem flatD_dty (l : List Dty) : ∀ e ∈ l.map dtyD, ∀ d ∈ e, DFlat d := by
  intro e he d hd
  obtain ⟨x, _, rfl⟩ := List.mem_map.1 he
  simp only [dtyD, List.mem_cons, List.not_mem_nil, or_false] at hd
  rcases hd with rfl | rfl | rfl <;> trivial
theorem flatD_num (k : IntKind) (l : List Int) : ∀ e ∈ l.map (numD k), ∀ d ∈ e, DFlat d := by
  intro e he d hd
  obtain ⟨x, _, rfl⟩ := List.mem_map.1 he
  simp only [numD, List.mem_cons, List.not_mem_nil, or_false] at hd
  subst hd
  trivial
theorem flat_devX (d : Dev) : RXFlat (rDev d) := by
  intro c hc
  simp only [List.mem_cons, List.not_mem_nil, or_false] at hc
  rcases hc with rfl | rfl | rfl | rfl
  · exact flatD_num _ _
  · exact flatD_dty _
  · trivial
  · trivial
theorem flat_dev1 (d : Dev) : Flat [rDev d] := by
  intro x hx
  simp only [List.mem_cons, List.not_mem_nil, or_false] at hx
  subst hx
  exact flat_devX d
theorem flat_dev2 (d : Dev) (k : IntKind) (n : Int) : Flat [rDev d, rN k n] := by
  intro x hx
  simp only [List.mem_cons, List.not_mem_nil, or_false] at hx
  rcases hx with rfl | rfl
  · exact flat_devX d
  · trivial
theorem flat_img2 (l : List Int) (k : IntKind) (n : Int) : Flat [rO .u64 l, rN k n] := by
  intro x hx
  simp only [List.mem_cons, List.not_mem_nil, or_false] at hx
  rcases hx with rfl | rfl
  · exact flatD_num _ _
  · trivial
theorem storeX_len (d : Dev) (a v : Int) : (storeX d a v).img.length ≤ d.img.length ∧ (storeX d a v).dirty.length ≤ d.dirty.length + 1 := by
  unfold storeX
  split
  · rename_i h
    rw [(chkD_store h).2]
    exact ⟨Nat.le_refl _, storeD_len d a v⟩
  · exact ⟨Nat.zero_le _, Nat.zero_le _⟩
theorem flushX_len (d : Dev) (a : Int) : (flushX d a).img.length ≤ d.img.length ∧ (flushX d a).dirty.length ≤ d.dirty.length := by
  unfold flushX
  split
  · rename_i h
    rw [(chkD_flush a (asked_chk h).1).2, flushD_len]
    exact ⟨Nat.le_refl _, Nat.le_refl _⟩
  · exact ⟨Nat.zero_le _, Nat.zero_le _⟩
theorem fenceX_len (d : Dev) : (fenceX d).img.length ≤ d.img.length ∧ (fenceX d).dirty.length ≤ d.dirty.length := by
  unfold fenceX
  split
  · rename_i h
    rw [(chkD_fence h).2]
    exact ⟨Nat.le_refl _, fenceD_len d⟩
  · exact ⟨Nat.zero_le _, Nat.zero_le _⟩
theorem newX_len (m : List Int) : (newX m).img.length ≤ m.length ∧ (newX m).dirty.length = 0 := by
  unfold newX
  split <;> simp [zDev]
theorem devA_eta (d : Dev) : (.agg [.sl 1 (d.img.map (numD .u64)), .sl 3 (d.dirty.map dtyD), .v (.int .i64 d.left), .v (.bool d.down)] : DA) = devA d := rfl
end
end Go.Proofs.Ytijllihnheggbaa
