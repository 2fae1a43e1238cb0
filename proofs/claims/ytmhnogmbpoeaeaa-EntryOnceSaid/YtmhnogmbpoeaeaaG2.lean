/-
  The contracts of the program's functions, data in, data out. Conditions: those in the statements.
-/
import Derived.Test.YtmhnogmbpoeaeaaG1
namespace Go.Proofs.Ytmhnogmbpoeaeaa
set_option linter.all false
open Go Go.Proofs.Ytmhnogmbpoeaeaa.Eng Go.RowKit
noncomputable section

structure Sup where
  w : Int
  t : Int
  deriving DecidableEq
instance : Inhabited Sup := ⟨⟨0, 0⟩⟩
def supC (s : Sup) : List D := [.v (.int .i64 s.w), .v (.int .i64 s.t)]
def supA (s : Sup) : DA := .agg (supC s)
def rSup (s : Sup) : RX := .agg [.c (.v (.int .i64 s.w)), .c (.v (.int .i64 s.t))]
@[irreducible] def supOk (s : Sup) : Bool := sz s.w && decide (0 ≤ s.t) && decide (s.t ≤ 8)
@[irreducible] def supE (s : Sup) : Int := if supOk s then 0 else 8
theorem supOk_iff {s : Sup} : supOk s = true ↔ sz s.w = true ∧ 0 ≤ s.t ∧ s.t ≤ 8 := by
  unfold supOk
  simp only [Bool.and_eq_true, decide_eq_true_eq, and_assoc]
theorem supE_yes {s : Sup} (h : supOk s = true) : supE s = 0 := by unfold supE; rw [if_pos h]
theorem supE_no {s : Sup} (h : ¬ supOk s = true) : supE s = 8 := by unfold supE; rw [if_neg h]
theorem supE_iff {s : Sup} : supE s = 0 ↔ supOk s = true := by
  unfold supE
  split
  · rename_i h; simp [h]
  · rename_i h; simp [h]
theorem supE_8 {s : Sup} (h : ¬ supE s = 0) : supE s = 8 := supE_no fun h2 => h (supE_yes h2)
theorem sup_le {s : Sup} (h : supOk s = true) : 256 ≤ s.w ∧ s.w ≤ 2048 ∧ s.w % 8 = 0 ∧ 0 ≤ s.t ∧ s.t ≤ 8 := by
  have h1 := supOk_iff.1 h
  have h2 := sz_le h1.1
  omega
/-- The words of a superblock, but for the last one; all of them. -/
@[irreducible] def supP (s : Sup) : List Int := [32777959566500194, 1, s.w, s.t, 0, 0, 0]
@[irreducible] def supL (s : Sup) : List Int := supP s ++ [beh 14695981039346656037 (supP s)]
theorem supP_len (s : Sup) : (supP s).length = 7 := by unfold supP; rfl
theorem supL_len (s : Sup) : (supL s).length = 8 := by unfold supL; rw [List.length_append, supP_len]; rfl
theorem supP_U {s : Sup} (h : supOk s = true) : ∀ x ∈ supP s, isU x := by
  have h1 := sup_le h
  unfold supP isU
  intro x hx
  simp only [List.mem_cons, List.not_mem_nil, or_false] at hx
  omega
theorem supL_U {s : Sup} (h : supOk s = true) : ∀ x ∈ supL s, isU x := by
  unfold supL
  intro x hx
  rcases List.mem_append.1 hx with h1 | h1
  · exact supP_U h x h1
  · rw [List.mem_singleton.1 h1]; exact beh_U firstU _
@[irreducible] def supW (s : Sup) : List Int := if supOk s then supL s else []
theorem supW_yes {s : Sup} (h : supOk s = true) : supW s = supL s := by unfold supW; rw [if_pos h]
theorem supW_no {s : Sup} (h : ¬ supOk s = true) : supW s = [] := by unfold supW; rw [if_neg h]
theorem supP_row (s : Sup) : [[D.v (.int .u64 32777959566500194)], [D.v (.int .u64 1)], [D.v (.int .u64 s.w)], [D.v (.int .u64 s.t)], [D.v (.int .u64 0)], [D.v (.int .u64 0)], [D.v (.int .u64 0)]] = (supP s).map (numD .u64) := by unfold supP; rfl
/-- The superblock that stands in words. -/
def supAt (l : List Int) : Sup := ⟨l.getD 2 0, l.getD 3 0⟩
@[irreducible] def readE (l : List Int) : Int := if l.length = 8 then (if supOk (supAt l) = true ∧ supL (supAt l) = l then 0 else 50) else 2
@[irreducible] def readV (l : List Int) : Sup := if readE l = 0 then supAt l else ⟨0, 0⟩
theorem supL_get (s : Sup) : (supL s).getD 2 0 = s.w ∧ (supL s).getD 3 0 = s.t := by unfold supL supP; exact ⟨rfl, rfl⟩
theorem supAt_supL (s : Sup) : supAt (supL s) = s := by
  unfold supAt
  rw [(supL_get s).1, (supL_get s).2]
theorem read_supL {s : Sup} (h : supOk s = true) : readE (supL s) = 0 ∧ readV (supL s) = s := by
  have e : readE (supL s) = 0 := by unfold readE; rw [if_pos (supL_len s), supAt_supL, if_pos ⟨h, rfl⟩]
  refine ⟨e, ?_⟩
  unfold readV
  rw [if_pos e, supAt_supL]
theorem supL_inj {s t : Sup} : supL s = supL t ↔ s = t :=
  ⟨fun h => by rw [← supAt_supL s, h, supAt_supL], fun h => by rw [h]⟩
theorem readE_or (l : List Int) : readE l = 0 ∨ (readE l = 50 ∧ l.length = 8) ∨ (readE l = 2 ∧ ¬ l.length = 8) := by
  unfold readE
  split
  · split
    · exact .inl rfl
    · rename_i h _; exact .inr (.inl ⟨rfl, h⟩)
  · rename_i h; exact .inr (.inr ⟨rfl, h⟩)
theorem readE_is {l : List Int} (h : readE l = 0) : l.length = 8 ∧ supOk (supAt l) = true ∧ supL (supAt l) = l := by
  unfold readE at h
  split at h
  · rename_i h1
    split at h
    · rename_i h2; exact ⟨h1, h2⟩
    · omega
  · omega
theorem readV_0 {l : List Int} (h : readE l = 0) : readV l = supAt l := by unfold readV; rw [if_pos h]
theorem readV_no {l : List Int} (h : ¬ readE l = 0) : readV l = ⟨0, 0⟩ := by unfold readV; rw [if_neg h]
theorem readE_2 {l : List Int} (h : ¬ l.length = 8) : readE l = 2 := by unfold readE; rw [if_neg h]
theorem readE_50 {l : List Int} (h : l.length = 8) (h2 : ¬ (supOk (supAt l) = true ∧ supL (supAt l) = l)) : readE l = 50 := by unfold readE; rw [if_pos h, if_neg h2]
theorem readE_0 {l : List Int} (h : l.length = 8) (h2 : supOk (supAt l) = true) (h3 : supL (supAt l) = l) : readE l = 0 := by unfold readE; rw [if_pos h, if_pos ⟨h2, h3⟩]
theorem sup_wrap {s : Sup} (h : supOk s = true) : IntKind.u64.wrap s.w = s.w ∧ IntKind.u64.wrap s.t = s.t := by
  have h1 := sup_le h
  rw [u64w, u64w]
  omega
theorem readE_x {l : List Int} (h : l.length = 8) (h2 : 1000000 < l.getD 2 0 ∨ 1000000 < l.getD 3 0) : readE l = 50 := readE_50 h fun h3 => by
  have h4 := sup_le h3.1
  simp only [supAt] at h4
  omega
theorem readE_y {l : List Int} (h : l.length = 8) (h2 : ¬ supE (supAt l) = 0) : readE l = 50 := readE_50 h fun h3 => h2 (supE_iff.2 h3.1)
theorem readE_z {l : List Int} (h : l.length = 8) (h2 : ¬ supL (supAt l) = l) : readE l = 50 := readE_50 h fun h3 => h2 h3.2
theorem readV_bad {l : List Int} {e : Int} (h : readE l = e) (h2 : ¬ e = 0) : readV l = ⟨0, 0⟩ := readV_no (by rw [h]; exact h2)
end
end Go.Proofs.Ytmhnogmbpoeaeaa
