/-
  The contracts of the program's functions, data in, data out. Conditions: those in the statements.
-/
import Derived.Test.YtnkakhmmlgkbgaaG6
namespace Go.Proofs.Ytnkakhmmlgkbgaa
set_option linter.all false
open Go Go.Proofs.Ytnkakhmmlgkbgaa.Eng Go.RowKit
noncomputable section
theorem hd8 : decide ((8 : Int) = 0) = false := rfl
theorem bad0 : ¬ supOk ⟨0, 0⟩ = true := by unfold supOk sz; decide
theorem be0 : supE ⟨0, 0⟩ = 8 := supE_no bad0
theorem bw0 : supW ⟨0, 0⟩ = [] := supW_no bad0
theorem bad1 : ¬ supOk ⟨248, 0⟩ = true := by unfold supOk sz; decide
theorem be1 : supE ⟨248, 0⟩ = 8 := supE_no bad1
theorem bw1 : supW ⟨248, 0⟩ = [] := supW_no bad1
theorem bad2 : ¬ supOk ⟨2056, 0⟩ = true := by unfold supOk sz; decide
theorem be2 : supE ⟨2056, 0⟩ = 8 := supE_no bad2
theorem bw2 : supW ⟨2056, 0⟩ = [] := supW_no bad2
theorem bad3 : ¬ supOk ⟨257, 0⟩ = true := by unfold supOk sz; decide
theorem be3 : supE ⟨257, 0⟩ = 8 := supE_no bad3
theorem bw3 : supW ⟨257, 0⟩ = [] := supW_no bad3
theorem bad4 : ¬ supOk ⟨256, -1⟩ = true := by unfold supOk sz; decide
theorem be4 : supE ⟨256, -1⟩ = 8 := supE_no bad4
theorem bw4 : supW ⟨256, -1⟩ = [] := supW_no bad4
theorem bad5 : ¬ supOk ⟨256, 9⟩ = true := by unfold supOk sz; decide
theorem be5 : supE ⟨256, 9⟩ = 8 := supE_no bad5
theorem bw5 : supW ⟨256, 9⟩ = [] := supW_no bad5
theorem bad6 : ¬ supOk ⟨-256, 0⟩ = true := by unfold supOk sz; decide
theorem be6 : supE ⟨-256, 0⟩ = 8 := supE_no bad6
theorem bw6 : supW ⟨-256, 0⟩ = [] := supW_no bad6
theorem le7 {k : Nat} (h : k ≤ 7) : k = 0 ∨ k = 1 ∨ k = 2 ∨ k = 3 ∨ k = 4 ∨ k = 5 ∨ k = 6 ∨ k = 7 := by omega
theorem no_read {a b c d e f g y : Int} (h : ¬ (a = 32777959566500194 ∧ b = 1 ∧ e = 0 ∧ f = 0 ∧ g = 0 ∧ supOk ⟨c, d⟩ = true)) : readE [a, b, c, d, e, f, g, y] = 50 := by
  refine readE_50 rfl fun hh => h ?_
  have h2 := hh.2
  have h3 : supAt [a, b, c, d, e, f, g, y] = ⟨c, d⟩ := rfl
  rw [h3] at h2 hh
  unfold supL supP at h2
  simp only [List.cons_append, List.nil_append, List.cons.injEq] at h2
  exact ⟨h2.1.symm, h2.2.1.symm, h2.2.2.2.2.1.symm, h2.2.2.2.2.2.1.symm, h2.2.2.2.2.2.2.1.symm, hh.1⟩
theorem dl0 : decide (((0 : Nat) : Int) < ((7 : Nat) : Int)) = true := rfl
theorem dm0 : decide (((0 : Nat) : Int) < ((8 : Nat) : Int)) = true := rfl
theorem dl1 : decide (((1 : Nat) : Int) < ((7 : Nat) : Int)) = true := rfl
theorem dm1 : decide (((1 : Nat) : Int) < ((8 : Nat) : Int)) = true := rfl
theorem dl2 : decide (((2 : Nat) : Int) < ((7 : Nat) : Int)) = true := rfl
theorem dm2 : decide (((2 : Nat) : Int) < ((8 : Nat) : Int)) = true := rfl
theorem dl3 : decide (((3 : Nat) : Int) < ((7 : Nat) : Int)) = true := rfl
theorem dm3 : decide (((3 : Nat) : Int) < ((8 : Nat) : Int)) = true := rfl
theorem dl4 : decide (((4 : Nat) : Int) < ((7 : Nat) : Int)) = true := rfl
theorem dm4 : decide (((4 : Nat) : Int) < ((8 : Nat) : Int)) = true := rfl
theorem dl5 : decide (((5 : Nat) : Int) < ((7 : Nat) : Int)) = true := rfl
theorem dm5 : decide (((5 : Nat) : Int) < ((8 : Nat) : Int)) = true := rfl
theorem dl6 : decide (((6 : Nat) : Int) < ((7 : Nat) : Int)) = true := rfl
theorem dm6 : decide (((6 : Nat) : Int) < ((8 : Nat) : Int)) = true := rfl
theorem dl7 : decide (((7 : Nat) : Int) < ((7 : Nat) : Int)) = false := rfl
theorem dm7 : decide (((7 : Nat) : Int) < ((8 : Nat) : Int)) = true := rfl
theorem dl8 : decide (((8 : Nat) : Int) < ((7 : Nat) : Int)) = false := rfl
theorem dm8 : decide (((8 : Nat) : Int) < ((8 : Nat) : Int)) = false := rfl
@[irreducible] def lq0 : List Int := [32777959566500194, 1, 248, 0, 0, 0, 0]
theorem lq0_row : [[D.v (.int .u64 32777959566500194)], [D.v (.int .u64 1)], [D.v (.int .u64 248)], [D.v (.int .u64 0)], [D.v (.int .u64 0)], [D.v (.int .u64 0)], [D.v (.int .u64 0)]] = lq0.map (numD .u64) := by unfold lq0; rfl
theorem lq0_len : lq0.length = 7 := by unfold lq0; rfl
theorem lq0_U : ∀ x ∈ lq0, isU x := by unfold lq0 isU; decide
theorem lq0_E : nextE lq0 = 0 := nextE_yes (by rw [lq0_len]; omega)
theorem lq0_R : readE (lq0 ++ [nextV 14695981039346656037 lq0]) = 50 := by
  generalize nextV 14695981039346656037 lq0 = y
  unfold lq0
  exact no_read (by unfold supOk sz; decide)
theorem lq0_A : ∀ x ∈ lq0 ++ [nextV 14695981039346656037 lq0], isU x := fun x hx => by
  rcases List.mem_append.1 hx with h | h
  · exact lq0_U x h
  · rw [List.mem_singleton.1 h]; exact nextV_U firstU _
@[irreducible] def lq1 : List Int := [32777959566500194, 1, 256, 9, 0, 0, 0]
theorem lq1_row : [[D.v (.int .u64 32777959566500194)], [D.v (.int .u64 1)], [D.v (.int .u64 256)], [D.v (.int .u64 9)], [D.v (.int .u64 0)], [D.v (.int .u64 0)], [D.v (.int .u64 0)]] = lq1.map (numD .u64) := by unfold lq1; rfl
theorem lq1_len : lq1.length = 7 := by unfold lq1; rfl
theorem lq1_U : ∀ x ∈ lq1, isU x := by unfold lq1 isU; decide
theorem lq1_E : nextE lq1 = 0 := nextE_yes (by rw [lq1_len]; omega)
theorem lq1_R : readE (lq1 ++ [nextV 14695981039346656037 lq1]) = 50 := by
  generalize nextV 14695981039346656037 lq1 = y
  unfold lq1
  exact no_read (by unfold supOk sz; decide)
theorem lq1_A : ∀ x ∈ lq1 ++ [nextV 14695981039346656037 lq1], isU x := fun x hx => by
  rcases List.mem_append.1 hx with h | h
  · exact lq1_U x h
  · rw [List.mem_singleton.1 h]; exact nextV_U firstU _
@[irreducible] def lq2 : List Int := [32777959566500194, 2, 256, 0, 0, 0, 0]
theorem lq2_row : [[D.v (.int .u64 32777959566500194)], [D.v (.int .u64 2)], [D.v (.int .u64 256)], [D.v (.int .u64 0)], [D.v (.int .u64 0)], [D.v (.int .u64 0)], [D.v (.int .u64 0)]] = lq2.map (numD .u64) := by unfold lq2; rfl
theorem lq2_len : lq2.length = 7 := by unfold lq2; rfl
theorem lq2_U : ∀ x ∈ lq2, isU x := by unfold lq2 isU; decide
theorem lq2_E : nextE lq2 = 0 := nextE_yes (by rw [lq2_len]; omega)
theorem lq2_R : readE (lq2 ++ [nextV 14695981039346656037 lq2]) = 50 := by
  generalize nextV 14695981039346656037 lq2 = y
  unfold lq2
  exact no_read (by decide)
theorem lq2_A : ∀ x ∈ lq2 ++ [nextV 14695981039346656037 lq2], isU x := fun x hx => by
  rcases List.mem_append.1 hx with h | h
  · exact lq2_U x h
  · rw [List.mem_singleton.1 h]; exact nextV_U firstU _
@[irreducible] def lq3 : List Int := [32777959566500195, 1, 256, 0, 0, 0, 0]
theorem lq3_row : [[D.v (.int .u64 32777959566500195)], [D.v (.int .u64 1)], [D.v (.int .u64 256)], [D.v (.int .u64 0)], [D.v (.int .u64 0)], [D.v (.int .u64 0)], [D.v (.int .u64 0)]] = lq3.map (numD .u64) := by unfold lq3; rfl
theorem lq3_len : lq3.length = 7 := by unfold lq3; rfl
theorem lq3_U : ∀ x ∈ lq3, isU x := by unfold lq3 isU; decide
theorem lq3_E : nextE lq3 = 0 := nextE_yes (by rw [lq3_len]; omega)
theorem lq3_R : readE (lq3 ++ [nextV 14695981039346656037 lq3]) = 50 := by
  generalize nextV 14695981039346656037 lq3 = y
  unfold lq3
  exact no_read (by decide)
theorem lq3_A : ∀ x ∈ lq3 ++ [nextV 14695981039346656037 lq3], isU x := fun x hx => by
  rcases List.mem_append.1 hx with h | h
  · exact lq3_U x h
  · rw [List.mem_singleton.1 h]; exact nextV_U firstU _
@[irreducible] def lq4 : List Int := [32777959566500194, 1, 256, 0, 1, 0, 0]
theorem lq4_row : [[D.v (.int .u64 32777959566500194)], [D.v (.int .u64 1)], [D.v (.int .u64 256)], [D.v (.int .u64 0)], [D.v (.int .u64 1)], [D.v (.int .u64 0)], [D.v (.int .u64 0)]] = lq4.map (numD .u64) := by unfold lq4; rfl
theorem lq4_len : lq4.length = 7 := by unfold lq4; rfl
theorem lq4_U : ∀ x ∈ lq4, isU x := by unfold lq4 isU; decide
theorem lq4_E : nextE lq4 = 0 := nextE_yes (by rw [lq4_len]; omega)
theorem lq4_R : readE (lq4 ++ [nextV 14695981039346656037 lq4]) = 50 := by
  generalize nextV 14695981039346656037 lq4 = y
  unfold lq4
  exact no_read (by decide)
theorem lq4_A : ∀ x ∈ lq4 ++ [nextV 14695981039346656037 lq4], isU x := fun x hx => by
  rcases List.mem_append.1 hx with h | h
  · exact lq4_U x h
  · rw [List.mem_singleton.1 h]; exact nextV_U firstU _
@[irreducible] def lq5 : List Int := [32777959566500194, 1, 256, 0, 0, 0, 1]
theorem lq5_row : [[D.v (.int .u64 32777959566500194)], [D.v (.int .u64 1)], [D.v (.int .u64 256)], [D.v (.int .u64 0)], [D.v (.int .u64 0)], [D.v (.int .u64 0)], [D.v (.int .u64 1)]] = lq5.map (numD .u64) := by unfold lq5; rfl
theorem lq5_len : lq5.length = 7 := by unfold lq5; rfl
theorem lq5_U : ∀ x ∈ lq5, isU x := by unfold lq5 isU; decide
theorem lq5_E : nextE lq5 = 0 := nextE_yes (by rw [lq5_len]; omega)
theorem lq5_R : readE (lq5 ++ [nextV 14695981039346656037 lq5]) = 50 := by
  generalize nextV 14695981039346656037 lq5 = y
  unfold lq5
  exact no_read (by decide)
theorem lq5_A : ∀ x ∈ lq5 ++ [nextV 14695981039346656037 lq5], isU x := fun x hx => by
  rcases List.mem_append.1 hx with h | h
  · exact lq5_U x h
  · rw [List.mem_singleton.1 h]; exact nextV_U firstU _
@[irreducible] def lq6 : List Int := [32777959566500194, 1, 4294967552, 0, 0, 0, 0]
theorem lq6_row : [[D.v (.int .u64 32777959566500194)], [D.v (.int .u64 1)], [D.v (.int .u64 4294967552)], [D.v (.int .u64 0)], [D.v (.int .u64 0)], [D.v (.int .u64 0)], [D.v (.int .u64 0)]] = lq6.map (numD .u64) := by unfold lq6; rfl
theorem lq6_len : lq6.length = 7 := by unfold lq6; rfl
theorem lq6_U : ∀ x ∈ lq6, isU x := by unfold lq6 isU; decide
theorem lq6_E : nextE lq6 = 0 := nextE_yes (by rw [lq6_len]; omega)
theorem lq6_R : readE (lq6 ++ [nextV 14695981039346656037 lq6]) = 50 := by
  generalize nextV 14695981039346656037 lq6 = y
  unfold lq6
  exact no_read (by unfold supOk sz; decide)
theorem lq6_A : ∀ x ∈ lq6 ++ [nextV 14695981039346656037 lq6], isU x := fun x hx => by
  rcases List.mem_append.1 hx with h | h
  · exact lq6_U x h
  · rw [List.mem_singleton.1 h]; exact nextV_U firstU _
@[irreducible] def lq7 : List Int := [32777959566500194, 1, 256, 9223372036854775808, 0, 0, 0]
theorem lq7_row : [[D.v (.int .u64 32777959566500194)], [D.v (.int .u64 1)], [D.v (.int .u64 256)], [D.v (.int .u64 9223372036854775808)], [D.v (.int .u64 0)], [D.v (.int .u64 0)], [D.v (.int .u64 0)]] = lq7.map (numD .u64) := by unfold lq7; rfl
theorem lq7_len : lq7.length = 7 := by unfold lq7; rfl
theorem lq7_U : ∀ x ∈ lq7, isU x := by unfold lq7 isU; decide
theorem lq7_E : nextE lq7 = 0 := nextE_yes (by rw [lq7_len]; omega)
theorem lq7_R : readE (lq7 ++ [nextV 14695981039346656037 lq7]) = 50 := by
  generalize nextV 14695981039346656037 lq7 = y
  unfold lq7
  exact no_read (by unfold supOk sz; decide)
theorem lq7_A : ∀ x ∈ lq7 ++ [nextV 14695981039346656037 lq7], isU x := fun x hx => by
  rcases List.mem_append.1 hx with h | h
  · exact lq7_U x h
  · rw [List.mem_singleton.1 h]; exact nextV_U firstU _
@[irreducible] def lz7 : List Int := [0, 0, 0, 0, 0, 0, 0]
theorem lz7_row : [[D.v (.int .u64 0)], [D.v (.int .u64 0)], [D.v (.int .u64 0)], [D.v (.int .u64 0)], [D.v (.int .u64 0)], [D.v (.int .u64 0)], [D.v (.int .u64 0)]] = lz7.map (numD .u64) := by unfold lz7; rfl
theorem lz7_len : lz7.length = 7 := by unfold lz7; rfl
theorem lz7_U : ∀ x ∈ lz7, isU x := by unfold lz7 isU; decide
theorem lz7_R : readE lz7 = 2 := readE_2 (by rw [lz7_len]; omega)
@[irreducible] def lz8 : List Int := [0, 0, 0, 0, 0, 0, 0, 0]
theorem lz8_row : [[D.v (.int .u64 0)], [D.v (.int .u64 0)], [D.v (.int .u64 0)], [D.v (.int .u64 0)], [D.v (.int .u64 0)], [D.v (.int .u64 0)], [D.v (.int .u64 0)], [D.v (.int .u64 0)]] = lz8.map (numD .u64) := by unfold lz8; rfl
theorem lz8_len : lz8.length = 8 := by unfold lz8; rfl
theorem lz8_U : ∀ x ∈ lz8, isU x := by unfold lz8 isU; decide
theorem lz8_R : readE lz8 = 50 := by unfold lz8; exact no_read (by decide)
@[irreducible] def lz9 : List Int := [0, 0, 0, 0, 0, 0, 0, 0, 0]
theorem lz9_row : [[D.v (.int .u64 0)], [D.v (.int .u64 0)], [D.v (.int .u64 0)], [D.v (.int .u64 0)], [D.v (.int .u64 0)], [D.v (.int .u64 0)], [D.v (.int .u64 0)], [D.v (.int .u64 0)], [D.v (.int .u64 0)]] = lz9.map (numD .u64) := by unfold lz9; rfl
theorem lz9_len : lz9.length = 9 := by unfold lz9; rfl
theorem lz9_U : ∀ x ∈ lz9, isU x := by unfold lz9 isU; decide
theorem lz9_R : readE lz9 = 2 := readE_2 (by rw [lz9_len]; omega)
theorem lzn_R : readE [] = 2 := readE_2 (by decide)
theorem lzn_U : ∀ x ∈ ([] : List Int), isU x := by intro x hx; cases hx
def sq : Sup := ⟨2048, 8⟩
theorem sq_ok : supOk ⟨2048, 8⟩ = true := by unfold supOk sz; decide
theorem sq_E : supE ⟨2048, 8⟩ = 0 := supE_yes sq_ok
theorem sq_W : supW ⟨2048, 8⟩ = supL ⟨2048, 8⟩ := supW_yes sq_ok
theorem sq_R : readE (supL ⟨2048, 8⟩) = 0 := (read_supL sq_ok).1
theorem sq_V : readV (supL ⟨2048, 8⟩) = ⟨2048, 8⟩ := (read_supL sq_ok).2
theorem hd250 : decide ((2 : Int) = 2) = true := rfl
theorem lz8_r2 : [D.v (.int .u64 0)] :: lz7.map (numD .u64) = lz8.map (numD .u64) := by unfold lz7 lz8; rfl
theorem lz9_r2 : [D.v (.int .u64 0)] :: lz8.map (numD .u64) = lz9.map (numD .u64) := by unfold lz8 lz9; rfl
def hpl : Nat → List (Nat × Ob)
  | 0 => [(9, .box [.own 1 7, .own 2 7, .own 3 7, .own 4 7, .own 5 7, .own 6 7, .own 7 7, .own 8 7]), (1, .row 1 (lq0.map (numD .u64)) false), (2, .row 1 (lq1.map (numD .u64)) false), (3, .row 1 (lq2.map (numD .u64)) false), (4, .row 1 (lq3.map (numD .u64)) false), (5, .row 1 (lq4.map (numD .u64)) false), (6, .row 1 (lq5.map (numD .u64)) false), (7, .row 1 (lq6.map (numD .u64)) false), (8, .row 1 (lq7.map (numD .u64)) false)]
  | 1 => [(9, .box [.own 1 7, .own 2 7, .own 3 7, .own 4 7, .own 5 7, .own 6 7, .own 7 7, .own 8 7]), (2, .row 1 (lq1.map (numD .u64)) false), (3, .row 1 (lq2.map (numD .u64)) false), (4, .row 1 (lq3.map (numD .u64)) false), (5, .row 1 (lq4.map (numD .u64)) false), (6, .row 1 (lq5.map (numD .u64)) false), (7, .row 1 (lq6.map (numD .u64)) false), (8, .row 1 (lq7.map (numD .u64)) false)]
  | 2 => [(9, .box [.own 1 7, .own 2 7, .own 3 7, .own 4 7, .own 5 7, .own 6 7, .own 7 7, .own 8 7]), (3, .row 1 (lq2.map (numD .u64)) false), (4, .row 1 (lq3.map (numD .u64)) false), (5, .row 1 (lq4.map (numD .u64)) false), (6, .row 1 (lq5.map (numD .u64)) false), (7, .row 1 (lq6.map (numD .u64)) false), (8, .row 1 (lq7.map (numD .u64)) false)]
  | 3 => [(9, .box [.own 1 7, .own 2 7, .own 3 7, .own 4 7, .own 5 7, .own 6 7, .own 7 7, .own 8 7]), (4, .row 1 (lq3.map (numD .u64)) false), (5, .row 1 (lq4.map (numD .u64)) false), (6, .row 1 (lq5.map (numD .u64)) false), (7, .row 1 (lq6.map (numD .u64)) false), (8, .row 1 (lq7.map (numD .u64)) false)]
  | 4 => [(9, .box [.own 1 7, .own 2 7, .own 3 7, .own 4 7, .own 5 7, .own 6 7, .own 7 7, .own 8 7]), (5, .row 1 (lq4.map (numD .u64)) false), (6, .row 1 (lq5.map (numD .u64)) false), (7, .row 1 (lq6.map (numD .u64)) false), (8, .row 1 (lq7.map (numD .u64)) false)]
  | 5 => [(9, .box [.own 1 7, .own 2 7, .own 3 7, .own 4 7, .own 5 7, .own 6 7, .own 7 7, .own 8 7]), (6, .row 1 (lq5.map (numD .u64)) false), (7, .row 1 (lq6.map (numD .u64)) false), (8, .row 1 (lq7.map (numD .u64)) false)]
  | 6 => [(9, .box [.own 1 7, .own 2 7, .own 3 7, .own 4 7, .own 5 7, .own 6 7, .own 7 7, .own 8 7]), (7, .row 1 (lq6.map (numD .u64)) false), (8, .row 1 (lq7.map (numD .u64)) false)]
  | 7 => [(9, .box [.own 1 7, .own 2 7, .own 3 7, .own 4 7, .own 5 7, .own 6 7, .own 7 7, .own 8 7]), (8, .row 1 (lq7.map (numD .u64)) false)]
  | _ => [(9, .box [.own 1 7, .own 2 7, .own 3 7, .own 4 7, .own 5 7, .own 6 7, .own 7 7, .own 8 7])]
theorem hpl0 : hpl 0 = [(9, .box [.own 1 7, .own 2 7, .own 3 7, .own 4 7, .own 5 7, .own 6 7, .own 7 7, .own 8 7]), (1, .row 1 (lq0.map (numD .u64)) false), (2, .row 1 (lq1.map (numD .u64)) false), (3, .row 1 (lq2.map (numD .u64)) false), (4, .row 1 (lq3.map (numD .u64)) false), (5, .row 1 (lq4.map (numD .u64)) false), (6, .row 1 (lq5.map (numD .u64)) false), (7, .row 1 (lq6.map (numD .u64)) false), (8, .row 1 (lq7.map (numD .u64)) false)] := rfl
theorem hpl1 : hpl 1 = [(9, .box [.own 1 7, .own 2 7, .own 3 7, .own 4 7, .own 5 7, .own 6 7, .own 7 7, .own 8 7]), (2, .row 1 (lq1.map (numD .u64)) false), (3, .row 1 (lq2.map (numD .u64)) false), (4, .row 1 (lq3.map (numD .u64)) false), (5, .row 1 (lq4.map (numD .u64)) false), (6, .row 1 (lq5.map (numD .u64)) false), (7, .row 1 (lq6.map (numD .u64)) false), (8, .row 1 (lq7.map (numD .u64)) false)] := rfl
theorem hpl2 : hpl 2 = [(9, .box [.own 1 7, .own 2 7, .own 3 7, .own 4 7, .own 5 7, .own 6 7, .own 7 7, .own 8 7]), (3, .row 1 (lq2.map (numD .u64)) false), (4, .row 1 (lq3.map (numD .u64)) false), (5, .row 1 (lq4.map (numD .u64)) false), (6, .row 1 (lq5.map (numD .u64)) false), (7, .row 1 (lq6.map (numD .u64)) false), (8, .row 1 (lq7.map (numD .u64)) false)] := rfl
theorem hpl3 : hpl 3 = [(9, .box [.own 1 7, .own 2 7, .own 3 7, .own 4 7, .own 5 7, .own 6 7, .own 7 7, .own 8 7]), (4, .row 1 (lq3.map (numD .u64)) false), (5, .row 1 (lq4.map (numD .u64)) false), (6, .row 1 (lq5.map (numD .u64)) false), (7, .row 1 (lq6.map (numD .u64)) false), (8, .row 1 (lq7.map (numD .u64)) false)] := rfl
theorem hpl4 : hpl 4 = [(9, .box [.own 1 7, .own 2 7, .own 3 7, .own 4 7, .own 5 7, .own 6 7, .own 7 7, .own 8 7]), (5, .row 1 (lq4.map (numD .u64)) false), (6, .row 1 (lq5.map (numD .u64)) false), (7, .row 1 (lq6.map (numD .u64)) false), (8, .row 1 (lq7.map (numD .u64)) false)] := rfl
theorem hpl5 : hpl 5 = [(9, .box [.own 1 7, .own 2 7, .own 3 7, .own 4 7, .own 5 7, .own 6 7, .own 7 7, .own 8 7]), (6, .row 1 (lq5.map (numD .u64)) false), (7, .row 1 (lq6.map (numD .u64)) false), (8, .row 1 (lq7.map (numD .u64)) false)] := rfl
theorem hpl6 : hpl 6 = [(9, .box [.own 1 7, .own 2 7, .own 3 7, .own 4 7, .own 5 7, .own 6 7, .own 7 7, .own 8 7]), (7, .row 1 (lq6.map (numD .u64)) false), (8, .row 1 (lq7.map (numD .u64)) false)] := rfl
theorem hpl7 : hpl 7 = [(9, .box [.own 1 7, .own 2 7, .own 3 7, .own 4 7, .own 5 7, .own 6 7, .own 7 7, .own 8 7]), (8, .row 1 (lq7.map (numD .u64)) false)] := rfl
theorem hpl8 : hpl 8 = [(9, .box [.own 1 7, .own 2 7, .own 3 7, .own 4 7, .own 5 7, .own 6 7, .own 7 7, .own 8 7])] := rfl
namespace Xf03c088
def XX := (And.intro (And.intro @tdiv8 (And.intro @tmod8 @toNatAddI)) (And.intro @toNatSubI (And.intro @takeAll @takeDropAll)))
def XN := @Nat.zero_add
def XR := (And.intro @rBy.eq_1 (And.intro @rSup.eq_1 @supP_len))
def XH := @Nat.zero_add
def XG := @Nat.zero_add
end Xf03c088
set_option maxHeartbeats 8000000 in
set_option maxRecDepth 10000 in
open Xf03c088 in
theorem k_law06_SuperNames : Con Try.prog 3 [] [rB true] := by
  refine con_of_awp hmix Try.func3 s3 rfl (by rw [n3]; simp) r3 n3 ?_
  simp only [Eng.start, startFr, inX, sN, vN, List.map_cons, List.map_nil, c3]
  (have XH := @eq_self.{1}; have XG := (And.intro (And.intro (And.intro @lq0_row @lq1_row) (And.intro @lq2_row @lq3_row)) (And.intro (And.intro @lq4_row @lq5_row) (And.intro @lq6_row @lq7_row))); (repeat' (first
    | refine aOp ?_
    | refine aOp2 ?_
    | refine aOff1 ?_
    | refine aOff2 ?_
    | (refine aSplit ?_ ?_ <;> intro hsp)
    | (refine RegA.done ‹_› ?_; first | refine aKeep [0, 1, 2, 4, 5, 6, 7, 8, 10, 12, 14, 16, 18, 19, 20, 21, 22, 34, 54, 67, 94] ?_ | skip)
    | refine awp_seq fun K hK => ?_
    | refine Awp.reg ?_
    | refine Awp.skip ?_
    | refine Awp.block ?_
    | refine Awp.scope ?_
    | refine aCt ?_
    | refine aCf ?_
    | (refine aCond ?_ ?_ <;> intro hsp)
    | (refine Awp.exit ?_; simp only [blockQ, thenQ, scopeQ, ↓reduceIte, Nat.reduceEqDiff])
    | (refine viaK ‹_› ?_; first | refine aKeep [0, 1, 2, 4, 5, 6, 7, 8, 10, 12, 14, 16, 18, 19, 20, 21, 22, 34, 54, 67, 94] ?_ | skip)
    | simp only [thenQ_normal, blockQ_normal])); all_goals (clear XH; clear XG))
  refine Awp.loopK (α := {i : Nat // i ≤ 7}) (fun x => [(0, vv (.bool false)), (2, vv (.int .i64 (x.1 : Int)))]) (fun x => []) [1] [0] (fun x => 7 - x.1) ⟨0, by omega⟩ [] (by simp only [List.filterMap_cons, List.filterMap_nil, lk_nil, lk_cons, ↓reduceIte, Nat.reduceEqDiff, Option.map_some, Option.map_none]; rfl) (by simp only [List.filterMap_cons, List.filterMap_nil, lk_nil, lk_cons, ↓reduceIte, Nat.reduceEqDiff, Option.map_some, Option.map_none]; rfl) rfl rfl ?_ ?_
  · simp only [Wk, frIn, hpIn, lk_nil, lk_cons, renV, renX, renC, belV, belX, belC, belL, belB, List.cons_append, List.nil_append, ↓reduceIte, Nat.reduceEqDiff, and_self, and_true, true_and] <;> simp [-List.getD_eq_getElem?_getD, vv, one, renV, renX, renC, belV, belX, belC, belL, belB, rho, renO, belO, lk_nil, lk_cons]
  · rintro ⟨i, hi⟩
    simp only [vv, one, List.cons_append, List.nil_append]
    rcases le7 hi with rfl | rfl | rfl | rfl | rfl | rfl | rfl | rfl <;>
    (have XH := (And.intro (And.intro (And.intro (And.intro @eq_self.{1} (And.intro @hd8 @dl0)) (And.intro @dl1 (And.intro @dl2 @dl3))) (And.intro (And.intro @dl4 (And.intro @dl5 @dl6)) (And.intro @dl7 (And.intro @be0 @bw0)))) (And.intro (And.intro (And.intro @be1 (And.intro @bw1 @be2)) (And.intro @bw2 (And.intro @be3 @bw3))) (And.intro (And.intro @be4 (And.intro @bw4 @be5)) (And.intro @bw5 (And.intro @be6 @bw6))))); have XG := (And.intro (And.intro (And.intro (And.intro @be0 @bw0) (And.intro @be1 (And.intro @bw1 @be2))) (And.intro (And.intro @bw2 (And.intro @be3 @bw3)) (And.intro @be4 (And.intro @bw4 @be5)))) (And.intro (And.intro (And.intro @bw5 (And.intro @be6 @bw6)) (And.intro @hd8 (And.intro @lq0_row @lq1_row))) (And.intro (And.intro @lq2_row (And.intro @lq3_row @lq4_row)) (And.intro @lq5_row (And.intro @lq6_row @lq7_row))))); (repeat' (first
      | (refine aCall 9 ?_; apply aE2; exact k_super_Write ⟨0, 0⟩; refine aPost ?_)
      | (refine aCallF 10 ?_; apply aE3; exact k_super_Check ⟨0, 0⟩; exact flatA; refine aPost ?_)
      | (refine aCall 9 ?_; apply aE2; exact k_super_Write ⟨248, 0⟩; refine aPost ?_)
      | (refine aCallF 10 ?_; apply aE3; exact k_super_Check ⟨248, 0⟩; exact flatA; refine aPost ?_)
      | (refine aCall 9 ?_; apply aE2; exact k_super_Write ⟨2056, 0⟩; refine aPost ?_)
      | (refine aCallF 10 ?_; apply aE3; exact k_super_Check ⟨2056, 0⟩; exact flatA; refine aPost ?_)
      | (refine aCall 9 ?_; apply aE2; exact k_super_Write ⟨257, 0⟩; refine aPost ?_)
      | (refine aCallF 10 ?_; apply aE3; exact k_super_Check ⟨257, 0⟩; exact flatA; refine aPost ?_)
      | (refine aCall 9 ?_; apply aE2; exact k_super_Write ⟨256, -1⟩; refine aPost ?_)
      | (refine aCallF 10 ?_; apply aE3; exact k_super_Check ⟨256, -1⟩; exact flatA; refine aPost ?_)
      | (refine aCall 9 ?_; apply aE2; exact k_super_Write ⟨256, 9⟩; refine aPost ?_)
      | (refine aCallF 10 ?_; apply aE3; exact k_super_Check ⟨256, 9⟩; exact flatA; refine aPost ?_)
      | (refine aCall 9 ?_; apply aE2; exact k_super_Write ⟨-256, 0⟩; refine aPost ?_)
      | (refine aCallF 10 ?_; apply aE3; exact k_super_Check ⟨-256, 0⟩; exact flatA; refine aPost ?_)
      | refine aOp ?_
      | refine aOp2 ?_
      | refine aOff1 ?_
      | refine aOff2 ?_
      | (refine aSplit ?_ ?_ <;> intro hsp)
      | (refine RegA.done ‹_› ?_; first | refine aKeep [0, 1, 2, 4, 5, 6, 7, 8, 10, 12, 14, 16, 18, 19, 20, 21, 22, 34, 54, 67, 94] ?_ | skip)
      | refine awp_seq fun K hK => ?_
      | refine Awp.reg ?_
      | refine Awp.skip ?_
      | refine Awp.block ?_
      | refine Awp.scope ?_
      | refine aCt ?_
      | refine aCf ?_
      | (refine aCond ?_ ?_ <;> intro hsp)
      | (refine Awp.exit ?_; simp only [blockQ, thenQ, scopeQ, ↓reduceIte, Nat.reduceEqDiff])
      | (refine viaK ‹_› ?_; first | refine aKeep [0, 1, 2, 4, 5, 6, 7, 8, 10, 12, 14, 16, 18, 19, 20, 21, 22, 34, 54, 67, 94] ?_ | skip)
      | simp only [thenQ_normal, blockQ_normal])); all_goals (clear XH; clear XG))
    · refine RegA.nil ⟨⟨1, by omega⟩, [], ?_, ?_⟩
      · simp only [Wk, frIn, hpIn, lk_nil, lk_cons, renV, renX, renC, belV, belX, belC, belL, belB, List.cons_append, List.nil_append, ↓reduceIte, Nat.reduceEqDiff, and_self, and_true, true_and] <;> simp [-List.getD_eq_getElem?_getD, vv, one, renV, renX, renC, belV, belX, belC, belL, belB, rho, renO, belO, lk_nil, lk_cons]
      · (simp only []; omega)
    · refine RegA.nil ⟨⟨2, by omega⟩, [], ?_, ?_⟩
      · simp only [Wk, frIn, hpIn, lk_nil, lk_cons, renV, renX, renC, belV, belX, belC, belL, belB, List.cons_append, List.nil_append, ↓reduceIte, Nat.reduceEqDiff, and_self, and_true, true_and] <;> simp [-List.getD_eq_getElem?_getD, vv, one, renV, renX, renC, belV, belX, belC, belL, belB, rho, renO, belO, lk_nil, lk_cons]
      · (simp only []; omega)
    · refine RegA.nil ⟨⟨3, by omega⟩, [], ?_, ?_⟩
      · simp only [Wk, frIn, hpIn, lk_nil, lk_cons, renV, renX, renC, belV, belX, belC, belL, belB, List.cons_append, List.nil_append, ↓reduceIte, Nat.reduceEqDiff, and_self, and_true, true_and] <;> simp [-List.getD_eq_getElem?_getD, vv, one, renV, renX, renC, belV, belX, belC, belL, belB, rho, renO, belO, lk_nil, lk_cons]
      · (simp only []; omega)
    · refine RegA.nil ⟨⟨4, by omega⟩, [], ?_, ?_⟩
      · simp only [Wk, frIn, hpIn, lk_nil, lk_cons, renV, renX, renC, belV, belX, belC, belL, belB, List.cons_append, List.nil_append, ↓reduceIte, Nat.reduceEqDiff, and_self, and_true, true_and] <;> simp [-List.getD_eq_getElem?_getD, vv, one, renV, renX, renC, belV, belX, belC, belL, belB, rho, renO, belO, lk_nil, lk_cons]
      · (simp only []; omega)
    · refine RegA.nil ⟨⟨5, by omega⟩, [], ?_, ?_⟩
      · simp only [Wk, frIn, hpIn, lk_nil, lk_cons, renV, renX, renC, belV, belX, belC, belL, belB, List.cons_append, List.nil_append, ↓reduceIte, Nat.reduceEqDiff, and_self, and_true, true_and] <;> simp [-List.getD_eq_getElem?_getD, vv, one, renV, renX, renC, belV, belX, belC, belL, belB, rho, renO, belO, lk_nil, lk_cons]
      · (simp only []; omega)
    · refine RegA.nil ⟨⟨6, by omega⟩, [], ?_, ?_⟩
      · simp only [Wk, frIn, hpIn, lk_nil, lk_cons, renV, renX, renC, belV, belX, belC, belL, belB, List.cons_append, List.nil_append, ↓reduceIte, Nat.reduceEqDiff, and_self, and_true, true_and] <;> simp [-List.getD_eq_getElem?_getD, vv, one, renV, renX, renC, belV, belX, belC, belL, belB, rho, renO, belO, lk_nil, lk_cons]
      · (simp only []; omega)
    · refine RegA.nil ⟨⟨7, by omega⟩, [], ?_, ?_⟩
      · simp only [Wk, frIn, hpIn, lk_nil, lk_cons, renV, renX, renC, belV, belX, belC, belL, belB, List.cons_append, List.nil_append, ↓reduceIte, Nat.reduceEqDiff, and_self, and_true, true_and] <;> simp [-List.getD_eq_getElem?_getD, vv, one, renV, renX, renC, belV, belX, belC, belL, belB, rho, renO, belO, lk_nil, lk_cons]
      · (simp only []; omega)
    refine Awp.loopK (α := {i : Nat // i ≤ 8}) (fun x => [(0, vv (.bool false)), (6, vv (.int .i64 (x.1 : Int)))]) (fun x => hpl x.1) [5] [] (fun x => 8 - x.1) ⟨0, by omega⟩ [] (by simp only [List.filterMap_cons, List.filterMap_nil, lk_nil, lk_cons, ↓reduceIte, Nat.reduceEqDiff, Option.map_some, Option.map_none]; rfl) (by simp only [List.filterMap_cons, List.filterMap_nil, lk_nil, lk_cons, ↓reduceIte, Nat.reduceEqDiff, Option.map_some, Option.map_none]; rfl) rfl rfl ?_ ?_
    · simp only [hpl0]; simp only [Wk, frIn, hpIn, lk_nil, lk_cons, renV, renX, renC, belV, belX, belC, belL, belB, List.cons_append, List.nil_append, ↓reduceIte, Nat.reduceEqDiff, and_self, and_true, true_and] <;> simp [-List.getD_eq_getElem?_getD, vv, one, renV, renX, renC, belV, belX, belC, belL, belB, rho, renO, belO, lk_nil, lk_cons]
    · rintro ⟨i, hi⟩
      simp only [vv, one, List.cons_append, List.nil_append]
      rcases le8 hi with rfl | rfl | rfl | rfl | rfl | rfl | rfl | rfl | rfl <;> simp only [hpl0, hpl1, hpl2, hpl3, hpl4, hpl5, hpl6, hpl7, hpl8] <;>
      (have XH := (And.intro (And.intro (And.intro (And.intro @eq_self.{1} @num_snoc) (And.intro @hd1 (And.intro @hd2 @dm0))) (And.intro (And.intro @dm1 @dm2) (And.intro @dm3 (And.intro @dm4 @dm5)))) (And.intro (And.intro (And.intro @dm6 @dm7) (And.intro @dm8 (And.intro @lq0_len @lq1_len))) (And.intro (And.intro @lq2_len (And.intro @lq3_len @lq4_len)) (And.intro @lq5_len (And.intro @lq6_len @lq7_len))))); have XG := (And.intro (And.intro (And.intro (And.intro @num_snoc (And.intro @hd1 @hd2)) (And.intro (And.intro @List.length_append.{0} @lq0_len) (And.intro @lq1_len @lq2_len))) (And.intro (And.intro @lq3_len (And.intro @lq4_len @lq5_len)) (And.intro (And.intro @lq6_len @lq7_len) (And.intro @lq0_E @lq0_R)))) (And.intro (And.intro (And.intro @lq1_E (And.intro @lq1_R @lq2_E)) (And.intro (And.intro @lq2_R @lq3_E) (And.intro @lq3_R @lq4_E))) (And.intro (And.intro @lq4_R (And.intro @lq5_E @lq5_R)) (And.intro (And.intro @lq6_E @lq6_R) (And.intro @lq7_E @lq7_R))))); (repeat' (first
        | (refine aCallF 11 ?_; apply aE3; exact k_sum_Of lq0 (by rw [lq0_len]; omega); exact flatA; refine aPost ?_)
        | (refine aCallF 12 ?_; apply aE3; exact k_super_Read (lq0 ++ [nextV 14695981039346656037 lq0]) lq0_A (by rw [List.length_append, lq0_len]; decide); exact flatA; refine aPost ?_)
        | (refine aCallF 11 ?_; apply aE3; exact k_sum_Of lq1 (by rw [lq1_len]; omega); exact flatA; refine aPost ?_)
        | (refine aCallF 12 ?_; apply aE3; exact k_super_Read (lq1 ++ [nextV 14695981039346656037 lq1]) lq1_A (by rw [List.length_append, lq1_len]; decide); exact flatA; refine aPost ?_)
        | (refine aCallF 11 ?_; apply aE3; exact k_sum_Of lq2 (by rw [lq2_len]; omega); exact flatA; refine aPost ?_)
        | (refine aCallF 12 ?_; apply aE3; exact k_super_Read (lq2 ++ [nextV 14695981039346656037 lq2]) lq2_A (by rw [List.length_append, lq2_len]; decide); exact flatA; refine aPost ?_)
        | (refine aCallF 11 ?_; apply aE3; exact k_sum_Of lq3 (by rw [lq3_len]; omega); exact flatA; refine aPost ?_)
        | (refine aCallF 12 ?_; apply aE3; exact k_super_Read (lq3 ++ [nextV 14695981039346656037 lq3]) lq3_A (by rw [List.length_append, lq3_len]; decide); exact flatA; refine aPost ?_)
        | (refine aCallF 11 ?_; apply aE3; exact k_sum_Of lq4 (by rw [lq4_len]; omega); exact flatA; refine aPost ?_)
        | (refine aCallF 12 ?_; apply aE3; exact k_super_Read (lq4 ++ [nextV 14695981039346656037 lq4]) lq4_A (by rw [List.length_append, lq4_len]; decide); exact flatA; refine aPost ?_)
        | (refine aCallF 11 ?_; apply aE3; exact k_sum_Of lq5 (by rw [lq5_len]; omega); exact flatA; refine aPost ?_)
        | (refine aCallF 12 ?_; apply aE3; exact k_super_Read (lq5 ++ [nextV 14695981039346656037 lq5]) lq5_A (by rw [List.length_append, lq5_len]; decide); exact flatA; refine aPost ?_)
        | (refine aCallF 11 ?_; apply aE3; exact k_sum_Of lq6 (by rw [lq6_len]; omega); exact flatA; refine aPost ?_)
        | (refine aCallF 12 ?_; apply aE3; exact k_super_Read (lq6 ++ [nextV 14695981039346656037 lq6]) lq6_A (by rw [List.length_append, lq6_len]; decide); exact flatA; refine aPost ?_)
        | (refine aCallF 11 ?_; apply aE3; exact k_sum_Of lq7 (by rw [lq7_len]; omega); exact flatA; refine aPost ?_)
        | (refine aCallF 12 ?_; apply aE3; exact k_super_Read (lq7 ++ [nextV 14695981039346656037 lq7]) lq7_A (by rw [List.length_append, lq7_len]; decide); exact flatA; refine aPost ?_)
        | refine aOp ?_
        | refine aOp2 ?_
        | refine aOff1 ?_
        | refine aOff2 ?_
        | (refine aSplit ?_ ?_ <;> intro hsp)
        | (refine RegA.done ‹_› ?_; first | refine aKeep [0, 1, 2, 4, 5, 6, 7, 8, 10, 12, 14, 16, 18, 19, 20, 21, 22, 34, 54, 67, 94] ?_ | skip)
        | refine awp_seq fun K hK => ?_
        | refine Awp.reg ?_
        | refine Awp.skip ?_
        | refine Awp.block ?_
        | refine Awp.scope ?_
        | refine aCt ?_
        | refine aCf ?_
        | (refine aCond ?_ ?_ <;> intro hsp)
        | (refine Awp.exit ?_; simp only [blockQ, thenQ, scopeQ, ↓reduceIte, Nat.reduceEqDiff])
        | (refine viaK ‹_› ?_; first | refine aKeep [0, 1, 2, 4, 5, 6, 7, 8, 10, 12, 14, 16, 18, 19, 20, 21, 22, 34, 54, 67, 94] ?_ | skip)
        | simp only [thenQ_normal, blockQ_normal])); all_goals (clear XH; clear XG))
      · refine RegA.nil ⟨⟨1, by omega⟩, [], ?_, ?_⟩
        · simp only [hpl1]; simp only [Wk, frIn, hpIn, lk_nil, lk_cons, renV, renX, renC, belV, belX, belC, belL, belB, List.cons_append, List.nil_append, ↓reduceIte, Nat.reduceEqDiff, and_self, and_true, true_and] <;> simp [-List.getD_eq_getElem?_getD, vv, one, renV, renX, renC, belV, belX, belC, belL, belB, rho, renO, belO, lk_nil, lk_cons]
        · (simp only []; omega)
      · refine RegA.nil ⟨⟨2, by omega⟩, [], ?_, ?_⟩
        · simp only [hpl2]; simp only [Wk, frIn, hpIn, lk_nil, lk_cons, renV, renX, renC, belV, belX, belC, belL, belB, List.cons_append, List.nil_append, ↓reduceIte, Nat.reduceEqDiff, and_self, and_true, true_and] <;> simp [-List.getD_eq_getElem?_getD, vv, one, renV, renX, renC, belV, belX, belC, belL, belB, rho, renO, belO, lk_nil, lk_cons]
        · (simp only []; omega)
      · refine RegA.nil ⟨⟨3, by omega⟩, [], ?_, ?_⟩
        · simp only [hpl3]; simp only [Wk, frIn, hpIn, lk_nil, lk_cons, renV, renX, renC, belV, belX, belC, belL, belB, List.cons_append, List.nil_append, ↓reduceIte, Nat.reduceEqDiff, and_self, and_true, true_and] <;> simp [-List.getD_eq_getElem?_getD, vv, one, renV, renX, renC, belV, belX, belC, belL, belB, rho, renO, belO, lk_nil, lk_cons]
        · (simp only []; omega)
      · refine RegA.nil ⟨⟨4, by omega⟩, [], ?_, ?_⟩
        · simp only [hpl4]; simp only [Wk, frIn, hpIn, lk_nil, lk_cons, renV, renX, renC, belV, belX, belC, belL, belB, List.cons_append, List.nil_append, ↓reduceIte, Nat.reduceEqDiff, and_self, and_true, true_and] <;> simp [-List.getD_eq_getElem?_getD, vv, one, renV, renX, renC, belV, belX, belC, belL, belB, rho, renO, belO, lk_nil, lk_cons]
        · (simp only []; omega)
      · refine RegA.nil ⟨⟨5, by omega⟩, [], ?_, ?_⟩
        · simp only [hpl5]; simp only [Wk, frIn, hpIn, lk_nil, lk_cons, renV, renX, renC, belV, belX, belC, belL, belB, List.cons_append, List.nil_append, ↓reduceIte, Nat.reduceEqDiff, and_self, and_true, true_and] <;> simp [-List.getD_eq_getElem?_getD, vv, one, renV, renX, renC, belV, belX, belC, belL, belB, rho, renO, belO, lk_nil, lk_cons]
        · (simp only []; omega)
      · refine RegA.nil ⟨⟨6, by omega⟩, [], ?_, ?_⟩
        · simp only [hpl6]; simp only [Wk, frIn, hpIn, lk_nil, lk_cons, renV, renX, renC, belV, belX, belC, belL, belB, List.cons_append, List.nil_append, ↓reduceIte, Nat.reduceEqDiff, and_self, and_true, true_and] <;> simp [-List.getD_eq_getElem?_getD, vv, one, renV, renX, renC, belV, belX, belC, belL, belB, rho, renO, belO, lk_nil, lk_cons]
        · (simp only []; omega)
      · refine RegA.nil ⟨⟨7, by omega⟩, [], ?_, ?_⟩
        · simp only [hpl7]; simp only [Wk, frIn, hpIn, lk_nil, lk_cons, renV, renX, renC, belV, belX, belC, belL, belB, List.cons_append, List.nil_append, ↓reduceIte, Nat.reduceEqDiff, and_self, and_true, true_and] <;> simp [-List.getD_eq_getElem?_getD, vv, one, renV, renX, renC, belV, belX, belC, belL, belB, rho, renO, belO, lk_nil, lk_cons]
        · (simp only []; omega)
      · refine RegA.nil ⟨⟨8, by omega⟩, [], ?_, ?_⟩
        · simp only [hpl8]; simp only [Wk, frIn, hpIn, lk_nil, lk_cons, renV, renX, renC, belV, belX, belC, belL, belB, List.cons_append, List.nil_append, ↓reduceIte, Nat.reduceEqDiff, and_self, and_true, true_and] <;> simp [-List.getD_eq_getElem?_getD, vv, one, renV, renX, renC, belV, belX, belC, belL, belB, rho, renO, belO, lk_nil, lk_cons]
        · (simp only []; omega)
      · simp only [lz7_row]
        (have XH := (And.intro (And.intro (And.intro (And.intro @eq_self.{1} @eqs_sup) (And.intro @sup_eta (And.intro @lz7_len @lz7_R))) (And.intro (And.intro @lz8_len @lz8_R) (And.intro @lz9_len (And.intro @lz9_R @lzn_R)))) (And.intro (And.intro (And.intro @sq_E @sq_W) (And.intro @sq_R (And.intro @sq_V @supL_len))) (And.intro (And.intro @hc8 @hd1) (And.intro @hd2 (And.intro @hd3 @hd4))))); have XG := (And.intro (And.intro (And.intro (And.intro @lz7_len (And.intro @lz7_R @lz8_len)) (And.intro (And.intro @lz8_R @lz9_len) (And.intro @lz9_R @lzn_R))) (And.intro (And.intro @sq_E (And.intro @sq_W @sq_R)) (And.intro (And.intro @sq_V @supL_len) (And.intro @hc8 @hd1)))) (And.intro (And.intro (And.intro @hd2 (And.intro @hd3 @hd4)) (And.intro (And.intro @lz7_row @lz8_r2) (And.intro @lz9_r2 @List.take_succ_cons.{0}))) (And.intro (And.intro (And.intro @List.take_zero.{0} @List.take_nil.{0}) (And.intro @List.length_cons.{0} @List.length_nil.{0})) (And.intro (And.intro @Nat.zero_add @List.drop_succ_cons.{0}) (And.intro @List.drop_zero.{0} @List.drop_nil.{0}))))); (repeat' (first
            | (refine aCallF 12 ?_; apply aE3; exact k_super_Read lz7 lz7_U (by rw [lz7_len]; decide); exact flatA; refine aPost ?_)
            | (refine aCallF 12 ?_; apply aE3; exact k_super_Read lz8 lz8_U (by rw [lz8_len]; decide); exact flatA; refine aPost ?_)
            | (refine aCallF 12 ?_; apply aE3; exact k_super_Read lz9 lz9_U (by rw [lz9_len]; decide); exact flatA; refine aPost ?_)
            | (refine aCallF 12 ?_; apply aE3; exact k_super_Read (supL ⟨2048, 8⟩) (supL_U sq_ok) (by rw [supL_len]; decide); exact flatA; refine aPost ?_)
            | (refine aCallL 12 false ?_; apply aE4; exact k_super_Read [] lzn_U (by decide); (focus (first | exact laxAs_refl _ | (simp [laxAs, laxA, laxDs, laxD, emptyD, vN, sN, supA, supC]; done))); (exact .inr flatA); refine aPost ?_)
            | (refine aCall 9 ?_; apply aE2; exact k_super_Write ⟨2048, 8⟩; refine aPost ?_)
            | (refine aCallF 13 ?_; apply aE3; exact k_alive6; exact flatA; refine aPost ?_)
            | refine aOp ?_
            | refine aOp2 ?_
            | refine aOff1 ?_
            | refine aOff2 ?_
            | (refine aSplit ?_ ?_ <;> intro hsp)
            | (refine RegA.done ‹_› ?_; first | refine aKeep [0, 1, 2, 4, 5, 6, 7, 8, 10, 12, 14, 16, 18, 19, 20, 21, 22, 34, 54, 67, 94] ?_ | skip)
            | refine awp_seq fun K hK => ?_
            | refine Awp.reg ?_
            | refine Awp.skip ?_
            | refine Awp.block ?_
            | refine Awp.scope ?_
            | refine aCt ?_
            | refine aCf ?_
            | (refine aCond ?_ ?_ <;> intro hsp)
            | (refine Awp.exit ?_; simp only [blockQ, thenQ, scopeQ, ↓reduceIte, Nat.reduceEqDiff])
            | (refine viaK ‹_› ?_; first | refine aKeep [0, 1, 2, 4, 5, 6, 7, 8, 10, 12, 14, 16, 18, 19, 20, 21, 22, 34, 54, 67, 94] ?_ | skip)
            | simp only [thenQ_normal, blockQ_normal])); all_goals (clear XH; clear XG))
        (refine Awp.ret ?_; refine aRet ?_; (simp [-List.getD_eq_getElem?_getD, laxR, laxX, laxC, laxCs, rB, rN, rO, rBy, rSup, supP_len] <;> (intros; omega)))
end
end Go.Proofs.Ytnkakhmmlgkbgaa
