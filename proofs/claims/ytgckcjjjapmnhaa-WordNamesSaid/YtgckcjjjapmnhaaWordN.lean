/-
  The walk of the statement on examples, the widest fields, and errors of package word.
-/
import Derived.Test.YtgckcjjjapmnhaaWordA
import Derived.Deep.RegionHeld3
namespace Go.Proofs.Ytgckcjjjapmnhaa
open Go.ChangeShapes Go.WideShapes Go.ChangeAt Go.RowKit

theorem ex1 (w : World) : Calls Try.prog 10 #[.int .u64 18446744073709551615, .int .i64 0, .int .i64 64] w fun e w' => e = two 18446744073709551615 0 ∧ ∃ q, w' = w.drewN q :=
  get_yes 18446744073709551615 0 64 (by unfold U64; omega) (by decide) w
theorem ex2 (w : World) : Calls Try.prog 11 #[.int .u64 5, .int .i64 0, .int .i64 64, .int .u64 18446744073709551615] w fun e w' => e = two 18446744073709551615 0 ∧ ∃ q, w' = w.drewN q :=
  set_yes 5 18446744073709551615 0 64 (by unfold U64; omega) (by decide) (by decide) w
theorem ex3 (w : World) : Calls Try.prog 10 #[.int .u64 9223372036854775808, .int .i64 63, .int .i64 1] w fun e w' => e = two 1 0 ∧ ∃ q, w' = w.drewN q :=
  get_yes 9223372036854775808 63 1 (by unfold U64; omega) (by decide) w
theorem ex4 (w : World) : Calls Try.prog 11 #[.int .u64 0, .int .i64 63, .int .i64 1, .int .u64 1] w fun e w' => e = two 9223372036854775808 0 ∧ ∃ q, w' = w.drewN q :=
  set_yes 0 1 63 1 (by unfold U64; omega) (by decide) (by decide) w
theorem ex5 (w : World) : Calls Try.prog 11 #[.int .u64 0, .int .i64 63, .int .i64 1, .int .u64 2] w fun e w' => e = two 0 16 ∧ w' = w :=
  set_wide 0 2 63 1 (by decide) (by decide) w
theorem ex6 (w : World) : Calls Try.prog 11 #[.int .u64 0, .int .i64 0, .int .i64 63, .int .u64 9223372036854775808] w fun e w' => e = two 0 16 ∧ w' = w :=
  set_wide 0 9223372036854775808 0 63 (by decide) (by decide) w
theorem ex7 (w : World) : Calls Try.prog 11 #[.int .u64 0, .int .i64 1, .int .i64 63, .int .u64 9223372036854775807] w fun e w' => e = two 18446744073709551614 0 ∧ ∃ q, w' = w.drewN q :=
  set_yes 0 9223372036854775807 1 63 (by unfold U64; omega) (by decide) (by decide) w
set_option maxRecDepth 100000 in
set_option maxHeartbeats 2000000 in
theorem walk_WordNames (w : World) :
    Calls Try.prog 3 #[] w fun e w' => e = .returned (.bool true) ∧ Gr w w' := by
  go_enter Try.func3, Try.ntmps3
  go_wp2_with fail
  refine wp_loop_rounds 10 ?_
  rw [rounds_succ]
  go_wp2_with fail
  go_quiet ((first
    | (go_at_call 10; first | exact Calls.quiet_of_same (get_no _ _ _ (by decide) _) | exact quiet_more (get_no _ _ _ (by decide) _))))
  go_wp2_with fail
  go_quiet ((first
    | (go_at_call 11; exact quiet_more (set_no _ _ _ _ (by decide) _))))
  go_wp2_with fail
  go_quiet ((first
    | (go_at_call 11; exact quiet_more (set_no _ _ _ _ (by decide) _))))
  go_wp2_with fail
  rw [rounds_succ]
  go_wp2_with fail
  go_quiet ((first
    | (go_at_call 10; first | exact Calls.quiet_of_same (get_no _ _ _ (by decide) _) | exact quiet_more (get_no _ _ _ (by decide) _))))
  go_wp2_with fail
  go_quiet ((first
    | (go_at_call 11; exact quiet_more (set_no _ _ _ _ (by decide) _))))
  go_wp2_with fail
  go_quiet ((first
    | (go_at_call 11; exact quiet_more (set_no _ _ _ _ (by decide) _))))
  go_wp2_with fail
  rw [rounds_succ]
  go_wp2_with fail
  go_quiet ((first
    | (go_at_call 10; first | exact Calls.quiet_of_same (get_no _ _ _ (by decide) _) | exact quiet_more (get_no _ _ _ (by decide) _))))
  go_wp2_with fail
  go_quiet ((first
    | (go_at_call 11; exact quiet_more (set_no _ _ _ _ (by decide) _))))
  go_wp2_with fail
  go_quiet ((first
    | (go_at_call 11; exact quiet_more (set_no _ _ _ _ (by decide) _))))
  go_wp2_with fail
  rw [rounds_succ]
  go_wp2_with fail
  go_quiet ((first
    | (go_at_call 10; first | exact Calls.quiet_of_same (get_no _ _ _ (by decide) _) | exact quiet_more (get_no _ _ _ (by decide) _))))
  go_wp2_with fail
  go_quiet ((first
    | (go_at_call 11; exact quiet_more (set_no _ _ _ _ (by decide) _))))
  go_wp2_with fail
  go_quiet ((first
    | (go_at_call 11; exact quiet_more (set_no _ _ _ _ (by decide) _))))
  go_wp2_with fail
  rw [rounds_succ]
  go_wp2_with fail
  go_quiet ((first
    | (go_at_call 10; first | exact Calls.quiet_of_same (get_no _ _ _ (by decide) _) | exact quiet_more (get_no _ _ _ (by decide) _))))
  go_wp2_with fail
  go_quiet ((first
    | (go_at_call 11; exact quiet_more (set_no _ _ _ _ (by decide) _))))
  go_wp2_with fail
  go_quiet ((first
    | (go_at_call 11; exact quiet_more (set_no _ _ _ _ (by decide) _))))
  go_wp2_with fail
  rw [rounds_succ]
  go_wp2_with fail
  go_quiet ((first
    | (go_at_call 10; first | exact Calls.quiet_of_same (get_no _ _ _ (by decide) _) | exact quiet_more (get_no _ _ _ (by decide) _))))
  go_wp2_with fail
  go_quiet ((first
    | (go_at_call 11; exact quiet_more (set_no _ _ _ _ (by decide) _))))
  go_wp2_with fail
  go_quiet ((first
    | (go_at_call 11; exact quiet_more (set_no _ _ _ _ (by decide) _))))
  go_wp2_with fail
  rw [rounds_succ]
  go_wp2_with fail
  go_quiet ((first
    | (go_at_call 10; first | exact Calls.quiet_of_same (get_no _ _ _ (by decide) _) | exact quiet_more (get_no _ _ _ (by decide) _))))
  go_wp2_with fail
  go_quiet ((first
    | (go_at_call 11; exact quiet_more (set_no _ _ _ _ (by decide) _))))
  go_wp2_with fail
  go_quiet ((first
    | (go_at_call 11; exact quiet_more (set_no _ _ _ _ (by decide) _))))
  go_wp2_with fail
  rw [rounds_succ]
  go_wp2_with fail
  go_quiet ((first
    | (go_at_call 10; first | exact Calls.quiet_of_same (get_no _ _ _ (by decide) _) | exact quiet_more (get_no _ _ _ (by decide) _))))
  go_wp2_with fail
  go_quiet ((first
    | (go_at_call 11; exact quiet_more (set_no _ _ _ _ (by decide) _))))
  go_wp2_with fail
  go_quiet ((first
    | (go_at_call 11; exact quiet_more (set_no _ _ _ _ (by decide) _))))
  go_wp2_with fail
  rw [rounds_succ]
  go_wp2_with fail
  go_quiet ((first
    | (go_at_call 10; first | exact Calls.quiet_of_same (get_no _ _ _ (by decide) _) | exact quiet_more (get_no _ _ _ (by decide) _))))
  go_wp2_with fail
  go_quiet ((first
    | (go_at_call 11; exact quiet_more (set_no _ _ _ _ (by decide) _))))
  go_wp2_with fail
  go_quiet ((first
    | (go_at_call 11; exact quiet_more (set_no _ _ _ _ (by decide) _))))
  go_wp2_with fail
  rw [rounds_succ]
  go_wp2_with fail
  refine (ex1 _).mono ?_; rintro e w' ⟨rfl, q1, rfl⟩
  go_wp2_with fail
  refine (ex2 _).mono ?_; rintro e w' ⟨rfl, q2, rfl⟩
  go_wp2_with fail
  refine (ex3 _).mono ?_; rintro e w' ⟨rfl, q3, rfl⟩
  go_wp2_with fail
  refine (ex4 _).mono ?_; rintro e w' ⟨rfl, q4, rfl⟩
  go_wp2_with fail
  refine (ex5 _).mono ?_; rintro e w' ⟨rfl, rfl⟩
  go_wp2_with fail
  refine (ex6 _).mono ?_; rintro e w' ⟨rfl, rfl⟩
  go_wp2_with fail
  refine (ex7 _).mono ?_; rintro e w' ⟨rfl, q7, rfl⟩
  go_wp2_with fail
  refine (alive_any _).mono ?_; rintro e w' ⟨rfl, hg⟩
  have HG := Lib.hid hg
  clear hg
  go_wp2
  go_ret
  exact ⟨rfl, by
    refine Gr.trans ?_ HG.out.of_drewN
    exact ((Gr.refl _).alloc _ _).alloc _ _⟩
end Go.Proofs.Ytgckcjjjapmnhaa
