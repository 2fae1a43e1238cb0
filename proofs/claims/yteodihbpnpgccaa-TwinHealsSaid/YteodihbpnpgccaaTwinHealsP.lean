/-
  The statement of TwinHeals, proved: for every input the law answers true, and each argument reads behind the call as it read before. No condition.
-/
import Derived.Test.YteodihbpnpgccaaH10
import Derived.Test.YteodihbpnpgccaaG8
import Derived.Test.YteodihbpnpgccaaRows
namespace Go.Proofs.Yteodihbpnpgccaa.twinHeals
open Go.ChangeShapes Go.WideShapes Go.ChangeAt Go.RowKit Go.Proofs.Yteodihbpnpgccaa.Eng
set_option linter.all false
theorem own : ownKnob Try.prog.godebug = none := by kernel_rfl
set_option maxRecDepth 100000 in
theorem lifted (os : Os) (started : os.Started) (H : Type) (enc : TypeId × Value → H) :
    ReturnsInHanded {} Try.checked os 5 .any (Rows.twinHealsSpec.pre6 enc Try.prog Try.f5 Rows.twinHealsRow.domain false) (Rows.twinHealsSpec.post enc Try.prog Try.f5 false true false false) := by
  refine returnsInHanded_of_change (C := Try.checked) own started (by kernel_rfl) Try.func5
    (ChangeSpec.witness6 (enc := enc) (C := Try.checked) false ⟨#[], #[.agg #[.int .i64 0, .int .i64 0], .int .i64 0, .slice none 0 0, .int .i64 0, .int .u64 0], []⟩ 8 (by kernel_rfl) (by kernel_rfl) (by kernel_rfl) (by kernel_rfl)) ?_
  intro W base args ds gs before hval0 hW hcnd _
  have hval : ∀ (j : Nat) t v, Try.f5.params[j]? = some t → args[j]? = some v → Value.okWide Try.prog W .any base t v := hval0
  have hW' := hW
  obtain ⟨p, q, hA0, hV, rfl, hfz, hnd⟩ := hW
  obtain ⟨rfl, rfl⟩ := trodVars_none hV
  have hA : DataW.TrodAll enc Try.prog W 0 (fun _ => true) true Try.f5.params.toList args.toList ds p := hA0
  have hlt : ∀ x ∈ p, x.block < W.heap.size := fun x hx => hW'.lt x (by simpa using hx)
  rw [Try.params5] at hA hval
  obtain ⟨v0, vs0, d0, ds0, p0, q0, hargs, rfl, rfl, h0, r0⟩ := trodAll_cons hA
  obtain ⟨v1, vs1, d1, ds1, p1, q1, rfl, rfl, rfl, h1, r1⟩ := trodAll_cons r0
  obtain ⟨v2, vs2, d2, ds2, p2, q2, rfl, rfl, rfl, h2, r2⟩ := trodAll_cons r1
  obtain ⟨v3, vs3, d3, ds3, p3, q3, rfl, rfl, rfl, h3, r3⟩ := trodAll_cons r2
  obtain ⟨v4, vs4, d4, ds4, p4, q4, rfl, rfl, rfl, h4, r4⟩ := trodAll_cons r3
  obtain ⟨rfl, rfl, rfl⟩ := trodAll_nil r4
  obtain rfl : args = #[v0, v1, v2, v3, v4] := by cases args; simp_all
  obtain ⟨a0, b0, s0⟩ := in_sup Try.underlying26 (m := 5) (by kernel_rfl) (hval 0 _ _ rfl rfl) h0 (S := fun b => b < W.heap.size) (fun x hx => hlt x (by simp [hx]))
  obtain ⟨a1, b1, s1⟩ := in_int (k := .i64) Try.underlying3 (hval 1 _ _ rfl rfl) h1 (S := fun b => b < W.heap.size)
  obtain ⟨a2, b2, s2⟩ := in_ints (k := .u64) Try.underlying22 Try.underlying47 (by kernel_rfl) (hval 2 _ _ rfl rfl) h2 (S := fun b => b < W.heap.size) (fun x hx => hlt x (by simp [hx]))
  obtain ⟨a3, b3, s3⟩ := in_int (k := .i64) Try.underlying3 (hval 3 _ _ rfl rfl) h3 (S := fun b => b < W.heap.size)
  obtain ⟨a4, b4, s4⟩ := in_int (k := .u64) Try.underlying47 (hval 4 _ _ rfl rfl) h4 (S := fun b => b < W.heap.size)
  refine ((k_law07_TwinHeals a0 a1 a2 a3 a4 (wf_U b2.1) (by have h := bounds_u64 b4; exact ⟨h.1, by omega⟩)).2 (fun b => b < W.heap.size) W #[v0, v1, v2, v3, v4] (fun _ h => h) (.cons s0 (.cons s1 (.cons s2 (.cons s3 (.cons s4 .nil)))))).mono fun e W' hh => ?_
  obtain ⟨v, F, he, hsh, hg, _, _⟩ := hh
  have hv := shows_bool hsh
  subst he hv
  exact ⟨_, rfl, law_post (by kernel_rfl) (by kernel_rfl) rfl rfl Try.underlying4 hW' ⟨rfl, rfl, rfl⟩ hg⟩

theorem over : Rows.twinHealsRow.holds Try.pinned (OpenSpec.ofChange Rows.twinHealsSpec) :=
  OpenClaim.holds_of_wide 5 Try.f5 rfl rfl rfl rfl rfl rfl rfl ⟨rfl, rfl, rfl, rfl, rfl⟩ rfl rfl rfl rfl rfl (by kernel_rfl) Try.func5 (by kernel_rfl)
    (of_decide_eq_true (by kernel_rfl)) (by unfold Func.isWrapper; first | (rw [if_pos (by decide +kernel)]; kernel_rfl) | (rw [if_neg (by decide +kernel)]; exact ⟨rfl, rfl⟩))
    (fun os started H enc _ => lifted os started H enc)

/-- THE STATEMENT. -/
theorem proved : Rows.TwinHealsSaid :=
  over
#print axioms proved
end Go.Proofs.Yteodihbpnpgccaa.twinHeals
