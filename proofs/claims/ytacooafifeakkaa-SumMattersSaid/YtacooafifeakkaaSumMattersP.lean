/-
  The statement of SumMatters, proved: for every input the law answers true, and each argument reads behind the call as it read before. No condition.
-/
import Derived.Test.YtacooafifeakkaaF6
import Derived.Test.YtacooafifeakkaaRows
namespace Go.Proofs.Ytacooafifeakkaa.sumMatters
open Go.ChangeShapes Go.WideShapes Go.ChangeAt Go.RowKit Go.Proofs.Ytacooafifeakkaa.Eng
set_option linter.all false
theorem own : ownKnob Try.prog.godebug = none := by kernel_rfl
set_option maxRecDepth 100000 in
theorem lifted (os : Os) (started : os.Started) (H : Type) (enc : TypeId × Value → H) :
    ReturnsInHanded {} Try.checked os 6 .any (Rows.sumMattersSpec.pre6 enc Try.prog Try.f6 Rows.sumMattersRow.domain false) (Rows.sumMattersSpec.post enc Try.prog Try.f6 false true false false) := by
  refine returnsInHanded_of_change (C := Try.checked) own started (by kernel_rfl) Try.func6
    (ChangeSpec.witness6 (enc := enc) (C := Try.checked) false ⟨#[], #[.int .u64 0, .int .u64 0, .slice none 0 0, .int .i64 0, .int .i64 0, .int .u8 0, .int .i64 0], []⟩ 8 (by kernel_rfl) (by kernel_rfl) (by kernel_rfl) (by kernel_rfl)) ?_
  intro W base args ds gs before hval0 hW hcnd _
  have hval : ∀ (j : Nat) t v, Try.f6.params[j]? = some t → args[j]? = some v → Value.okWide Try.prog W .any base t v := hval0
  have hW' := hW
  obtain ⟨p, q, hA0, hV, rfl, hfz, hnd⟩ := hW
  obtain ⟨rfl, rfl⟩ := trodVars_none hV
  have hA : DataW.TrodAll enc Try.prog W 0 (fun _ => true) true Try.f6.params.toList args.toList ds p := hA0
  have hlt : ∀ x ∈ p, x.block < W.heap.size := fun x hx => hW'.lt x (by simpa using hx)
  rw [Try.params6] at hA hval
  obtain ⟨v0, vs0, d0, ds0, p0, q0, hargs, rfl, rfl, h0, r0⟩ := trodAll_cons hA
  obtain ⟨v1, vs1, d1, ds1, p1, q1, rfl, rfl, rfl, h1, r1⟩ := trodAll_cons r0
  obtain ⟨v2, vs2, d2, ds2, p2, q2, rfl, rfl, rfl, h2, r2⟩ := trodAll_cons r1
  obtain ⟨v3, vs3, d3, ds3, p3, q3, rfl, rfl, rfl, h3, r3⟩ := trodAll_cons r2
  obtain ⟨v4, vs4, d4, ds4, p4, q4, rfl, rfl, rfl, h4, r4⟩ := trodAll_cons r3
  obtain ⟨v5, vs5, d5, ds5, p5, q5, rfl, rfl, rfl, h5, r5⟩ := trodAll_cons r4
  obtain ⟨v6, vs6, d6, ds6, p6, q6, rfl, rfl, rfl, h6, r6⟩ := trodAll_cons r5
  obtain ⟨rfl, rfl, rfl⟩ := trodAll_nil r6
  obtain rfl : args = #[v0, v1, v2, v3, v4, v5, v6] := by cases args; simp_all
  obtain ⟨a0, b0, s0⟩ := in_int (k := .u64) Try.underlying23 (hval 0 _ _ rfl rfl) h0 (S := fun b => b < W.heap.size)
  obtain ⟨a1, b1, s1⟩ := in_int (k := .u64) Try.underlying23 (hval 1 _ _ rfl rfl) h1 (S := fun b => b < W.heap.size)
  obtain ⟨a2, b2, s2⟩ := in_ints (k := .u64) Try.underlying22 Try.underlying23 (by kernel_rfl) (hval 2 _ _ rfl rfl) h2 (S := fun b => b < W.heap.size) (fun x hx => hlt x (by simp [hx]))
  obtain ⟨a3, b3, s3⟩ := in_int (k := .i64) Try.underlying3 (hval 3 _ _ rfl rfl) h3 (S := fun b => b < W.heap.size)
  obtain ⟨a4, b4, s4⟩ := in_int (k := .i64) Try.underlying3 (hval 4 _ _ rfl rfl) h4 (S := fun b => b < W.heap.size)
  obtain ⟨a5, b5, s5⟩ := in_int (k := .u8) Try.underlying5 (hval 5 _ _ rfl rfl) h5 (S := fun b => b < W.heap.size)
  obtain ⟨a6, b6, s6⟩ := in_int (k := .i64) Try.underlying3 (hval 6 _ _ rfl rfl) h6 (S := fun b => b < W.heap.size)
  refine ((k_law05_SumMatters a0 a1 a2 a3 a4 a5 a6 (lit_U b0) (lit_U b1) (wf_U b2.1) (lit_B b5)).2 (fun b => b < W.heap.size) W #[v0, v1, v2, v3, v4, v5, v6] (fun _ h => h) (.cons s0 (.cons s1 (.cons s2 (.cons s3 (.cons s4 (.cons s5 (.cons s6 .nil)))))))).mono fun e W' hh => ?_
  obtain ⟨v, F, he, hsh, hg, _, _⟩ := hh
  have hv := shows_bool hsh
  subst he hv
  exact ⟨_, rfl, law_post (by kernel_rfl) (by kernel_rfl) rfl rfl Try.underlying4 hW' ⟨rfl, rfl, rfl⟩ hg⟩

theorem over : Rows.sumMattersRow.holds Try.pinned (OpenSpec.ofChange Rows.sumMattersSpec) :=
  OpenClaim.holds_of_wide 6 Try.f6 rfl rfl rfl rfl rfl rfl rfl ⟨rfl, rfl, rfl, rfl, rfl⟩ rfl rfl rfl rfl rfl (by kernel_rfl) Try.func6 (by kernel_rfl)
    (of_decide_eq_true (by kernel_rfl)) (by unfold Func.isWrapper; first | (rw [if_pos (by decide +kernel)]; kernel_rfl) | (rw [if_neg (by decide +kernel)]; exact ⟨rfl, rfl⟩))
    (fun os started H enc _ => lifted os started H enc)

/-- THE STATEMENT. -/
theorem proved : Rows.SumMattersSaid :=
  over
#print axioms proved
end Go.Proofs.Ytacooafifeakkaa.sumMatters
