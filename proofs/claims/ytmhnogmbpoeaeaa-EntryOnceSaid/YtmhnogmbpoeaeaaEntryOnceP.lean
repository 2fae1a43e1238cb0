/-
  The statement of EntryOnce, proved: for every input the law answers true, and each argument reads behind the call as it read before. No condition.
-/
import Derived.Test.YtmhnogmbpoeaeaaJ8
import Derived.Test.YtmhnogmbpoeaeaaRows
namespace Go.Proofs.Ytmhnogmbpoeaeaa.entryOnce
open Go.ChangeShapes Go.WideShapes Go.ChangeAt Go.RowKit Go.Proofs.Ytmhnogmbpoeaeaa.Eng
set_option linter.all false
theorem own : ownKnob Try.prog.godebug = none := by kernel_rfl
set_option maxRecDepth 100000 in
theorem lifted (os : Os) (started : os.Started) (H : Type) (enc : TypeId × Value → H) :
    ReturnsInHanded {} Try.checked os 9 .any (Rows.entryOnceSpec.pre6 enc Try.prog Try.f9 Rows.entryOnceRow.domain false) (Rows.entryOnceSpec.post enc Try.prog Try.f9 false true false false) := by
  refine returnsInHanded_of_change (C := Try.checked) own started (by kernel_rfl) Try.func9
    (ChangeSpec.witness6 (enc := enc) (C := Try.checked) false ⟨#[], #[.slice none 0 0, .int .i64 0], []⟩ 8 (by kernel_rfl) (by kernel_rfl) (by kernel_rfl) (by kernel_rfl)) ?_
  intro W base args ds gs before hval0 hW hcnd _
  have hval : ∀ (j : Nat) t v, Try.f9.params[j]? = some t → args[j]? = some v → Value.okWide Try.prog W .any base t v := hval0
  have hW' := hW
  obtain ⟨p, q, hA0, hV, rfl, hfz, hnd⟩ := hW
  obtain ⟨rfl, rfl⟩ := trodVars_none hV
  have hA : DataW.TrodAll enc Try.prog W 0 (fun _ => true) true Try.f9.params.toList args.toList ds p := hA0
  have hlt : ∀ x ∈ p, x.block < W.heap.size := fun x hx => hW'.lt x (by simpa using hx)
  rw [Try.params9] at hA hval
  obtain ⟨v0, vs0, d0, ds0, p0, q0, hargs, rfl, rfl, h0, r0⟩ := trodAll_cons hA
  obtain ⟨v1, vs1, d1, ds1, p1, q1, rfl, rfl, rfl, h1, r1⟩ := trodAll_cons r0
  obtain ⟨rfl, rfl, rfl⟩ := trodAll_nil r1
  obtain rfl : args = #[v0, v1] := by cases args; simp_all
  obtain ⟨a0, b0, s0⟩ := in_ints (k := .u64) Try.underlying30 Try.underlying23 (by kernel_rfl) (hval 0 _ _ rfl rfl) h0 (S := fun b => b < W.heap.size) (fun x hx => hlt x (by simp [hx]))
  obtain ⟨a1, b1, s1⟩ := in_int (k := .i64) Try.underlying3 (hval 1 _ _ rfl rfl) h1 (S := fun b => b < W.heap.size)
  refine ((k_law08_EntryOnce a0 (wf_U b0.1) a1).2 (fun b => b < W.heap.size) W #[v0, v1] (fun _ h => h) (.cons s0 (.cons s1 .nil))).mono fun e W' hh => ?_
  obtain ⟨v, F, he, hsh, hg, _, _⟩ := hh
  have hv := shows_bool hsh
  subst he hv
  exact ⟨_, rfl, law_post (by kernel_rfl) (by kernel_rfl) rfl rfl Try.underlying4 hW' ⟨rfl, rfl, rfl⟩ hg⟩

theorem over : Rows.entryOnceRow.holds Try.pinned (OpenSpec.ofChange Rows.entryOnceSpec) :=
  OpenClaim.holds_of_wide 9 Try.f9 rfl rfl rfl rfl rfl rfl rfl ⟨rfl, rfl, rfl, rfl, rfl⟩ rfl rfl rfl rfl rfl (by kernel_rfl) Try.func9 (by kernel_rfl)
    (of_decide_eq_true (by kernel_rfl)) (by unfold Func.isWrapper; first | (rw [if_pos (by decide +kernel)]; kernel_rfl) | (rw [if_neg (by decide +kernel)]; exact ⟨rfl, rfl⟩))
    (fun os started H enc _ => lifted os started H enc)

/-- THE STATEMENT. -/
theorem proved : Rows.EntryOnceSaid :=
  over
#print axioms proved
end Go.Proofs.Ytmhnogmbpoeaeaa.entryOnce
