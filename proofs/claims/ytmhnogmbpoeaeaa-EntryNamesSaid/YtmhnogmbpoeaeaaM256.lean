/-
  The contracts of the program's functions, data in, data out. Conditions: those in the statements.
-/
import Derived.Test.YtmhnogmbpoeaeaaH1
namespace Go.Proofs.Ytmhnogmbpoeaeaa
set_option linter.all false
open Go Go.Proofs.Ytmhnogmbpoeaeaa.Eng Go.RowKit
noncomputable section
theorem rep_len {α : Type} (n : Nat) (v : α) : (rep n v).length = n := by unfold rep; exact List.length_replicate
theorem z_len : (rep 256 (0 : Int)).length = 256 := rep_len _ _
theorem z_get (k : Nat) : (rep 256 (0 : Int)).getD k 0 = 0 := by
  unfold rep
  rw [List.getD, List.getElem?_replicate]
  split <;> rfl
theorem z_U : ∀ x ∈ rep 256 (0 : Int), isU x := by unfold rep; exact fun x hx => by rw [List.eq_of_mem_replicate hx]; unfold isU; omega
theorem chk256 : chk 256 = 0 := by unfold chk sz; decide
theorem chk_8 : ¬ chk 8 = 0 := by unfold chk sz; decide
theorem chk_l {m : List Int} (h : m.length = 256) : chk m.length = 0 := by rw [h]; exact chk256
theorem set_U {l : List Int} (h : ∀ x ∈ l, isU x) (k : Nat) {v : Int} (hv : isU v) : ∀ x ∈ l.set k v, isU x := fun x hx => by
  rcases List.mem_or_eq_of_mem_set hx with h1 | h1
  · exact h x h1
  · rw [h1]; exact hv
theorem mk256 (s : St) (seed : Nat) : effect Try.prog s seed (.makeSlice 30 (.const (.int .i64 256)) (.const (.int .i64 256))) = some ⟨some (one (.own seed 256)), [(seed, .row 1 ((rep 256 0).map (numD .u64)) false)], 1⟩ := by kernel_rfl
theorem aMk256 {W : Prop} {K : St → Prop} {dst : Option Nat} {g : Option (Nat × Bool)} {rest : List SO} {s s' : St} (h : RegA W Try.prog K rest s') (hg : gOk s g := by (first | exact trivial | rfl | exact congrArg some ‹_›)) (hd : dstOk s dst = true := by rfl)
    (hs : put1 s dst (some (one (.own s.nx 256))) [(s.nx, .row 1 ((rep 256 0).map (numD .u64)) false)] (s.nx + 1) = s' := by (simp (disch := omega) only [List.length_map, Nat.reduceBEq, Bool.not_false, Bool.not_true, ↓reduceIte, Bool.false_eq_true, BEq.rfl, put1, skip1, frOf, know, vv, one, del, decide_true, decide_false, List.filter_cons, List.filter_nil, List.nil_append, List.cons_append, Nat.reduceAdd, Nat.add_zero, XN, XG]; rfl)) : RegA W Try.prog K (⟨dst, .makeSlice 30 (.const (.int .i64 256)) (.const (.int .i64 256)), g⟩ :: rest) s := by
  subst hs
  exact .op hg hd (mk256 s s.nx) h
end
end Go.Proofs.Ytmhnogmbpoeaeaa
