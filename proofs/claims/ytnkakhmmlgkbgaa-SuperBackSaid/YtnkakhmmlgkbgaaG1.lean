/-
  The contracts of the program's functions, data in, data out. Conditions: those in the statements.
-/
import Derived.Test.YtnkakhmmlgkbgaaF3
namespace Go.Proofs.Ytnkakhmmlgkbgaa
set_option linter.all false
open Go Go.Proofs.Ytnkakhmmlgkbgaa.Eng Go.RowKit
noncomputable section

/-! Images: words of a range. -/
@[irreducible] def getL (m : List Int) (a n : Int) : List Int := if getE m.length a n = 0 then (m.drop a.toNat).take n.toNat else []
@[irreducible] def putL (m : List Int) (a : Int) (l : List Int) : List Int := if getE m.length a l.length = 0 then m.take a.toNat ++ (l ++ m.drop (a.toNat + l.length)) else []
@[irreducible] def newL (n : Int) : List Int := if sz n = true then List.replicate n.toNat 0 else []
@[irreducible] def newE' (n : Int) : Int := if sz n = true then 0 else 2
theorem getE_0 {w a n : Int} (h : chk w = 0) (h1 : 0 ≤ a) (h2 : 0 ≤ n) (h3 : n ≤ w - a) : getE w a n = 0 := by unfold getE; rw [if_pos h, if_pos ⟨h1, h2, h3⟩]
theorem getE_2 {w a n : Int} (h : chk w = 0) (h1 : ¬ (0 ≤ a ∧ 0 ≤ n ∧ n ≤ w - a)) : getE w a n = 2 := by unfold getE; rw [if_pos h, if_neg h1]
theorem getE_8 {w a n : Int} (h : ¬ chk w = 0) : getE w a n = 8 := by unfold getE; rw [if_neg h]
theorem getE_is {w a n : Int} (h : getE w a n = 0) : chk w = 0 ∧ 0 ≤ a ∧ 0 ≤ n ∧ n ≤ w - a := by
  unfold getE at h
  split at h
  · split at h
    · rename_i h1 h2; exact ⟨h1, h2⟩
    · omega
  · omega
theorem getL_0 {m : List Int} {a n : Int} (h : getE m.length a n = 0) : getL m a n = (m.drop a.toNat).take n.toNat := by unfold getL; rw [if_pos h]
theorem getL_no {m : List Int} {a n : Int} (h : ¬ getE m.length a n = 0) : getL m a n = [] := by unfold getL; rw [if_neg h]
theorem putL_0 {m l : List Int} {a : Int} (h : getE m.length a l.length = 0) : putL m a l = m.take a.toNat ++ (l ++ m.drop (a.toNat + l.length)) := by unfold putL; rw [if_pos h]
theorem putL_no {m l : List Int} {a : Int} (h : ¬ getE m.length a l.length = 0) : putL m a l = [] := by unfold putL; rw [if_neg h]
theorem newL_yes {n : Int} (h : sz n = true) : newL n = List.replicate n.toNat 0 := by unfold newL; rw [if_pos h]
theorem newL_no {n : Int} (h : sz n = false) : newL n = [] := by unfold newL; rw [h]; rfl
theorem newE_yes {n : Int} (h : sz n = true) : newE' n = 0 := by unfold newE'; rw [if_pos h]
theorem newE_no {n : Int} (h : sz n = false) : newE' n = 2 := by unfold newE'; rw [h]; rfl
theorem sz_le {n : Int} (h : sz n = true) : 256 ≤ n ∧ n ≤ 2048 ∧ n % 8 = 0 := by
  unfold sz at h
  simp only [Bool.and_eq_true, decide_eq_true_eq] at h
  omega
theorem chk_sz (n : Int) : chk n = 0 ↔ sz n = true := by
  unfold chk
  cases sz n <;> simp
theorem chk_or (n : Int) : chk n = 0 ∨ chk n = 8 := by unfold chk; split <;> simp
/-! Where two lists differ. -/
@[irreducible] def difN (a b : List Int) (n : Nat) : List Nat := (List.range n).filter fun i => !decide (a.getD i 0 = b.getD i 0)
@[irreducible] def difI (a b : List Int) (n : Nat) : List Int := (difN a b n).map fun (k : Nat) => (k : Int)
theorem difI_zero (a b : List Int) : difI a b 0 = [] := by unfold difI difN; rfl
theorem difI_t {a b : List Int} {i : Nat} (h : ¬ a.getD i 0 = b.getD i 0) : difI a b i ++ [(i : Int)] = difI a b (i + 1) := by
  unfold difI difN
  rw [List.range_succ, List.filter_append]
  simp only [List.filter_cons, List.filter_nil, h, decide_false, Bool.not_false, if_true, List.map_append, List.map_cons, List.map_nil]
theorem difI_f {a b : List Int} {i : Nat} (h : a.getD i 0 = b.getD i 0) : difI a b i = difI a b (i + 1) := by
  unfold difI difN
  rw [List.range_succ, List.filter_append]
  simp only [List.filter_cons, List.filter_nil, h, decide_true, Bool.not_true, Bool.false_eq_true, if_false, List.append_nil]
theorem difI_le (a b : List Int) (i : Nat) : (difI a b i).length ≤ i := by
  unfold difI difN
  rw [List.length_map]
  exact Nat.le_trans (List.length_filter_le _ _) (by simp)
@[irreducible] def difE (a b : List Int) : Int := if chk a.length = 0 then (if chk b.length = 0 then (if a.length = b.length then 0 else 2) else 8) else 8
@[irreducible] def difL (a b : List Int) : List Int := if difE a b = 0 then difI a b a.length else []
def rI64 (l : List Int) : RX := .one (.o 1 (l.map (numD .i64)))
theorem difE_a {a : List Int} (b : List Int) (h : ¬ chk a.length = 0) : difE a b = 8 ∧ difL a b = [] := by
  have e : difE a b = 8 := by unfold difE; rw [if_neg h]
  exact ⟨e, by unfold difL; rw [if_neg (by omega)]⟩
theorem difE_b {a b : List Int} (h : chk a.length = 0) (h2 : ¬ chk b.length = 0) : difE a b = 8 ∧ difL a b = [] := by
  have e : difE a b = 8 := by unfold difE; rw [if_pos h, if_neg h2]
  exact ⟨e, by unfold difL; rw [if_neg (by omega)]⟩
theorem difE_c {a b : List Int} (h : chk a.length = 0) (h2 : chk b.length = 0) (h3 : ¬ a.length = b.length) : difE a b = 2 ∧ difL a b = [] := by
  have e : difE a b = 2 := by unfold difE; rw [if_pos h, if_pos h2, if_neg h3]
  exact ⟨e, by unfold difL; rw [if_neg (by omega)]⟩
theorem difE_d {a b : List Int} (h : chk a.length = 0) (h2 : chk b.length = 0) (h3 : a.length = b.length) : difE a b = 0 ∧ difL a b = difI a b a.length := by
  have e : difE a b = 0 := by unfold difE; rw [if_pos h, if_pos h2, if_pos h3]
  exact ⟨e, by unfold difL; rw [if_pos e]⟩
end
end Go.Proofs.Ytnkakhmmlgkbgaa
