/-
  The contracts of the program's functions, data in, data out. Conditions: those in the statements.
-/
import Derived.Test.YtijllihnheggbaaC17
namespace Go.Proofs.Ytijllihnheggbaa
set_option linter.all false
open Go Go.Proofs.Ytijllihnheggbaa.Eng Go.RowKit
noncomputable section

theorem isB {W : Prop} {P : Program} {K : St → Prop} {dst : Option Nat} {op : Op} {t : Nat} {w : Bool} {rest : List SO} {s : St} (b : Bool) (hb : boolV s t = some b) (h : RegA W P K (⟨dst, op, some (t, w)⟩ :: rest) s) : RegA W P K (⟨dst, op, some (t, w)⟩ :: rest) s := h
theorem words_fence (d : Dev) (h0 : chkD d = 0) : words (fenceD d) = words d := by
  have h := chkD_fence h0
  exact words_ext h.1 h0 h.2 fun b h1 h2 => word_fence h0 h1 (by rw [← h.2]; exact h2)
theorem words_flush (d : Dev) (a : Int) (h0 : chkD d = 0) : words (flushD d a) = words d := by
  have h := chkD_flush a h0
  exact words_ext h.1 h0 (by rw [h.2]) fun b h1 h2 => word_flush h0
theorem storeX_ok {d : Dev} {a v : Int} (h : asked d a = 0) : storeX d a v = storeD d a v ∧ chkD (storeX d a v) = 0 ∧ (storeX d a v).img = d.img := by
  have e : storeX d a v = storeD d a v := by unfold storeX; rw [if_pos h]
  have h1 := chkD_store (v := v) h
  rw [e]
  exact ⟨rfl, h1.1, h1.2⟩
theorem flushX_ok {d : Dev} {a : Int} (h : asked d a = 0) : flushX d a = flushD d a ∧ chkD (flushX d a) = 0 ∧ (flushX d a).img = d.img := by
  have e : flushX d a = flushD d a := by unfold flushX; rw [if_pos h]
  have h1 := chkD_flush a (asked_chk h).1
  rw [e]
  exact ⟨rfl, h1.1, h1.2⟩
theorem fenceX_ok {d : Dev} (h : chkD d = 0) : fenceX d = fenceD d ∧ chkD (fenceX d) = 0 ∧ (fenceX d).img.length = d.img.length := by
  have e : fenceX d = fenceD d := by unfold fenceX; rw [if_pos h]
  have h1 := chkD_fence h
  rw [e]
  exact ⟨rfl, h1.1, h1.2⟩
theorem down_left {d : Dev} (h : chkD d = 0) (hl : ¬ d.left = 0) : d.down = false := by
  have := ((devOk_iff d).1 h).2.2.2.2
  cases hd : d.down with
  | false => rfl
  | true => exact absurd (this hd) hl
theorem made_iff (d : Dev) : madeB d = true ↔ ¬ d.left = 0 := by unfold madeB; simp
theorem store_down {d : Dev} (a v : Int) (h : chkD d = 0) : (storeD d a v).down = decide (d.left = 0) := by
  unfold storeD
  by_cases hl : d.left = 0
  · rw [if_neg (by rw [made_iff]; simp [hl])]
    unfold spent
    rw [if_pos hl]
    simp [hl]
  · rw [if_pos ((made_iff d).2 hl)]
    show (spent d).down = _
    unfold spent
    rw [if_neg hl]
    have := down_left h hl
    split <;> simp [hl, this]
theorem asked_storeD {d : Dev} {a o : Int} (v : Int) (h : asked d a = 0) (h0 : 0 ≤ o) (h1 : o < d.img.length) : asked (storeD d a v) o = 0 := by
  have := chkD_store (v := v) h
  exact asked_of this.1 h0 (by rw [this.2]; exact h1)
theorem k_Store_ok (d : Dev) (a v : Int) (hm : d.img.length ≤ 1000000) (hl : d.dirty.length ≤ 1000000) (h : asked d a = 0) : Con Try.prog 24 [devA d, vN .i64 a, vN .u64 v] [rDev (storeD d a v), rN .i64 0] := by
  have h1 := (asked_chk h).2
  have := k_cache_Store d a v hm hl ⟨by omega, by omega⟩
  rw [h, (storeX_ok h).1] at this
  exact this
theorem k_Flush_ok (d : Dev) (a : Int) (hm : d.img.length ≤ 1000000) (hl : d.dirty.length ≤ 1000000) (h : asked d a = 0) : Con Try.prog 25 [devA d, vN .i64 a] [rDev (flushD d a), rN .i64 0] := by
  have h1 := (asked_chk h).2
  have := k_cache_Flush d a hm hl ⟨by omega, by omega⟩
  rw [h, (flushX_ok h).1] at this
  exact this
theorem k_Fence_ok (d : Dev) (hm : d.img.length ≤ 1000000) (hl : d.dirty.length ≤ 1000000) (h : chkD d = 0) : Con Try.prog 26 [devA d] [rDev (fenceD d), rN .i64 0] := by
  have := k_cache_Fence d hm hl
  rw [h, (fenceX_ok h).1] at this
  exact this
theorem k_Load_ok (d : Dev) (a : Int) (hm : d.img.length ≤ 1000000) (hl : d.dirty.length ≤ 1000000) (h : asked d a = 0) : Con Try.prog 27 [devA d, vN .i64 a] [rN .u64 (wordAt d a), rN .i64 0] := by
  have h1 := (asked_chk h).2
  have := k_cache_Load d a hm hl ⟨by omega, by omega⟩
  have e : loadV d a = wordAt d a := by unfold loadV; rw [if_pos h]
  rw [h, e] at this
  exact this
theorem k_View_ok (d : Dev) (hm : d.img.length ≤ 1000000) (hl : d.dirty.length ≤ 1000000) (h : chkD d = 0) : Con Try.prog 22 [devA d] [rO .u64 (words d), rN .i64 0] := by
  have := k_cache_View d hm hl
  have e : viewL d = words d := by unfold viewL; rw [if_pos h]
  rw [h, e] at this
  exact this
end
end Go.Proofs.Ytijllihnheggbaa
