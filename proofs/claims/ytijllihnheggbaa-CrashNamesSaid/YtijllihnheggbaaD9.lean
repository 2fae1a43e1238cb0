/-
  The contracts of the program's functions, data in, data out. Conditions: those in the statements.
-/
import Derived.Test.YtijllihnheggbaaD8
import Derived.Test.YtijllihnheggbaaI1
namespace Go.Proofs.Ytijllihnheggbaa
set_option linter.all false
open Go Go.Proofs.Ytijllihnheggbaa.Eng Go.RowKit
noncomputable section

theorem k_alive4 : Con Try.prog 14 [] [rB true] := runCon (P := Try.prog) (by kernel_rfl) (noPrim_ok _) (lim := 5000) (n := 40) (by kernel_rfl)
theorem keep_ones (i : Nat) : keepB 18446744073709551615 i = true := by
  unfold keepB
  have h : i % 64 < 64 := Nat.mod_lt _ (by decide)
  generalize i % 64 = k at h
  have key : ∀ k < 64, decide ((18446744073709551615 : Int) / 2 ^ k % 2 = 1) = true := by decide
  exact key k h
theorem keep_zero (i : Nat) : keepB 0 i = false := by unfold keepB; simp
theorem keptF_ones : ∀ (k : Nat) (l : List Dty), keptF 18446744073709551615 k l = l
  | _, [] => rfl
  | k, x :: r => by unfold keptF; rw [keep_ones, keptF_ones]; rfl
theorem keptF_zero : ∀ (k : Nat) (l : List Dty), keptF 0 k l = []
  | _, [] => rfl
  | k, x :: r => by unfold keptF; rw [keep_zero, keptF_zero]; rfl
theorem crash_ones (d : Dev) : (crashD d 18446744073709551615).img = words d := by
  rw [crashD_img]
  unfold words keptD keptL
  rw [keptF_ones]
theorem crash_zero (d : Dev) : (crashD d 0).img = d.img := by
  rw [crashD_img]
  unfold words keptD keptL
  rw [keptF_zero]
  rfl
theorem crash_again (d : Dev) (m a : Int) : crashD (crashD d m) a = crashD d m := by
  rw [crashD_eq (crashD d m) a]
  unfold words keptD
  rw [crashD_dirty, keptL_nil, crashD_img, crashD_eq]
  rfl
theorem crashX_ok {d : Dev} (m : Int) (h : chkD d = 0) : crashX d m = crashD d m := by unfold crashX; rw [if_pos h]
theorem chosenX_ok {d : Dev} (m : Int) (h : chkD d = 0) : chosenX d m = chosenL m d.dirty.length := by unfold chosenX; rw [if_pos h]
theorem k_Crash_ok (d : Dev) (m : Int) (hm : d.img.length ≤ 1000000) (hl : d.dirty.length ≤ 1000000) (h0 : 0 ≤ m ∧ m < 18446744073709551616) (h : chkD d = 0) : Con Try.prog 10 [devA d, vN .u64 m] [sDev (crashD d m), rN .i64 0] := by
  have := k_Crash_s d m hm hl h0
  rw [h, crashX_ok m h] at this
  exact this
theorem k_Chosen_ok (d : Dev) (m : Int) (hm : d.img.length ≤ 1000000) (hl : d.dirty.length ≤ 1000000) (h0 : 0 ≤ m ∧ m < 18446744073709551616) (h : chkD d = 0) : Con Try.prog 11 [devA d, vN .u64 m] [sI (chosenL m d.dirty.length), rN .i64 0] := by
  have := k_crash_Chosen d m hm hl h0
  rw [h, chosenX_ok m h] at this
  exact this
/-! What lies where behind a crash. -/
theorem val_mem {l : List Dty} {x : Dty} (hs : Srt l) (hx : x ∈ l) : val l x.at_ = some x := by
  cases hv : val l x.at_ with
  | none => exact absurd (List.find?_eq_none.1 hv x hx) (by simp)
  | some y =>
    obtain ⟨h1, h2⟩ := val_at hv
    obtain ⟨i, hi, rfl⟩ := List.getElem_of_mem hx
    obtain ⟨j, hj, rfl⟩ := List.getElem_of_mem h2
    have e1 : l[i] = l.getD i default := by simp [List.getD, hi]
    have e2 : l[j] = l.getD j default := by simp [List.getD, hj]
    rw [e1, e2] at h1 ⊢
    rcases Nat.lt_trichotomy i j with h | h | h
    · have := hs i j h hj; omega
    · rw [h]
    · have := hs j i h hi; omega
theorem crash_at {d : Dev} {a : Int} (m : Int) (h : chkD d = 0) (h0 : 0 ≤ a) (h1 : a < d.img.length) : (words (keptD d m)).getD a.toNat 0 = match val (keptL m d.dirty) a with | some x => x.v | none => d.img.getD a.toNat 0 := by
  have hk := chkD_kept m h
  rw [words_at (asked_of hk h0 h1), wordAt_val (chkD_srt hk)]
  rfl
theorem view_at {d : Dev} {a : Int} (h : chkD d = 0) (h0 : 0 ≤ a) (h1 : a < d.img.length) : (words d).getD a.toNat 0 = match val d.dirty a with | some x => x.v | none => d.img.getD a.toNat 0 := by
  rw [words_at (asked_of h h0 h1), wordAt_val (chkD_srt h)]
  rfl
theorem old_or_new {d : Dev} {i : Nat} (m : Int) (h : chkD d = 0) (hi : i < d.img.length) : (crashD d m).img.getD i 0 = d.img.getD i 0 ∨ (crashD d m).img.getD i 0 = (words d).getD i 0 := by
  have e1 := crash_at (a := (i : Int)) m h (by omega) (by omega)
  have e2 := view_at (a := (i : Int)) h (by omega) (by omega)
  rw [Int.toNat_natCast] at e1 e2
  rw [crashD_img, e1, e2]
  cases hv : val (keptL m d.dirty) (i : Int) with
  | none => exact .inl rfl
  | some y =>
    obtain ⟨q1, q2⟩ := val_at hv
    have := val_mem (chkD_srt h) ((keptL_sub m d.dirty).mem q2)
    rw [q1] at this
    rw [this]
    exact .inr rfl
theorem kept_new {d : Dev} {i : Nat} {m : Int} (h : chkD d = 0) (hi : i < d.dirty.length) (hk : keepB m i = true) : (crashD d m).img.getD (d.dirty.getD i default).at_.toNat 0 = (words d).getD (d.dirty.getD i default).at_.toNat 0 := by
  have hb := (devOk_all h).1 i hi
  have hs := chkD_srt h
  have hx : d.dirty.getD i default ∈ d.dirty := by simp [List.getD, hi]
  have hy : d.dirty.getD i default ∈ keptL m d.dirty := by
    rw [keptL_split m (i := i) (by omega), drop_getD hi]
    unfold keptF
    rw [hk]
    simp
  rw [crashD_img, crash_at m h hb.1 hb.2, view_at h hb.1 hb.2, val_mem hs hx, val_mem (srt_sub (keptL_sub m d.dirty) hs) hy]
theorem lost_old {d : Dev} {i : Nat} {m : Int} (h : chkD d = 0) (hi : i < d.dirty.length) (hk : keepB m i = false) : (crashD d m).img.getD (d.dirty.getD i default).at_.toNat 0 = d.img.getD (d.dirty.getD i default).at_.toNat 0 := by
  have hb := (devOk_all h).1 i hi
  have hs := chkD_srt h
  rw [crashD_img, crash_at m h hb.1 hb.2]
  have hn : val (keptL m d.dirty) (d.dirty.getD i default).at_ = none := by
    refine List.find?_eq_none.2 fun y hy => ?_
    simp only [decide_eq_true_eq]
    rw [keptL_split m (i := i) (by omega), drop_getD hi] at hy
    unfold keptF at hy
    rw [hk] at hy
    simp only [Bool.false_eq_true, if_false] at hy
    rcases List.mem_append.1 hy with hy | hy
    · obtain ⟨j, hj, rfl⟩ := List.getElem_of_mem ((keptL_sub m _).mem hy)
      rw [List.length_take] at hj
      have := hs j i (by omega) hi
      simp only [List.getElem_take]
      simp only [List.getD, List.getElem?_eq_getElem (show j < d.dirty.length by omega), Option.getD_some] at this ⊢
      omega
    · obtain ⟨j, hj, rfl⟩ := List.getElem_of_mem ((keptF_sub m (i + 1) _).mem hy)
      rw [List.length_drop] at hj
      have := hs i (i + 1 + j) (by omega) (by omega)
      simp only [List.getElem_drop]
      simp only [List.getD, List.getElem?_eq_getElem (show i + 1 + j < d.dirty.length by omega), Option.getD_some] at this ⊢
      omega
  rw [hn]
theorem chosenN_split (m : Int) {i n : Nat} (h : i ≤ n) : chosenN m n = chosenN m i ++ ((List.range (n - i)).map (i + ·)).filter (keepB m) := by
  unfold chosenN
  conv => lhs; rw [show n = i + (n - i) by omega]
  rw [List.range_add, List.filter_append]
theorem chosen_here {m : Int} {i n : Nat} (h : i < n) : ((chosenL m i).length < (chosenL m n).length ∧ (chosenL m n).getD (chosenL m i).length 0 = (i : Int)) ↔ keepB m i = true := by
  have e : chosenL m n = chosenL m i ++ (((List.range (n - i)).map (i + ·)).filter (keepB m)).map fun (k : Nat) => (k : Int) := by
    unfold chosenL
    rw [chosenN_split m (i := i) (by omega), List.map_append]
  have e2 : n - i = (n - i - 1) + 1 := by omega
  rw [e2, List.range_succ_eq_map, List.map_cons, Nat.add_zero, List.filter_cons] at e
  cases hk : keepB m i with
  | true =>
    rw [hk, if_pos rfl, List.map_cons] at e
    refine ⟨fun _ => rfl, fun _ => ⟨?_, ?_⟩⟩
    · rw [e]; simp
    · rw [e]; simp [List.getD]
  | false =>
    rw [hk, if_neg (by simp)] at e
    refine ⟨fun ⟨h1, h2⟩ => ?_, fun h => by cases h⟩
    rw [e, List.length_append] at h1
    have h3 : (chosenL m n).getD (chosenL m i).length 0 ∈ (((List.range (n - i - 1)).map Nat.succ).map (i + ·) |>.filter (keepB m)).map fun (k : Nat) => (k : Int) := by
      rw [e]
      have h4 : 0 < ((((List.range (n - i - 1)).map Nat.succ).map (i + ·) |>.filter (keepB m)).map fun (k : Nat) => (k : Int)).length := by omega
      have e5 : ∀ (a b : List Int), 0 < b.length → (a ++ b).getD a.length 0 ∈ b := fun a b hb => by
        simp [List.getD, hb]
      exact e5 _ _ h4
    rw [h2] at h3
    simp only [List.mem_map, List.mem_filter, List.mem_range] at h3
    obtain ⟨k, ⟨⟨j, ⟨j', hj', rfl⟩, rfl⟩, _⟩, hki⟩ := h3
    omega
end
end Go.Proofs.Ytijllihnheggbaa
