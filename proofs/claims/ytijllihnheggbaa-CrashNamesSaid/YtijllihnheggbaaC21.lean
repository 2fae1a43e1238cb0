/-
  The contracts of the program's functions, data in, data out. Conditions: those in the statements.
-/
import Derived.Test.YtijllihnheggbaaC18
import Derived.Test.YtijllihnheggbaaI4
namespace Go.Proofs.Ytijllihnheggbaa
set_option linter.all false
open Go Go.Proofs.Ytijllihnheggbaa.Eng Go.RowKit
noncomputable section

theorem exS2 {W : Prop} {P : Program} {sf s1 s2 : St} {tl1 tl2 : List SO} {K : St → Prop} (h1 : RegA W P (fun s' => Slim sf s') tl1 s1) (h2 : RegA W P (fun s' => Slim sf s') tl2 s2) (hq : K sf) :
    ∃ sf, K sf ∧ RegA W P (fun s'' => Slim sf s'') tl1 s1 ∧ RegA W P (fun s'' => Slim sf s'') tl2 s2 := ⟨sf, hq, h1, h2⟩
theorem fenceD_free {d : Dev} (h : d.left = -1) : fenceD d = ⟨imgF d.img d.dirty, unfl d.dirty, d.left, d.down⟩ := by
  have hm : madeB d = true := (made_iff d).2 (by omega)
  have hs : spent d = d := by unfold spent; rw [if_neg (by omega), if_pos h]
  unfold fenceD
  rw [if_pos hm, hs]
theorem flushD_free {d : Dev} (a : Int) (h : d.left = -1) : flushD d a = ⟨d.img, flu a d.dirty, d.left, d.down⟩ := by
  have hm : madeB d = true := (made_iff d).2 (by omega)
  have hs : spent d = d := by unfold spent; rw [if_neg (by omega), if_pos h]
  unfold flushD
  rw [if_pos hm, hs]
@[irreducible] def flus (l : List Dty) (j : Nat) : List Dty := (l.take j).foldl (fun acc x => flu x.at_ acc) l
theorem flus_zero (l : List Dty) : flus l 0 = l := by unfold flus; rfl
theorem flus_succ {l : List Dty} {j : Nat} (h : j < l.length) : flus l (j + 1) = flu (l.getD j default).at_ (flus l j) := by
  unfold flus
  rw [List.take_add_one, List.foldl_append]
  simp [List.getD, h]
theorem foldl_flu_len (S : List Dty) : ∀ l : List Dty, (S.foldl (fun acc x => flu x.at_ acc) l).length = l.length := by
  induction S with
  | nil => intro l; rfl
  | cons s S ih => intro l; rw [List.foldl_cons, ih, flu_len]
theorem flus_len (l : List Dty) (j : Nat) : (flus l j).length = l.length := by unfold flus; exact foldl_flu_len _ _
theorem foldl_flu_incr {w last : Int} (S : List Dty) : ∀ l : List Dty, incr w last (S.foldl (fun acc x => flu x.at_ acc) l) = incr w last l := by
  induction S with
  | nil => intro l; rfl
  | cons s S ih => intro l; rw [List.foldl_cons, ih, incr_flu]
theorem flus_incr {w last : Int} (l : List Dty) (j : Nat) : incr w last (flus l j) = incr w last l := by unfold flus; exact foldl_flu_incr _ _
def gfl (S : List Dty) (x : Dty) : Dty := if S.any (fun s => decide (x.at_ / 8 = s.at_ / 8)) = true then ⟨x.at_, x.v, true⟩ else x
theorem foldl_flu_map (S : List Dty) : ∀ l : List Dty, S.foldl (fun acc x => flu x.at_ acc) l = l.map (gfl S) := by
  induction S with
  | nil =>
    intro l
    have e : gfl [] = id := funext fun x => by simp [gfl]
    rw [e]; simp
  | cons s S ih =>
    intro l
    rw [List.foldl_cons, ih]
    unfold flu
    rw [List.map_map]
    refine List.map_congr_left fun x _ => ?_
    show gfl S (flx s.at_ x) = gfl (s :: S) x
    unfold gfl flx
    by_cases h1 : x.at_ / 8 = s.at_ / 8
    · rw [if_pos h1]
      simp [h1]
    · rw [if_neg h1]
      simp [h1]
theorem flus_all (l : List Dty) : flus l l.length = l.map fun x => ⟨x.at_, x.v, true⟩ := by
  unfold flus
  rw [List.take_length, foldl_flu_map]
  refine List.map_congr_left fun x hx => ?_
  unfold gfl
  rw [if_pos (List.any_eq_true.2 ⟨x, hx, by simp⟩)]
theorem end_img (d : Dev) : imgF d.img (flus d.dirty d.dirty.length) = words d := by
  rw [flus_all]
  unfold imgF words
  rw [List.filter_eq_self.2 (fun x hx => by obtain ⟨y, _, rfl⟩ := List.mem_map.1 hx; rfl), List.foldl_map]
theorem end_dirty (d : Dev) : unfl (flus d.dirty d.dirty.length) = [] := by
  rw [flus_all]
  unfold unfl
  rw [List.filter_eq_nil_iff]
  intro x hx
  obtain ⟨y, _, rfl⟩ := List.mem_map.1 hx
  simp
theorem lb_next {l : List Dty} (hs : Srt l) (i : Int) : lb l (i + 1) = if lb l i < l.length ∧ (l.getD (lb l i) default).at_ = i then lb l i + 1 else lb l i := by
  have hle := lb_le l i
  have hlt := lb_lt (l := l) (a := i)
  have hge := lb_ge (a := i) hs
  split
  · rename_i hc
    refine lb_eq (by omega) (fun k hk => ?_) fun k hk hk2 => ?_
    · by_cases hk1 : k < lb l i
      · have := hlt k hk1; omega
      · obtain rfl : k = lb l i := by omega
        omega
    · have := hs (lb l i) k (by omega) hk2
      omega
  · rename_i hc
    refine lb_eq hle (fun k hk => by have := hlt k hk; omega) fun k hk hk2 => ?_
    have h1 := hge k hk hk2
    by_cases hk1 : k = lb l i
    · subst hk1
      have : ¬ (l.getD (lb l i) default).at_ = i := fun h => hc ⟨hk2, h⟩
      omega
    · have h2 := hs (lb l i) k (by omega) hk2
      have h3 := hge (lb l i) (Nat.le_refl _) (by omega)
      omega
theorem zimg {d : Dev} (h0 : chkD d = 0) (hl : d.left = -1) {i : Nat} (hi : i < d.img.length) : (fenceD d).img.getD i 0 = if lb d.dirty (i : Int) < d.dirty.length ∧ (d.dirty.getD (lb d.dirty (i : Int)) default).at_ = (i : Int) then (if (d.dirty.getD (lb d.dirty (i : Int)) default).fl = true then (d.dirty.getD (lb d.dirty (i : Int)) default).v else d.img.getD i 0) else d.img.getD i 0 := by
  have hs := chkD_srt h0
  rw [fenceD_free hl]
  show (imgF d.img d.dirty).getD i 0 = _
  have h := imgF_at (m := d.img) (a := (i : Int)) hs (fun x hx => (devOk_pos h0 x hx).1) (by omega) (by omega)
  rw [Int.toNat_natCast] at h
  rw [h]
  have hv : val d.dirty (i : Int) = _ := find_lb hs
  rw [hv]
  have hh : hasAt d.dirty (i : Int) = true ↔ (lb d.dirty (i : Int) < d.dirty.length ∧ (d.dirty.getD (lb d.dirty (i : Int)) default).at_ = (i : Int)) := by unfold hasAt; simp
  by_cases hc : hasAt d.dirty (i : Int) = true
  · rw [if_pos hc, if_pos (hh.1 hc)]
    cases hf : (d.dirty.getD (lb d.dirty (i : Int)) default).fl <;> simp [-List.getD_eq_getElem?_getD, Option.filter, hf]
  · rw [if_neg hc, if_neg fun h => hc (hh.2 h)]
    rfl
def sDev (d : Dev) : RX := .agg [.c (.sl 1 (d.img.map (numD .u64))), .c (.sl 3 (d.dirty.map dtyD)), .c (.v (.int .i64 d.left)), .c (.v (.bool d.down))]
def sO (l : List Int) : RX := .one (.c (.sl 1 (l.map (numD .u64))))
theorem k_Store_s (d : Dev) (a v : Int) (hm : d.img.length ≤ 1000000) (hl : d.dirty.length ≤ 1000000) (h : asked d a = 0) : Con Try.prog 24 [devA d, vN .i64 a, vN .u64 v] [sDev (storeD d a v), rN .i64 0] := (k_Store_ok d a v hm hl h).soft rfl
theorem k_Flush_s (d : Dev) (a : Int) (hm : d.img.length ≤ 1000000) (hl : d.dirty.length ≤ 1000000) (h : asked d a = 0) : Con Try.prog 25 [devA d, vN .i64 a] [sDev (flushD d a), rN .i64 0] := (k_Flush_ok d a hm hl h).soft rfl
theorem k_Fence_s (d : Dev) (hm : d.img.length ≤ 1000000) (hl : d.dirty.length ≤ 1000000) (h : chkD d = 0) : Con Try.prog 26 [devA d] [sDev (fenceD d), rN .i64 0] := (k_Fence_ok d hm hl h).soft rfl
theorem k_View_s (d : Dev) (hm : d.img.length ≤ 1000000) (hl : d.dirty.length ≤ 1000000) (h : chkD d = 0) : Con Try.prog 22 [devA d] [sO (words d), rN .i64 0] := (k_View_ok d hm hl h).soft rfl
end
end Go.Proofs.Ytijllihnheggbaa
