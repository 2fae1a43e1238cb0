/-
  The contracts of the program's functions, data in, data out. Conditions: those in the statements.
-/
import Derived.Test.YtijllihnheggbaaC18
import Derived.WalkSmall
namespace Go.Proofs.Ytijllihnheggbaa
set_option linter.all false
open Go Go.Proofs.Ytijllihnheggbaa.Eng Go.RowKit
noncomputable section

@[irreducible] def keepB (m : Int) (i : Nat) : Bool := decide (m / 2 ^ (i % 64) % 2 = 1)
theorem keep_eq {m : Int} (h0 : 0 ≤ m) (h1 : m < 18446744073709551616) (i : Nat) : decide (bits .and .u64 (m.fdiv (2 ^ (min (((i : Int) % 64).toNat) IntKind.u64.bits))) 1 = 1) = keepB m i := by
  have e1 : (((i : Int) % 64).toNat) = i % 64 := by omega
  have e2 : min (i % 64) IntKind.u64.bits = i % 64 := Nat.min_eq_left (by show i % 64 ≤ 64; omega)
  have hp : (0 : Int) < 2 ^ (i % 64) := Int.pow_pos (by decide)
  have h2 : 0 ≤ m / 2 ^ (i % 64) := Int.ediv_nonneg h0 (Int.le_of_lt hp)
  have h3 : m / 2 ^ (i % 64) ≤ m := Int.ediv_le_self _ h0
  rw [e1, e2, Int.fdiv_eq_ediv_of_nonneg _ (Int.le_of_lt hp), and_one_u64 _ h2 (by omega)]
  unfold keepB
  rfl
theorem tmod64 {a : Int} (h : 0 ≤ a) : a.tmod 64 = a % 64 := Int.tmod_eq_emod_of_nonneg h
theorem tmod2 {a : Int} (h : 0 ≤ a) : a.tmod 2 = a % 2 := Int.tmod_eq_emod_of_nonneg h
/-- The mask, so many bits further. -/
@[irreducible] def half (m : Int) (k : Nat) : Int := m / 2 ^ k
theorem half_zero (m : Int) : half m 0 = m := by unfold half; simp
theorem half_le {m : Int} (h0 : 0 ≤ m) (k : Nat) : 0 ≤ half m k ∧ half m k ≤ m := by
  unfold half
  have hp : (0 : Int) < 2 ^ k := Int.pow_pos (by decide)
  exact ⟨Int.ediv_nonneg h0 (Int.le_of_lt hp), Int.ediv_le_self _ h0⟩
theorem half_succ {m : Int} (h0 : 0 ≤ m) (h1 : m < 18446744073709551616) (k : Nat) : IntKind.u64.wrap ((half m k).tdiv 2) = half m (k + 1) := by
  have h := half_le h0 k
  rw [Int.tdiv_eq_ediv_of_nonneg h.1, u64_small ⟨by omega, by omega⟩]
  unfold half
  rw [Int.pow_succ, Int.ediv_ediv_of_nonneg (Int.le_of_lt (Int.pow_pos (by decide)))]
theorem half_keep {m : Int} (h0 : 0 ≤ m) (i : Nat) : decide ((half m (i % 64)).tmod 2 = 1) = keepB m i := by
  rw [tmod2 (half_le h0 _).1]
  unfold half keepB
  rfl
/-! What a mask keeps. -/
def keptF (m : Int) : Nat → List Dty → List Dty
  | _, [] => []
  | k, x :: r => if keepB m k then x :: keptF m (k + 1) r else keptF m (k + 1) r
@[irreducible] def keptL (m : Int) (l : List Dty) : List Dty := keptF m 0 l
theorem keptF_app (m : Int) : ∀ (k : Nat) (a b : List Dty), keptF m k (a ++ b) = keptF m k a ++ keptF m (k + a.length) b
  | k, [], b => by simp [keptF]
  | k, x :: a, b => by
    rw [List.cons_append, keptF, keptF, keptF_app m (k + 1) a b, List.length_cons, show k + 1 + a.length = k + (a.length + 1) by omega]
    split <;> rfl
theorem keptL_nil (m : Int) : keptL m [] = [] := by unfold keptL; rfl
theorem take_getD {l : List Dty} {i : Nat} (h : i < l.length) : l.take (i + 1) = l.take i ++ [l.getD i default] := by
  rw [List.take_add_one, List.getElem?_eq_getElem h]
  simp [List.getD, h]
theorem keptL_t {m : Int} {l : List Dty} {i : Nat} (h : i < l.length) (hk : keepB m i = true) : keptL m (l.take i) ++ [l.getD i default] = keptL m (l.take (i + 1)) := by
  unfold keptL
  rw [take_getD h, keptF_app, List.length_take, Nat.min_eq_left (by omega), Nat.zero_add]
  simp [keptF, hk]
theorem keptL_f {m : Int} {l : List Dty} {i : Nat} (h : i < l.length) (hk : keepB m i = false) : keptL m (l.take i) = keptL m (l.take (i + 1)) := by
  unfold keptL
  rw [take_getD h, keptF_app, List.length_take, Nat.min_eq_left (by omega), Nat.zero_add]
  simp [keptF, hk]
theorem keptF_sub (m : Int) : ∀ (k : Nat) (l : List Dty), (keptF m k l).Sublist l
  | _, [] => .slnil
  | k, x :: r => by
    unfold keptF
    split
    · exact (keptF_sub m (k + 1) r).cons_cons x
    · exact (keptF_sub m (k + 1) r).cons x
theorem keptL_sub (m : Int) (l : List Dty) : (keptL m l).Sublist l := by unfold keptL; exact keptF_sub m 0 l
theorem keptL_le (m : Int) (l : List Dty) : (keptL m l).length ≤ l.length := (keptL_sub m l).length_le
theorem keptL_take_le (m : Int) (l : List Dty) (i : Nat) : (keptL m (l.take i)).length ≤ i := Nat.le_trans (keptL_le _ _) (by simp; omega)
theorem keptL_split (m : Int) {l : List Dty} {i : Nat} (h : i ≤ l.length) : keptL m l = keptL m (l.take i) ++ keptF m i (l.drop i) := by
  have e := List.take_append_drop i l
  unfold keptL
  conv => lhs; rw [← e]
  rw [keptF_app, List.length_take, Nat.min_eq_left h, Nat.zero_add]
@[irreducible] def chosenN (m : Int) (n : Nat) : List Nat := (List.range n).filter (keepB m)
@[irreducible] def chosenL (m : Int) (n : Nat) : List Int := (chosenN m n).map fun (k : Nat) => (k : Int)
theorem chosenL_zero (m : Int) : chosenL m 0 = [] := by unfold chosenL chosenN; rfl
theorem chosenL_t {m : Int} {i : Nat} (hk : keepB m i = true) : chosenL m i ++ [(i : Int)] = chosenL m (i + 1) := by
  unfold chosenL chosenN
  rw [List.range_succ, List.filter_append]
  simp [hk]
theorem chosenL_f {m : Int} {i : Nat} (hk : keepB m i = false) : chosenL m i = chosenL m (i + 1) := by
  unfold chosenL chosenN
  rw [List.range_succ, List.filter_append]
  simp [hk]
theorem chosenL_len (m : Int) : ∀ {l : List Dty} {i : Nat}, i ≤ l.length → (chosenL m i).length = (keptL m (l.take i)).length
  | l, 0, _ => by rw [chosenL_zero, List.take_zero, keptL_nil]; rfl
  | l, i + 1, h => by
    have ih := chosenL_len m (l := l) (i := i) (by omega)
    cases hk : keepB m i with
    | true => rw [← chosenL_t hk, ← keptL_t (by omega) hk, List.length_append, List.length_append, ih]; rfl
    | false => rw [← chosenL_f hk, ← keptL_f (by omega) hk, ih]
theorem chosenL_le (m : Int) (i : Nat) : (chosenL m i).length ≤ i := by
  unfold chosenL chosenN
  rw [List.length_map]
  exact Nat.le_trans (List.length_filter_le _ _) (by simp)
/-- Where a dirty word is kept it is the next one of those that are. -/
theorem kept_here {m : Int} {l : List Dty} {i : Nat} (hs : Srt l) (h : i < l.length) : ((chosenL m i).length < (keptL m l).length ∧ l.getD i default = (keptL m l).getD (chosenL m i).length default) ↔ keepB m i = true := by
  have e := keptL_split m (l := l) (i := i) (by omega)
  have hl := chosenL_len m (l := l) (i := i) (by omega)
  rw [drop_getD h] at e
  unfold keptF at e
  cases hk : keepB m i with
  | true =>
    rw [hk] at e
    simp only [if_true] at e
    refine ⟨fun _ => rfl, fun _ => ⟨?_, ?_⟩⟩
    · rw [hl, e]; simp
    · rw [hl, e]; simp [List.getD]
  | false =>
    rw [hk] at e
    simp only [Bool.false_eq_true, if_false] at e
    refine ⟨fun ⟨h1, h2⟩ => ?_, fun h => by cases h⟩
    have hmem : l.getD i default ∈ l.drop (i + 1) := by
      refine (keptF_sub m (i + 1) (l.drop (i + 1))).mem ?_
      rw [h2, hl, e]
      rw [e, hl, List.length_append] at h1
      have h3 : 0 < (keptF m (i + 1) (l.drop (i + 1))).length := by omega
      simp [List.getD, h3]
    obtain ⟨j, hj, hje⟩ := List.getElem_of_mem hmem
    rw [List.length_drop] at hj
    rw [List.getElem_drop] at hje
    have h4 := hs i (i + 1 + j) (by omega) (by omega)
    have e4 : l.getD (i + 1 + j) default = l.getD i default := by
      rw [← hje]; simp [List.getD, show i + 1 + j < l.length by omega]
    rw [e4] at h4
    omega
theorem srt_sub {a b : List Dty} (h : a.Sublist b) (hb : Srt b) : Srt a := srt_iff.2 ((srt_iff.1 hb).sublist h)
theorem incr_sub {w last : Int} {a b : List Dty} (h : a.Sublist b) (hb : incr w last b = true) : incr w last a = true := by
  rw [incr_iff] at hb ⊢
  exact ⟨fun x hx => hb.1 x (h.mem hx), hb.2.sublist h⟩
/-! A crash. -/
def keptD (d : Dev) (m : Int) : Dev := ⟨d.img, keptL m d.dirty, d.left, d.down⟩
theorem chkD_kept {d : Dev} (m : Int) (h : chkD d = 0) : chkD (keptD d m) = 0 := by
  have h1 := (devOk_iff d).1 h
  exact (devOk_iff _).2 ⟨h1.1, incr_sub (keptL_sub m d.dirty) h1.2.1, h1.2.2⟩
@[irreducible] def crashD (d : Dev) (m : Int) : Dev := ⟨words (keptD d m), [], -1, false⟩
@[irreducible] def crashX (d : Dev) (m : Int) : Dev := if chkD d = 0 then crashD d m else zDev
@[irreducible] def chosenX (d : Dev) (m : Int) : List Int := if chkD d = 0 then chosenL m d.dirty.length else []
@[irreducible] def armE (d : Dev) (n : Int) : Int := if chkD d = 0 then (if -1 ≤ n ∧ n ≤ 1000000 then 0 else 2) else 8
@[irreducible] def armX (d : Dev) (n : Int) : Dev := if armE d n = 0 then ⟨d.img, d.dirty, n, false⟩ else zDev
theorem newX_words (d : Dev) (m : Int) (h : chkD d = 0) : newX (words (keptD d m)) = crashD d m := by
  unfold newX crashD
  rw [if_pos]
  rw [words_len]
  exact chkD_img (chkD_kept m h)
theorem chk_words (d : Dev) (m : Int) (h : chkD d = 0) : chk (words (keptD d m)).length = 0 := by rw [words_len]; exact chkD_img (chkD_kept m h)
theorem crashD_img (d : Dev) (m : Int) : (crashD d m).img = words (keptD d m) := by unfold crashD; rfl
theorem crashD_dirty (d : Dev) (m : Int) : (crashD d m).dirty = [] := by unfold crashD; rfl
theorem crashD_left (d : Dev) (m : Int) : (crashD d m).left = -1 := by unfold crashD; rfl
theorem crashD_down (d : Dev) (m : Int) : (crashD d m).down = false := by unfold crashD; rfl
theorem crashD_len (d : Dev) (m : Int) : (crashD d m).img.length = d.img.length := by rw [crashD_img, words_len]; rfl
theorem chkD_crash {d : Dev} (m : Int) (h : chkD d = 0) : chkD (crashD d m) = 0 := by
  refine (devOk_iff _).2 ⟨?_, ?_, ?_, ?_, ?_⟩
  · rw [crashD_len]; exact chkD_img h
  · rw [crashD_dirty]; rfl
  · rw [crashD_left]; decide
  · rw [crashD_left]; decide
  · rw [crashD_down]; intro h; cases h
def rK (l : List Dty) : RX := .one (.o 3 (l.map dtyD))
def sK (l : List Dty) : RX := .one (.c (.sl 3 (l.map dtyD)))
def sI (l : List Int) : RX := .one (.c (.sl 1 (l.map (numD .i64))))
def rI (l : List Int) : RX := .one (.o 1 (l.map (numD .i64)))
end
end Go.Proofs.Ytijllihnheggbaa
