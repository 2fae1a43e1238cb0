/-
  The contracts of the program's functions, data in, data out. Conditions: those in the statements.
-/
import Derived.Test.YtijllihnheggbaaC6
namespace Go.Proofs.Ytijllihnheggbaa
set_option linter.all false
open Go Go.Proofs.Ytijllihnheggbaa.Eng Go.RowKit
noncomputable section

theorem srt_tail {x : Dty} {r : List Dty} (h : Srt (x :: r)) : Srt r := fun i j hij hj => by
  have := h (i + 1) (j + 1) (by omega) (by simpa using hj)
  simpa only [List.getD_cons_succ] using this
theorem srt_head {x : Dty} {r : List Dty} (h : Srt (x :: r)) : ∀ y ∈ r, x.at_ < y.at_ := fun y hy => by
  obtain ⟨k, hk, rfl⟩ := List.getElem_of_mem hy
  have := h 0 (k + 1) (by omega) (by simpa using hk)
  simpa [List.getD, hk] using this
theorem find_lb {a : Int} : ∀ {l : List Dty}, Srt l → l.find? (fun x => decide (x.at_ = a)) = if hasAt l a = true then some (l.getD (lb l a) default) else none
  | [], _ => by unfold hasAt lb; simp
  | x :: r, hs => by
    have ih := find_lb (a := a) (srt_tail hs)
    rcases Int.lt_or_le x.at_ a with hx | hx
    · have e1 : lb (x :: r) a = lb r a + 1 := by unfold lb; rw [List.takeWhile_cons, if_pos (by simpa using hx)]; rfl
      have e2 : hasAt (x :: r) a = hasAt r a := by
        unfold hasAt
        rw [e1, List.getD_cons_succ]
        simp [-List.getD_eq_getElem?_getD]
      rw [List.find?_cons_of_neg (by simp; omega), ih, e2, e1, List.getD_cons_succ]
    · have e1 : lb (x :: r) a = 0 := by unfold lb; rw [List.takeWhile_cons, if_neg (by simp; omega)]; rfl
      have e2 : hasAt (x :: r) a = decide (x.at_ = a) := by unfold hasAt; rw [e1]; simp
      rw [e2, e1]
      by_cases hxa : x.at_ = a
      · rw [List.find?_cons_of_pos (by simpa using hxa)]; simp [hxa]
      · rw [List.find?_cons_of_neg (by simpa using hxa), if_neg (by simpa using hxa)]
        refine List.find?_eq_none.2 fun y hy => ?_
        have := srt_head hs y hy
        simp; omega
theorem setAll_get {a : Int} (ha : 0 ≤ a) : ∀ {l : List Dty} (m : List Int), Srt l → (∀ x ∈ l, 0 ≤ x.at_) → a < m.length → (l.foldl (fun m x => m.set x.at_.toNat x.v) m).getD a.toNat 0 = ((l.find? (fun x => decide (x.at_ = a))).map (·.v)).getD (m.getD a.toNat 0)
  | [], m, _, _, _ => rfl
  | x :: r, m, hs, hp, hm => by
    have ih := setAll_get ha (m.set x.at_.toNat x.v) (srt_tail hs) (fun y hy => hp y (by simp [hy])) (by simpa using hm)
    rw [List.foldl_cons, ih]
    have hx0 := hp x (by simp)
    by_cases hxa : x.at_ = a
    · rw [List.find?_cons_of_pos (by simpa using hxa)]
      have : r.find? (fun x => decide (x.at_ = a)) = none := List.find?_eq_none.2 fun y hy => by have := srt_head hs y hy; simp; omega
      rw [this, hxa]
      have hl : a.toNat < m.length := by omega
      simp [List.getD, hl]
    · rw [List.find?_cons_of_neg (by simpa using hxa)]
      have hne : x.at_.toNat ≠ a.toNat := by omega
      simp [List.getD, List.getElem?_set_ne hne]
theorem devOk_pos {d : Dev} (h : chkD d = 0) : ∀ x ∈ d.dirty, 0 ≤ x.at_ ∧ x.at_ < d.img.length := fun x hx => by
  obtain ⟨k, hk, rfl⟩ := List.getElem_of_mem hx
  have := (devOk_all h).1 k hk
  simpa [List.getD, hk] using this
theorem words_at {d : Dev} {a : Int} (h : asked d a = 0) : (words d).getD a.toNat 0 = wordAt d a := by
  obtain ⟨h1, h2, h3⟩ := asked_chk h
  have hs := (devOk_all h1).2
  unfold words wordAt
  rw [setAll_get h2 _ hs (fun x hx => (devOk_pos h1 x hx).1) h3, find_lb hs]
  split <;> simp
namespace Xfce45a2
def XX := (And.intro (And.intro @getD_dty (And.intro @tdiv8 @tmod8)) (And.intro (And.intro @takeAll @takeDropAll) (And.intro @toNatAdd @toNatSub)))
def XN := @Nat.zero_add
def XR := (And.intro @rDev.eq_1 @dtyD.eq_1)
def XH := @Nat.zero_add
def XG := @Nat.zero_add
end Xfce45a2
set_option maxHeartbeats 4000000 in
set_option maxRecDepth 10000 in
open Xfce45a2 in
theorem k_ref02_Same (a b : List Int) (ha : a.length ≤ 1000000) (hb : b.length ≤ 1000000) : Con Try.prog 23 [sN .u64 a, sN .u64 b] [rB (decide (a = b))] := by
  refine con_of_awp hmix Try.func23 s23 rfl (by rw [n23]; simp) r23 n23 ?_
  simp only [Eng.start, startFr, inX, sN, vN, List.map_cons, List.map_nil, devA, devC, dtyD, sD, c23]
  (repeat' (first
    | refine aOp ?_
    | refine aOff1 ?_
    | refine aOff2 ?_
    | (refine aSplit ?_ ?_ <;> intro hsp)
    | (refine RegA.done ‹_› ?_)
    | refine awp_seq fun K hK => ?_
    | refine Awp.reg ?_
    | refine aNop ?_
    | refine aNoff1 ?_
    | refine aNoff2 ?_
    | (refine aNsplit ?_ ?_ <;> intro hsp)
    | refine aNnil ?_
    | refine aDrawN 8 [[], [], [0, 1], [2], [], [], [4, 5], [6], [3, 7]] [[], [], [0, 1], [2, 0, 1], [], [], [4, 5], [6, 4, 5], [3, 7, 2, 0, 1, 6, 4, 5]] ?_
    | refine Awp.skip ?_
    | refine Awp.block ?_
    | refine Awp.scope ?_
    | refine aCt ?_
    | refine aCf ?_
    | (refine aCond ?_ ?_ <;> intro hsp)
    | (refine Awp.exit ?_; simp only [blockQ, thenQ, scopeQ, ↓reduceIte, Nat.reduceEqDiff])
    | (refine viaK ‹_› ?_)
    | simp only [thenQ_normal, blockQ_normal]))
  · have e : decide (a = b) = false := decide_eq_false fun h => by have := congrArg List.length h; omega
    (refine Awp.ret ?_; refine aRet ?_; (simp [-List.getD_eq_getElem?_getD, laxR, laxX, laxC, laxCs, rB, rN, rO, rDev, dtyD, e] <;> (intros; omega)))
  · refine Awp.loopK (α := {i : Nat // i ≤ a.length ∧ ∀ j < i, a.getD j 0 = b.getD j 0}) (fun x => [(5, vv (.int .i64 (x.1 : Int)))]) (fun x => []) [0, 1] [] (fun x => a.length - x.1) ⟨0, by omega, by simp⟩ [] (by simp only [List.filterMap_cons, List.filterMap_nil, lk_nil, lk_cons, ↓reduceIte, Nat.reduceEqDiff, Option.map_some, Option.map_none]; rfl) (by simp only [List.filterMap_cons, List.filterMap_nil, lk_nil, lk_cons, ↓reduceIte, Nat.reduceEqDiff, Option.map_some, Option.map_none]; rfl) rfl rfl ?_ ?_
    · simp only [Wk, frIn, hpIn, lk_nil, lk_cons, renV, renX, renC, belV, belX, belC, belL, belB, List.cons_append, List.nil_append, ↓reduceIte, Nat.reduceEqDiff, and_self, and_true, true_and] <;> simp [-List.getD_eq_getElem?_getD, vv, one, renV, renX, renC, belV, belX, belC, belL, belB, rho, renO, belO, lk_nil, lk_cons]
    · rintro ⟨i, hi, hj⟩
      simp only [vv, one, List.cons_append, List.nil_append]
      (repeat' (first
        | refine aOp ?_
        | refine aOff1 ?_
        | refine aOff2 ?_
        | (refine aSplit ?_ ?_ <;> intro hsp)
        | (refine RegA.done ‹_› ?_)
        | refine awp_seq fun K hK => ?_
        | refine Awp.reg ?_
        | refine aNop ?_
        | refine aNoff1 ?_
        | refine aNoff2 ?_
        | (refine aNsplit ?_ ?_ <;> intro hsp)
        | refine aNnil ?_
        | refine aDrawN 8 [[], [], [0, 1], [2], [], [], [4, 5], [6], [3, 7]] [[], [], [0, 1], [2, 0, 1], [], [], [4, 5], [6, 4, 5], [3, 7, 2, 0, 1, 6, 4, 5]] ?_
        | refine Awp.skip ?_
        | refine Awp.block ?_
        | refine Awp.scope ?_
        | refine aCt ?_
        | refine aCf ?_
        | (refine aCond ?_ ?_ <;> intro hsp)
        | (refine Awp.exit ?_; simp only [blockQ, thenQ, scopeQ, ↓reduceIte, Nat.reduceEqDiff])
        | (refine viaK ‹_› ?_)
        | simp only [thenQ_normal, blockQ_normal]))
      · have e : decide (a = b) = false := decide_eq_false fun h => hsp (by rw [h])
        (refine Awp.ret ?_; refine aRet ?_; (simp [-List.getD_eq_getElem?_getD, laxR, laxX, laxC, laxCs, rB, rN, rO, rDev, dtyD, e] <;> (intros; omega)))
      · refine RegA.nil ⟨⟨i + 1, by omega, fun j hj' => by rcases Nat.lt_succ_iff_lt_or_eq.1 hj' with h | rfl; exact hj j h; exact hsp⟩, [], ?_, ?_⟩
        · simp only [Wk, frIn, hpIn, lk_nil, lk_cons, renV, renX, renC, belV, belX, belC, belL, belB, List.cons_append, List.nil_append, ↓reduceIte, Nat.reduceEqDiff, and_self, and_true, true_and] <;> simp [-List.getD_eq_getElem?_getD, vv, one, renV, renX, renC, belV, belX, belC, belL, belB, rho, renO, belO, lk_nil, lk_cons]
        · (simp only []; omega)
      · have e : decide (a = b) = true := decide_eq_true (list_ext0 (by omega) fun j hj' => hj j (by omega))
        (refine Awp.ret ?_; refine aRet ?_; (simp [-List.getD_eq_getElem?_getD, laxR, laxX, laxC, laxCs, rB, rN, rO, rDev, dtyD, e] <;> (intros; omega)))
end
end Go.Proofs.Ytijllihnheggbaa
