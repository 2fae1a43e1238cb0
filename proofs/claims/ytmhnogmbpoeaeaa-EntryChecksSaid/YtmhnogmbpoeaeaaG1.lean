/-
  The contracts of the program's functions, data in, data out. Conditions: those in the statements.
-/
import Derived.Test.YtmhnogmbpoeaeaaF3
namespace Go.Proofs.Ytmhnogmbpoeaeaa
set_option linter.all false
open Go Go.Proofs.Ytmhnogmbpoeaeaa.Eng Go.RowKit
noncomputable section

/-! Images: words of a range. -/
@[irreducible] def getL (m : List Int) (a n : Int) : List Int := if getE m.length a n = 0 then (m.drop a.toNat).take n.toNat else []
@[irreducible] def putL (m : List Int) (a : Int) (l : List Int) : List Int := if getE m.length a l.length = 0 then m.take a.toNat ++ (l ++ m.drop (a.toNat + l.length)) else []
@[irreducible] def newL (n : Int) : List Int := if sz n = true then List.replicate n.toNat 0 else []
@[irreducible] def newE' (n : Int) : Int := if sz n = true then 0 else 2
theorem getE_0 {w a n : Int} (h : chk w = 0) (h1 : 0 ≤ a) (h2 : 0 ≤ n) (h3 : n ≤ w - a) : getE w a n = 0 := by unfold getE; rw [if_pos h, if_pos ⟨h1, h2, h3⟩]
theorem getE_2 {w a n : Int} (h : chk w = 0) (h1 : ¬ (0 ≤ a ∧ 0 ≤ n ∧ n ≤ w - a)) : getE w a n = 2 := by unfold getE; rw [if_pos h, if_neg h1]
theorem getE_8 {w a n : Int} (h : ¬ chk w = 0) : getE w a n = 8 := by unfold getE; rw [if_neg h]
theorem getE_is {w a n : Int} (h : getE w a n = 0) : chk w = 0 ∧ 0 ≤ a ∧ 0 ≤ n ∧ n ≤ w - a := by
  unfold getE at h
  split at h
  · split at h
    · rename_i h1 h2; exact ⟨h1, h2⟩
    · omega
  · omega
theorem getL_0 {m : List Int} {a n : Int} (h : getE m.length a n = 0) : getL m a n = (m.drop a.toNat).take n.toNat := by unfold getL; rw [if_pos h]
theorem getL_no {m : List Int} {a n : Int} (h : ¬ getE m.length a n = 0) : getL m a n = [] := by unfold getL; rw [if_neg h]
theorem putL_0 {m l : List Int} {a : Int} (h : getE m.length a l.length = 0) : putL m a l = m.take a.toNat ++ (l ++ m.drop (a.toNat + l.length)) := by unfold putL; rw [if_pos h]
theorem putL_no {m l : List Int} {a : Int} (h : ¬ getE m.length a l.length = 0) : putL m a l = [] := by unfold putL; rw [if_neg h]
theorem newL_yes {n : Int} (h : sz n = true) : newL n = List.replicate n.toNat 0 := by unfold newL; rw [if_pos h]
theorem newL_no {n : Int} (h : sz n = false) : newL n = [] := by unfold newL; rw [h]; rfl
theorem newE_yes {n : Int} (h : sz n = true) : newE' n = 0 := by unfold newE'; rw [if_pos h]
theorem newE_no {n : Int} (h : sz n = false) : newE' n = 2 := by unfold newE'; rw [h]; rfl
theorem sz_le {n : Int} (h : sz n = true) : 256 ≤ n ∧ n ≤ 2048 ∧ n % 8 = 0 := by
  unfold sz at h
  simp only [Bool.and_eq_true, decide_eq_true_eq] at h
  omega
theorem chk_sz (n : Int) : chk n = 0 ↔ sz n = true := by
  unfold chk
  cases sz n <;> simp
theorem chk_or (n : Int) : chk n = 0 ∨ chk n = 8 := by unfold chk; split <;> simp
/-! Where two lists differ. -/
@[irreducible] def difN (a b : List Int) (n : Nat) : List Nat := (List.range n).filter fun i => !decide (a.getD i 0 = b.getD i 0)
@[irreducible] def difI (a b : List Int) (n : Nat) : List Int := (difN a b n).map fun (k : Nat) => (k : Int)
theorem difI_zero (a b : List Int) : difI a b 0 = [] := by unfold difI difN; rfl
theorem difI_t {a b : List Int} {i : Nat} (h : ¬ a.getD i 0 = b.getD i 0) : difI a b i ++ [(i : Int)] = difI a b (i + 1) := by
  unfold difI difN
  rw [List.range_succ, List.filter_append]
  simp only [List.filter_cons, List.filter_nil, h, decide_false, Bool.not_false, if_true, List.map_append, List.map_cons, List.map_nil]
theorem difI_f {a b : List Int} {i : Nat} (h : a.getD i 0 = b.getD i 0) : difI a b i = difI a b (i + 1) := by
  unfold difI difN
  rw [List.range_succ, List.filter_append]
  simp only [List.filter_cons, List.filter_nil, h, decide_true, Bool.not_true, Bool.false_eq_true, if_false, List.append_nil]
theorem difI_le (a b : List Int) (i : Nat) : (difI a b i).length ≤ i := by
  unfold difI difN
  rw [List.length_map]
  exact Nat.le_trans (List.length_filter_le _ _) (by simp)
@[irreducible] def difE (a b : List Int) : Int := if chk a.length = 0 then (if chk b.length = 0 then (if a.length = b.length then 0 else 2) else 8) else 8
@[irreducible] def difL (a b : List Int) : List Int := if difE a b = 0 then difI a b a.length else []
def rI64 (l : List Int) : RX := .one (.o 1 (l.map (numD .i64)))
namespace X25ab05a
def XX := (And.intro (And.intro @tdiv8 (And.intro @tmod8 @toNatAddI)) (And.intro @toNatSubI (And.intro @takeAll @takeDropAll)))
def XN := @Nat.zero_add
def XR := @rBy.eq_1
def XH := @Nat.zero_add
def XG := @Nat.zero_add
end X25ab05a
set_option maxHeartbeats 4000000 in
set_option maxRecDepth 10000 in
open X25ab05a in
theorem k_image_New (n : Int) : Con Try.prog 43 [vN .i64 n] [rO .u64 (newL n), rN .i64 (newE' n)] := by
  refine con_of_awp hmix Try.func43 s43 rfl (by rw [n43]; simp) r43 n43 ?_
  simp only [Eng.start, startFr, inX, sN, vN, List.map_cons, List.map_nil, c43]
  (repeat' (first
    | (refine isR ?_; first | (refine isC ?_; first | (refine isF 44 ?_; first | (refine aCallF 44 ?_; apply aE3; exact k_image_isValid _; exact flatA; refine aPost ?_))) | refine aOp ?_ | refine aOff1 ?_ | refine aOff2 ?_ | (refine aSplit ?_ ?_ <;> intro hsp) | (refine RegA.done ‹_› ?_; first | refine aKeep [0, 2, 3, 6] ?_ | skip))
    | (refine isA ?_; first | refine awp_seq fun K hK => ?_ | refine Awp.reg ?_ | refine Awp.skip ?_ | refine Awp.block ?_ | refine Awp.scope ?_ | refine aCt ?_ | refine aCf ?_ | (refine aCond ?_ ?_ <;> intro hsp) | (refine Awp.exit ?_; simp only [blockQ, thenQ, scopeQ, ↓reduceIte, Nat.reduceEqDiff]))
    | (refine viaK ‹_› ?_; first | refine aKeep [0, 2, 3, 6] ?_ | skip)
    | simp only [thenQ_normal, blockQ_normal]))
  · have e1 := newL_no ‹sz n = false›
    have e2 := newE_no ‹sz n = false›
    (refine Awp.ret ?_; refine aRet ?_; (simp [-List.getD_eq_getElem?_getD, laxR, laxX, laxC, laxCs, rB, rN, rO, rBy, e1, e2]))
  · have hs := sz_le ‹sz n = true›
    have e1 := newL_yes ‹sz n = true›
    have e2 := newE_yes ‹sz n = true›
    (repeat' (first
        | (refine isR ?_; first | refine aOp ?_ | refine aOff1 ?_ | refine aOff2 ?_ | (refine aSplit ?_ ?_ <;> intro hsp) | (refine RegA.done ‹_› ?_; first | refine aKeep [0, 2, 3, 6] ?_ | skip))
        | (refine isA ?_; first | refine awp_seq fun K hK => ?_ | refine Awp.reg ?_ | refine Awp.skip ?_ | refine Awp.block ?_ | refine Awp.scope ?_ | refine aCt ?_ | refine aCf ?_ | (refine aCond ?_ ?_ <;> intro hsp) | (refine Awp.exit ?_; simp only [blockQ, thenQ, scopeQ, ↓reduceIte, Nat.reduceEqDiff]))
        | (refine viaK ‹_› ?_; first | refine aKeep [0, 2, 3, 6] ?_ | skip)
        | simp only [thenQ_normal, blockQ_normal]))
    (refine Awp.ret ?_; refine aRet ?_; (simp [-List.getD_eq_getElem?_getD, laxR, laxX, laxC, laxCs, rB, rN, rO, rBy, e1, e2, num_rep]))
set_option maxHeartbeats 4000000 in
set_option maxRecDepth 10000 in
open X25ab05a in
theorem k_image_copied (l : List Int) (hl : l.length ≤ 1000000) : Con Try.prog 42 [sN .u64 l] [rO .u64 l] := by
  refine con_of_awp hmix Try.func42 s42 rfl (by rw [n42]; simp) r42 n42 ?_
  simp only [Eng.start, startFr, inX, sN, vN, List.map_cons, List.map_nil, c42]
  (repeat' (first
    | (refine isR ?_; first | refine aOp ?_ | refine aOff1 ?_ | refine aOff2 ?_ | (refine aSplit ?_ ?_ <;> intro hsp) | (refine RegA.done ‹_› ?_; first | refine aKeep [0, 2, 3] ?_ | skip))
    | (refine isA ?_; first | refine awp_seq fun K hK => ?_ | refine Awp.reg ?_ | refine Awp.skip ?_ | refine Awp.block ?_ | refine Awp.scope ?_ | refine aCt ?_ | refine aCf ?_ | (refine aCond ?_ ?_ <;> intro hsp) | (refine Awp.exit ?_; simp only [blockQ, thenQ, scopeQ, ↓reduceIte, Nat.reduceEqDiff]))
    | (refine viaK ‹_› ?_; first | refine aKeep [0, 2, 3] ?_ | skip)
    | simp only [thenQ_normal, blockQ_normal]))
  all_goals (refine Awp.ret ?_; refine aRet ?_; (simp [-List.getD_eq_getElem?_getD, laxR, laxX, laxC, laxCs, rB, rN, rO, rBy] <;> (intros; omega)))
set_option maxHeartbeats 4000000 in
set_option maxRecDepth 10000 in
open X25ab05a in
theorem k_image_Get (m : List Int) (a n : Int) (hm : m.length ≤ 1000000) (ha : -9223372036854775808 ≤ a ∧ a ≤ 9223372036854775807) : Con Try.prog 30 [sN .u64 m, vN .i64 a, vN .i64 n] [rO .u64 (getL m a n), rN .i64 (getE m.length a n)] := by
  refine con_of_awp hmix Try.func30 s30 rfl (by rw [n30]; simp) r30 n30 ?_
  simp only [Eng.start, startFr, inX, sN, vN, List.map_cons, List.map_nil, c30]
  (repeat' (first
    | (refine isR ?_; first | (refine isC ?_; first | (refine isF 34 ?_; first | (refine aCallF 34 ?_; apply aE3; exact k_image_Check _; exact flatA; refine aPost ?_)) | (refine isF 41 ?_; first | (refine aCallF 41 ?_; apply aE3; exact k_image_hasRange _ _ _ (by omega) (by omega); exact flatA; refine aPost ?_)) | (refine isF 42 ?_; first | (refine aCall 42 ?_; apply aE2; exact k_image_copied _ (by first | omega | (simp; omega)); refine aPost ?_))) | refine aOp ?_ | refine aOff1 ?_ | refine aOff2 ?_ | (refine aSplit ?_ ?_ <;> intro hsp) | (refine RegA.done ‹_› ?_; first | refine aKeep [0, 1, 2, 6, 7, 8, 12, 19] ?_ | skip))
    | (refine isA ?_; first | refine awp_seq fun K hK => ?_ | refine Awp.reg ?_ | refine Awp.skip ?_ | refine Awp.block ?_ | refine Awp.scope ?_ | refine aCt ?_ | refine aCf ?_ | (refine aCond ?_ ?_ <;> intro hsp) | (refine Awp.exit ?_; simp only [blockQ, thenQ, scopeQ, ↓reduceIte, Nat.reduceEqDiff]))
    | (refine viaK ‹_› ?_; first | refine aKeep [0, 1, 2, 6, 7, 8, 12, 19] ?_ | skip)
    | simp only [thenQ_normal, blockQ_normal]))
  · have q1 := chk8 ‹¬ chk m.length = 0›
    have e2 := getE_8 (a := a) (n := n) ‹¬ chk m.length = 0›
    have e1 := getL_no (m := m) (a := a) (n := n) (by omega)
    (refine Awp.ret ?_; refine aRet ?_; (simp [-List.getD_eq_getElem?_getD, laxR, laxX, laxC, laxCs, rB, rN, rO, rBy, q1, e1, e2]))
  · have e2 := getE_2 ‹chk m.length = 0› ‹¬ (0 ≤ a ∧ 0 ≤ n ∧ n ≤ m.length - a)›
    have e1 := getL_no (m := m) (a := a) (n := n) (by omega)
    (refine Awp.ret ?_; refine aRet ?_; (simp [-List.getD_eq_getElem?_getD, laxR, laxX, laxC, laxCs, rB, rN, rO, rBy, e1, e2]))
  · have e2 := getE_0 (a := a) (n := n) ‹chk m.length = 0› (by omega) (by omega) (by omega)
    have e1 := getL_0 e2
    (refine Awp.ret ?_; refine aRet ?_; (simp [-List.getD_eq_getElem?_getD, laxR, laxX, laxC, laxCs, rB, rN, rO, rBy, e1, e2, Nat.add_sub_cancel_left]))
set_option maxHeartbeats 4000000 in
set_option maxRecDepth 10000 in
open X25ab05a in
theorem k_image_Put (m : List Int) (a : Int) (l : List Int) (hm : m.length ≤ 1000000) (hl : l.length ≤ 1000000) (ha : -9223372036854775808 ≤ a ∧ a ≤ 9223372036854775807) : Con Try.prog 28 [sN .u64 m, vN .i64 a, sN .u64 l] [rO .u64 (putL m a l), rN .i64 (getE m.length a l.length)] := by
  refine con_of_awp hmix Try.func28 s28 rfl (by rw [n28]; simp) r28 n28 ?_
  simp only [Eng.start, startFr, inX, sN, vN, List.map_cons, List.map_nil, c28]
  (repeat' (first
    | (refine isR ?_; first | (refine isC ?_; first | (refine isF 34 ?_; first | (refine aCallF 34 ?_; apply aE3; exact k_image_Check _; exact flatA; refine aPost ?_)) | (refine isF 41 ?_; first | (refine aCallF 41 ?_; apply aE3; exact k_image_hasRange _ _ _ (by omega) (by omega); exact flatA; refine aPost ?_)) | (refine isF 42 ?_; first | (refine aCall 42 ?_; apply aE2; exact k_image_copied _ (by first | omega | (simp; omega)); refine aPost ?_))) | refine aOp ?_ | refine aOff1 ?_ | refine aOff2 ?_ | (refine aSplit ?_ ?_ <;> intro hsp) | (refine RegA.done ‹_› ?_; first | refine aKeep [0, 1, 2, 6, 7, 8, 9, 13, 21] ?_ | skip))
    | (refine isA ?_; first | refine awp_seq fun K hK => ?_ | refine Awp.reg ?_ | refine Awp.skip ?_ | refine Awp.block ?_ | refine Awp.scope ?_ | refine aCt ?_ | refine aCf ?_ | (refine aCond ?_ ?_ <;> intro hsp) | (refine Awp.exit ?_; simp only [blockQ, thenQ, scopeQ, ↓reduceIte, Nat.reduceEqDiff]))
    | (refine viaK ‹_› ?_; first | refine aKeep [0, 1, 2, 6, 7, 8, 9, 13, 21] ?_ | skip)
    | simp only [thenQ_normal, blockQ_normal]))
  · have q1 := chk8 ‹¬ chk m.length = 0›
    have e2 := getE_8 (a := a) (n := l.length) ‹¬ chk m.length = 0›
    have e1 := putL_no (m := m) (a := a) (l := l) (by omega)
    (refine Awp.ret ?_; refine aRet ?_; (simp [-List.getD_eq_getElem?_getD, laxR, laxX, laxC, laxCs, rB, rN, rO, rBy, q1, e1, e2]))
  · have e2 := getE_2 ‹chk m.length = 0› ‹¬ (0 ≤ a ∧ 0 ≤ (l.length : Int) ∧ (l.length : Int) ≤ m.length - a)›
    have e1 := putL_no (m := m) (a := a) (l := l) (by omega)
    (refine Awp.ret ?_; refine aRet ?_; (simp [-List.getD_eq_getElem?_getD, laxR, laxX, laxC, laxCs, rB, rN, rO, rBy, e1, e2]))
  · have e2 := getE_0 (a := a) (n := l.length) ‹chk m.length = 0› (by omega) (by omega) (by omega)
    have e1 := putL_0 e2
    (refine Awp.ret ?_; refine aRet ?_; (simp [-List.getD_eq_getElem?_getD, laxR, laxX, laxC, laxCs, rB, rN, rO, rBy, e1, e2, List.map_append]))
theorem difE_a {a : List Int} (b : List Int) (h : ¬ chk a.length = 0) : difE a b = 8 ∧ difL a b = [] := by
  have e : difE a b = 8 := by unfold difE; rw [if_neg h]
  exact ⟨e, by unfold difL; rw [if_neg (by omega)]⟩
theorem difE_b {a b : List Int} (h : chk a.length = 0) (h2 : ¬ chk b.length = 0) : difE a b = 8 ∧ difL a b = [] := by
  have e : difE a b = 8 := by unfold difE; rw [if_pos h, if_neg h2]
  exact ⟨e, by unfold difL; rw [if_neg (by omega)]⟩
theorem difE_c {a b : List Int} (h : chk a.length = 0) (h2 : chk b.length = 0) (h3 : ¬ a.length = b.length) : difE a b = 2 ∧ difL a b = [] := by
  have e : difE a b = 2 := by unfold difE; rw [if_pos h, if_pos h2, if_neg h3]
  exact ⟨e, by unfold difL; rw [if_neg (by omega)]⟩
theorem difE_d {a b : List Int} (h : chk a.length = 0) (h2 : chk b.length = 0) (h3 : a.length = b.length) : difE a b = 0 ∧ difL a b = difI a b a.length := by
  have e : difE a b = 0 := by unfold difE; rw [if_pos h, if_pos h2, if_pos h3]
  exact ⟨e, by unfold difL; rw [if_pos e]⟩
set_option maxHeartbeats 4000000 in
set_option maxRecDepth 10000 in
open X25ab05a in
theorem k_image_Diff (a b : List Int) (ha : a.length ≤ 1000000) (hb : b.length ≤ 1000000) : Con Try.prog 29 [sN .u64 a, sN .u64 b] [rI64 (difL a b), rN .i64 (difE a b)] := by
  refine con_of_awp hmix Try.func29 s29 rfl (by rw [n29]; simp) r29 n29 ?_
  simp only [Eng.start, startFr, inX, sN, vN, List.map_cons, List.map_nil, c29]
  (repeat' (first
    | (refine isR ?_; first | (refine isC ?_; first | (refine isF 34 ?_; first | (refine aCallF 34 ?_; apply aE3; exact k_image_Check _; exact flatA; refine aPost ?_))) | refine aOp ?_ | refine aOff1 ?_ | refine aOff2 ?_ | (refine aSplit ?_ ?_ <;> intro hsp) | (refine RegA.done ‹_› ?_; first | refine aKeep [0, 1, 4, 5, 6, 7, 8, 9, 13, 18, 24, 26, 27, 28, 38] ?_ | skip))
    | (refine isN ?_; first | (refine aNcall (f := 34) ?_; apply aE6; exact k_image_Check _; (refine aNr (by simp only [unV', unX, unXs, unC, unL, rN, rB, List.append_nil, List.nil_append, rBy]; rfl) rfl rfl); (first | exact .inl rfl | exact .inr flatA); refine aNpost ?_) | refine aNop ?_ | refine aNoff1 ?_ | refine aNoff2 ?_ | (refine aNsplit ?_ ?_ <;> intro hsp) | refine aNnil ?_)
    | (refine isA ?_; first | refine awp_seq fun K hK => ?_ | refine Awp.reg ?_ | refine aDrawN 8 [[], [], [0, 1], [2], [], [], [4, 5], [6], [3, 7]] [[], [], [0, 1], [2, 0, 1], [], [], [4, 5], [6, 4, 5], [3, 7, 2, 0, 1, 6, 4, 5]] ?_ | refine Awp.skip ?_ | refine Awp.block ?_ | refine Awp.scope ?_ | refine aCt ?_ | refine aCf ?_ | (refine aCond ?_ ?_ <;> intro hsp) | (refine Awp.exit ?_; simp only [blockQ, thenQ, scopeQ, ↓reduceIte, Nat.reduceEqDiff]))
    | (refine viaK ‹_› ?_; first | refine aKeep [0, 1, 4, 5, 6, 7, 8, 9, 13, 18, 24, 26, 27, 28, 38] ?_ | skip)
    | simp only [thenQ_normal, blockQ_normal]))
  · obtain ⟨e2, e1⟩ := difE_a b ‹¬ chk a.length = 0›
    have q1 := chk8 ‹¬ chk a.length = 0›
    (refine Awp.ret ?_; refine aRet ?_; (simp [-List.getD_eq_getElem?_getD, laxR, laxX, laxC, laxCs, rB, rN, rO, rBy, q1, e1, e2, rI64]))
  · obtain ⟨e2, e1⟩ := difE_b ‹chk a.length = 0› ‹¬ chk b.length = 0›
    have q1 := chk8 ‹¬ chk b.length = 0›
    (refine Awp.ret ?_; refine aRet ?_; (simp [-List.getD_eq_getElem?_getD, laxR, laxX, laxC, laxCs, rB, rN, rO, rBy, q1, e1, e2, rI64]))
  · obtain ⟨e2, e1⟩ := difE_c ‹chk a.length = 0› ‹chk b.length = 0› ‹¬ a.length = b.length›
    (refine Awp.ret ?_; refine aRet ?_; (simp [-List.getD_eq_getElem?_getD, laxR, laxX, laxC, laxCs, rB, rN, rO, rBy, e1, e2, rI64]))
  · obtain ⟨e2, e1⟩ := difE_d ‹chk a.length = 0› ‹chk b.length = 0› ‹a.length = b.length›
    refine Awp.loopK (α := {i : Nat // i ≤ a.length}) (fun x => [(27, vv (.int .i64 (x.1 : Int))), (8, one (.own 1 (difI a b x.1).length))]) (fun x => [(1, .row (rg 1 (difI a b x.1)) ((difI a b x.1).map (numD .i64)) false)]) [0, 1, 4, 5, 26] [0] (fun x => a.length - x.1) ⟨0, by omega⟩ [] (by simp only [List.filterMap_cons, List.filterMap_nil, lk_nil, lk_cons, ↓reduceIte, Nat.reduceEqDiff, Option.map_some, Option.map_none]; rfl) (by simp only [List.filterMap_cons, List.filterMap_nil, lk_nil, lk_cons, ↓reduceIte, Nat.reduceEqDiff, Option.map_some, Option.map_none]; rfl) rfl rfl ?_ ?_
    · simp only [Wk, frIn, hpIn, lk_nil, lk_cons, renV, renX, renC, belV, belX, belC, belL, belB, List.cons_append, List.nil_append, ↓reduceIte, Nat.reduceEqDiff, and_self, and_true, true_and] <;> simp [-List.getD_eq_getElem?_getD, vv, one, renV, renX, renC, belV, belX, belC, belL, belB, rho, renO, belO, lk_nil, lk_cons, rg_nil, difI_zero]
    · rintro ⟨i, hi⟩
      have hcl := difI_le a b i
      dsimp only
      simp only [vv, one, List.cons_append, List.nil_append]
      (have XH := (And.intro (@rg_or Int) @List.length_append.{0}); have XG := (And.intro (And.intro (And.intro @num_snoc @List.take_succ_cons.{0}) (And.intro @List.take_zero.{0} (And.intro @List.take_nil.{0} @List.length_cons.{0}))) (And.intro (And.intro @List.length_nil.{0} @Nat.zero_add) (And.intro @List.drop_succ_cons.{0} (And.intro @List.drop_zero.{0} @List.drop_nil.{0})))); (repeat' (first
        | (refine isR ?_; first | refine aOp ?_ | refine aOff1 ?_ | refine aOff2 ?_ | (refine aSplit ?_ ?_ <;> intro hsp) | (refine RegA.done ‹_› ?_; first | refine aKeep [0, 1, 4, 5, 6, 7, 8, 9, 13, 18, 24, 26, 27, 28, 38] ?_ | skip))
        | (refine isN ?_; first | refine aNop ?_ | refine aNoff1 ?_ | refine aNoff2 ?_ | (refine aNsplit ?_ ?_ <;> intro hsp) | refine aNnil ?_)
        | (refine isA ?_; first | refine awp_seq fun K hK => ?_ | refine Awp.reg ?_ | refine aDrawN 8 [[], [], [0, 1], [2], [], [], [4, 5], [6], [3, 7]] [[], [], [0, 1], [2, 0, 1], [], [], [4, 5], [6, 4, 5], [3, 7, 2, 0, 1, 6, 4, 5]] ?_ | refine Awp.skip ?_ | refine Awp.block ?_ | refine Awp.scope ?_ | refine aCt ?_ | refine aCf ?_ | (refine aCond ?_ ?_ <;> intro hsp) | (refine Awp.exit ?_; simp only [blockQ, thenQ, scopeQ, ↓reduceIte, Nat.reduceEqDiff]))
        | (refine viaK ‹_› ?_; first | refine aKeep [0, 1, 4, 5, 6, 7, 8, 9, 13, 18, 24, 26, 27, 28, 38] ?_ | skip)
        | simp only [thenQ_normal, blockQ_normal])); all_goals (clear XH; clear XG))
      · have e := difI_t (a := a) (b := b) (i := i) ‹¬ a.getD i 0 = b.getD i 0›
        have e3 := rg_snoc 1 (difI a b i) (i : Int)
        refine RegA.nil ⟨⟨i + 1, by omega⟩, [], ?_, ?_⟩
        · simp only [Wk, frIn, hpIn, lk_nil, lk_cons, renV, renX, renC, belV, belX, belC, belL, belB, List.cons_append, List.nil_append, ↓reduceIte, Nat.reduceEqDiff, and_self, and_true, true_and] <;> simp [-List.getD_eq_getElem?_getD, vv, one, renV, renX, renC, belV, belX, belC, belL, belB, rho, renO, belO, lk_nil, lk_cons, ← e, e3]
        · (simp only []; omega)
      · have e := difI_f (a := a) (b := b) (i := i) ‹a.getD i 0 = b.getD i 0›
        refine RegA.nil ⟨⟨i + 1, by omega⟩, [], ?_, ?_⟩
        · simp only [Wk, frIn, hpIn, lk_nil, lk_cons, renV, renX, renC, belV, belX, belC, belL, belB, List.cons_append, List.nil_append, ↓reduceIte, Nat.reduceEqDiff, and_self, and_true, true_and] <;> simp [-List.getD_eq_getElem?_getD, vv, one, renV, renX, renC, belV, belX, belC, belL, belB, rho, renO, belO, lk_nil, lk_cons, ← e]
        · (simp only []; omega)
      · obtain rfl : i = a.length := by omega
        rcases rg_or' 1 (difI a b a.length) with hz | hz
        · (refine Awp.ret ?_; refine aRet ?_; (simp [-List.getD_eq_getElem?_getD, laxR, laxX, laxC, laxCs, rB, rN, rO, rBy, e1, e2, hz, rI64]))
        · (refine Awp.ret ?_; refine aRet ?_; (simp [-List.getD_eq_getElem?_getD, laxR, laxX, laxC, laxCs, rB, rN, rO, rBy, e1, e2, hz, rg_nil, rI64]))
end
end Go.Proofs.Ytmhnogmbpoeaeaa
