/-
  The contracts of the program's functions, data in, data out. Conditions: those in the statements.
-/
import Derived.Test.YtijllihnheggbaaC2
namespace Go.Proofs.Ytijllihnheggbaa
set_option linter.all false
open Go Go.Proofs.Ytijllihnheggbaa.Eng Go.RowKit
noncomputable section

@[irreducible] def sz (n : Int) : Bool := decide (256 ≤ n) && decide (n ≤ 2048) && decide (n % 8 = 0)
@[irreducible] def chk (n : Int) : Int := if sz n then 0 else 8
@[irreducible] def getE (w a n : Int) : Int := if chk w = 0 then (if 0 ≤ a ∧ 0 ≤ n ∧ n ≤ w - a then 0 else 2) else 8
@[irreducible] def lineV (w a : Int) : Int := if chk w = 0 then (if 0 ≤ a ∧ 1 ≤ w - a then a / 8 else 0) else 0
theorem chk_le {w : Int} (h : chk w = 0) : 256 ≤ w ∧ w ≤ 2048 ∧ w % 8 = 0 := by
  unfold chk sz at h
  split at h
  · rename_i hh
    simp only [Bool.and_eq_true, decide_eq_true_eq] at hh
    omega
  · omega
theorem chk8 {w : Int} (h : ¬ chk w = 0) : chk w = 8 := by
  unfold chk at h ⊢
  split at h
  · exact absurd rfl h
  · rename_i hh; rw [if_neg hh]
theorem list_ext0 {a b : List Int} (hl : a.length = b.length) (h : ∀ j < a.length, a.getD j 0 = b.getD j 0) : a = b := by
  refine List.ext_getElem hl fun j h1 h2 => ?_
  have := h j h1
  simpa [List.getD, h1, h2] using this
def devOk (d : Dev) : Bool := decide (chk d.img.length = 0) && incr d.img.length (-1) d.dirty && decide (-1 ≤ d.left) && decide (d.left ≤ 1000000) && (!d.down || decide (d.left = 0))
@[irreducible] def chkD (d : Dev) : Int := if devOk d then 0 else 8
@[irreducible] def asked (d : Dev) (a : Int) : Int := if chkD d = 0 then (if 0 ≤ a ∧ a < d.img.length then 0 else 2) else 8
theorem chkD8 {d : Dev} (h : ¬ chkD d = 0) : chkD d = 8 := by
  unfold chkD at h ⊢
  split at h
  · exact absurd rfl h
  · rename_i hh; rw [if_neg hh]
theorem chkD_iff (d : Dev) : chkD d = 0 ↔ devOk d = true := by
  unfold chkD
  split
  · rename_i h; simp [h]
  · rename_i h; simp [h]
namespace X7571177
def XX := (And.intro (And.intro @getD_dty (And.intro @tdiv8 @tmod8)) (And.intro (And.intro @takeAll @takeDropAll) (And.intro @toNatAdd @toNatSub)))
def XN := @Nat.zero_add
def XR := (And.intro @rDev.eq_1 @dtyD.eq_1)
def XH := @Nat.zero_add
def XG := @Nat.zero_add
end X7571177
set_option maxHeartbeats 4000000 in
set_option maxRecDepth 10000 in
open X7571177 in
theorem k_ref02_Size (n : Int) : Con Try.prog 44 [vN .i64 n] [rB (sz n)] := by
  refine con_of_awp hmix Try.func44 s44 rfl (by rw [n44]; simp) r44 n44 ?_
  simp only [Eng.start, startFr, inX, sN, vN, List.map_cons, List.map_nil, devA, devC, dtyD, sD, c44]
  (repeat' (first
    | refine aOp ?_
    | refine aOff1 ?_
    | refine aOff2 ?_
    | (refine aSplit ?_ ?_ <;> intro hsp)
    | (refine RegA.done ‹_› ?_)
    | refine awp_seq fun K hK => ?_
    | refine Awp.reg ?_
    | refine Awp.skip ?_
    | refine Awp.block ?_
    | refine Awp.scope ?_
    | refine aCt ?_
    | refine aCf ?_
    | (refine aCond ?_ ?_ <;> intro hsp)
    | (refine Awp.exit ?_; simp only [blockQ, thenQ, scopeQ, ↓reduceIte, Nat.reduceEqDiff])
    | (refine viaK ‹_› ?_)
    | simp only [thenQ_normal, blockQ_normal]))
  all_goals (refine Awp.ret ?_; refine aRet ?_; (simp [-List.getD_eq_getElem?_getD, laxR, laxX, laxC, laxCs, rB, rN, rO, rDev, dtyD, sz, *] <;> (intros; omega)))
set_option maxHeartbeats 4000000 in
set_option maxRecDepth 10000 in
open X7571177 in
theorem k_image_isValid (n : Int) : Con Try.prog 51 [vN .i64 n] [rB (sz n)] := by
  refine con_of_awp hmix Try.func51 s51 rfl (by rw [n51]; simp) r51 n51 ?_
  simp only [Eng.start, startFr, inX, sN, vN, List.map_cons, List.map_nil, devA, devC, dtyD, sD, c51]
  (repeat' (first
    | refine aOp ?_
    | refine aOff1 ?_
    | refine aOff2 ?_
    | (refine aSplit ?_ ?_ <;> intro hsp)
    | (refine RegA.done ‹_› ?_)
    | refine awp_seq fun K hK => ?_
    | refine Awp.reg ?_
    | refine Awp.skip ?_
    | refine Awp.block ?_
    | refine Awp.scope ?_
    | refine aCt ?_
    | refine aCf ?_
    | (refine aCond ?_ ?_ <;> intro hsp)
    | (refine Awp.exit ?_; simp only [blockQ, thenQ, scopeQ, ↓reduceIte, Nat.reduceEqDiff])
    | (refine viaK ‹_› ?_)
    | simp only [thenQ_normal, blockQ_normal]))
  all_goals (refine Awp.ret ?_; refine aRet ?_; (simp [-List.getD_eq_getElem?_getD, laxR, laxX, laxC, laxCs, rB, rN, rO, rDev, dtyD, sz, *] <;> (intros; omega)))
set_option maxHeartbeats 4000000 in
set_option maxRecDepth 10000 in
open X7571177 in
theorem k_image_hasRange (w a n : Int) (hw : 0 ≤ w ∧ w ≤ 1000000) (ha : -9223372036854775808 ≤ a ∧ a ≤ 9223372036854775807) : Con Try.prog 53 [vN .i64 w, vN .i64 a, vN .i64 n] [rB (decide (0 ≤ a ∧ 0 ≤ n ∧ n ≤ w - a))] := by
  refine con_of_awp hmix Try.func53 s53 rfl (by rw [n53]; simp) r53 n53 ?_
  simp only [Eng.start, startFr, inX, sN, vN, List.map_cons, List.map_nil, devA, devC, dtyD, sD, c53]
  (repeat' (first
    | refine aOp ?_
    | refine aOff1 ?_
    | refine aOff2 ?_
    | (refine aSplit ?_ ?_ <;> intro hsp)
    | (refine RegA.done ‹_› ?_)
    | refine awp_seq fun K hK => ?_
    | refine Awp.reg ?_
    | refine Awp.skip ?_
    | refine Awp.block ?_
    | refine Awp.scope ?_
    | refine aCt ?_
    | refine aCf ?_
    | (refine aCond ?_ ?_ <;> intro hsp)
    | (refine Awp.exit ?_; simp only [blockQ, thenQ, scopeQ, ↓reduceIte, Nat.reduceEqDiff])
    | (refine viaK ‹_› ?_)
    | simp only [thenQ_normal, blockQ_normal]))
  all_goals (refine Awp.ret ?_; refine aRet ?_; (simp [-List.getD_eq_getElem?_getD, laxR, laxX, laxC, laxCs, rB, rN, rO, rDev, dtyD, *] <;> (intros; omega)))
set_option maxHeartbeats 4000000 in
set_option maxRecDepth 10000 in
open X7571177 in
theorem k_ref02_Twin (l : List Int) (hw : l.length ≤ 1000000) : Con Try.prog 33 [sN .u64 l] [rO .u64 l] := by
  refine con_of_awp hmix Try.func33 s33 rfl (by rw [n33]; simp) r33 n33 ?_
  simp only [Eng.start, startFr, inX, sN, vN, List.map_cons, List.map_nil, devA, devC, dtyD, sD, c33]
  (repeat' (first
    | refine aOp ?_
    | refine aOff1 ?_
    | refine aOff2 ?_
    | (refine aSplit ?_ ?_ <;> intro hsp)
    | (refine RegA.done ‹_› ?_)
    | refine awp_seq fun K hK => ?_
    | refine Awp.reg ?_
    | refine Awp.skip ?_
    | refine Awp.block ?_
    | refine Awp.scope ?_
    | refine aCt ?_
    | refine aCf ?_
    | (refine aCond ?_ ?_ <;> intro hsp)
    | (refine Awp.exit ?_; simp only [blockQ, thenQ, scopeQ, ↓reduceIte, Nat.reduceEqDiff])
    | (refine viaK ‹_› ?_)
    | simp only [thenQ_normal, blockQ_normal]))
  all_goals (refine Awp.ret ?_; refine aRet ?_; (simp [-List.getD_eq_getElem?_getD, laxR, laxX, laxC, laxCs, rB, rN, rO, rDev, dtyD] <;> (intros; omega)))
set_option maxHeartbeats 4000000 in
set_option maxRecDepth 10000 in
open X7571177 in
theorem k_ref02_Great (l : List Int) : Con Try.prog 32 [sN .u64 l] [rB (decide (2100 < (l.length : Int)))] := by
  refine con_of_awp hmix Try.func32 s32 rfl (by rw [n32]; simp) r32 n32 ?_
  simp only [Eng.start, startFr, inX, sN, vN, List.map_cons, List.map_nil, devA, devC, dtyD, sD, c32]
  (repeat' (first
    | refine aOp ?_
    | refine aOff1 ?_
    | refine aOff2 ?_
    | (refine aSplit ?_ ?_ <;> intro hsp)
    | (refine RegA.done ‹_› ?_)
    | refine awp_seq fun K hK => ?_
    | refine Awp.reg ?_
    | refine Awp.skip ?_
    | refine Awp.block ?_
    | refine Awp.scope ?_
    | refine aCt ?_
    | refine aCf ?_
    | (refine aCond ?_ ?_ <;> intro hsp)
    | (refine Awp.exit ?_; simp only [blockQ, thenQ, scopeQ, ↓reduceIte, Nat.reduceEqDiff])
    | (refine viaK ‹_› ?_)
    | simp only [thenQ_normal, blockQ_normal]))
  all_goals (refine Awp.ret ?_; refine aRet ?_; (simp [-List.getD_eq_getElem?_getD, laxR, laxX, laxC, laxCs, rB, rN, rO, rDev, dtyD, *] <;> (intros; omega)))
set_option maxHeartbeats 4000000 in
set_option maxRecDepth 10000 in
open X7571177 in
theorem k_image_Check (l : List Int) : Con Try.prog 41 [sN .u64 l] [rN .i64 (chk l.length)] := by
  refine con_of_awp hmix Try.func41 s41 rfl (by rw [n41]; simp) r41 n41 ?_
  simp only [Eng.start, startFr, inX, sN, vN, List.map_cons, List.map_nil, devA, devC, dtyD, sD, c41]
  (repeat' (first
    | (refine aCallF 51 ?_; apply aE3; exact k_image_isValid _; exact flatA; refine aPost ?_)
    | refine aOp ?_
    | refine aOff1 ?_
    | refine aOff2 ?_
    | (refine aSplit ?_ ?_ <;> intro hsp)
    | (refine RegA.done ‹_› ?_)
    | refine awp_seq fun K hK => ?_
    | refine Awp.reg ?_
    | refine Awp.skip ?_
    | refine Awp.block ?_
    | refine Awp.scope ?_
    | refine aCt ?_
    | refine aCf ?_
    | (refine aCond ?_ ?_ <;> intro hsp)
    | (refine Awp.exit ?_; simp only [blockQ, thenQ, scopeQ, ↓reduceIte, Nat.reduceEqDiff])
    | (refine viaK ‹_› ?_)
    | simp only [thenQ_normal, blockQ_normal]))
  all_goals (refine Awp.ret ?_; refine aRet ?_; (simp [-List.getD_eq_getElem?_getD, laxR, laxX, laxC, laxCs, rB, rN, rO, rDev, dtyD, chk, *] <;> (intros; omega)))
set_option maxHeartbeats 4000000 in
set_option maxRecDepth 10000 in
open X7571177 in
theorem k_ref02_Check (l : List Int) : Con Try.prog 36 [sN .u64 l] [rN .i64 (chk l.length)] := by
  refine con_of_awp hmix Try.func36 s36 rfl (by rw [n36]; simp) r36 n36 ?_
  simp only [Eng.start, startFr, inX, sN, vN, List.map_cons, List.map_nil, devA, devC, dtyD, sD, c36]
  (repeat' (first
    | (refine aCallF 44 ?_; apply aE3; exact k_ref02_Size _; exact flatA; refine aPost ?_)
    | refine aOp ?_
    | refine aOff1 ?_
    | refine aOff2 ?_
    | (refine aSplit ?_ ?_ <;> intro hsp)
    | (refine RegA.done ‹_› ?_)
    | refine awp_seq fun K hK => ?_
    | refine Awp.reg ?_
    | refine Awp.skip ?_
    | refine Awp.block ?_
    | refine Awp.scope ?_
    | refine aCt ?_
    | refine aCf ?_
    | (refine aCond ?_ ?_ <;> intro hsp)
    | (refine Awp.exit ?_; simp only [blockQ, thenQ, scopeQ, ↓reduceIte, Nat.reduceEqDiff])
    | (refine viaK ‹_› ?_)
    | simp only [thenQ_normal, blockQ_normal]))
  all_goals (refine Awp.ret ?_; refine aRet ?_; (simp [-List.getD_eq_getElem?_getD, laxR, laxX, laxC, laxCs, rB, rN, rO, rDev, dtyD, chk, *] <;> (intros; omega)))
set_option maxHeartbeats 4000000 in
set_option maxRecDepth 10000 in
open X7571177 in
theorem k_image_Line (m : List Int) (a : Int) (hm : m.length ≤ 1000000) (ha : -9223372036854775808 ≤ a ∧ a ≤ 9223372036854775807) : Con Try.prog 45 [sN .u64 m, vN .i64 a] [rN .i64 (lineV m.length a), rN .i64 (lineV m.length a * 8), rN .i64 (getE m.length a 1)] := by
  refine con_of_awp hmix Try.func45 s45 rfl (by rw [n45]; simp) r45 n45 ?_
  simp only [Eng.start, startFr, inX, sN, vN, List.map_cons, List.map_nil, devA, devC, dtyD, sD, c45]
  (repeat' (first
    | (refine aCallF 41 ?_; apply aE3; exact k_image_Check _; exact flatA; refine aPost ?_)
    | (refine aCallF 53 ?_; apply aE3; exact k_image_hasRange _ _ _ (by omega) (by omega); exact flatA; refine aPost ?_)
    | refine aOp ?_
    | refine aOff1 ?_
    | refine aOff2 ?_
    | (refine aSplit ?_ ?_ <;> intro hsp)
    | (refine RegA.done ‹_› ?_)
    | refine awp_seq fun K hK => ?_
    | refine Awp.reg ?_
    | refine Awp.skip ?_
    | refine Awp.block ?_
    | refine Awp.scope ?_
    | refine aCt ?_
    | refine aCf ?_
    | (refine aCond ?_ ?_ <;> intro hsp)
    | (refine Awp.exit ?_; simp only [blockQ, thenQ, scopeQ, ↓reduceIte, Nat.reduceEqDiff])
    | (refine viaK ‹_› ?_)
    | simp only [thenQ_normal, blockQ_normal]))
  all_goals (refine Awp.ret ?_; refine aRet ?_; (simp [-List.getD_eq_getElem?_getD, laxR, laxX, laxC, laxCs, rB, rN, rO, rDev, dtyD, getE, chk8, lineV, *] <;> (intros; omega)))
set_option maxHeartbeats 4000000 in
set_option maxRecDepth 10000 in
open X7571177 in
theorem k_cache_Check (d : Dev) (hm : d.img.length ≤ 1000000) (hl : d.dirty.length ≤ 1000000) : Con Try.prog 28 [devA d] [rN .i64 (chkD d)] := by
  refine con_of_awp hmix Try.func28 s28 rfl (by rw [n28]; simp) r28 n28 ?_
  simp only [Eng.start, startFr, inX, sN, vN, List.map_cons, List.map_nil, devA, devC, dtyD, sD, c28]
  (repeat' (first
    | (refine aCallF 41 ?_; apply aE3; exact k_image_Check _; exact flatA; refine aPost ?_)
    | (refine aCallF 42 ?_; apply aE3; exact k_cache_increase _ _ (by omega); exact flatA; refine aPost ?_)
    | refine aOp ?_
    | refine aOff1 ?_
    | refine aOff2 ?_
    | (refine aSplit ?_ ?_ <;> intro hsp)
    | (refine RegA.done ‹_› ?_)
    | refine awp_seq fun K hK => ?_
    | refine Awp.reg ?_
    | refine Awp.skip ?_
    | refine Awp.block ?_
    | refine Awp.scope ?_
    | refine aCt ?_
    | refine aCf ?_
    | (refine aCond ?_ ?_ <;> intro hsp)
    | (refine Awp.exit ?_; simp only [blockQ, thenQ, scopeQ, ↓reduceIte, Nat.reduceEqDiff])
    | (refine viaK ‹_› ?_)
    | simp only [thenQ_normal, blockQ_normal]))
  all_goals (refine Awp.ret ?_; refine aRet ?_; (simp [-List.getD_eq_getElem?_getD, laxR, laxX, laxC, laxCs, rB, rN, rO, rDev, dtyD, chkD, devOk, chk8, *] <;> (intros; omega)))
set_option maxHeartbeats 4000000 in
set_option maxRecDepth 10000 in
open X7571177 in
theorem k_ref03_Great (d : Dev) : Con Try.prog 15 [devA d] [rB (decide (2100 < (d.img.length : Int)) || decide (2100 < (d.dirty.length : Int)))] := by
  refine con_of_awp hmix Try.func15 s15 rfl (by rw [n15]; simp) r15 n15 ?_
  simp only [Eng.start, startFr, inX, sN, vN, List.map_cons, List.map_nil, devA, devC, dtyD, sD, c15]
  (repeat' (first
    | (refine aCallF 32 ?_; apply aE3; exact k_ref02_Great _; exact flatA; refine aPost ?_)
    | refine aOp ?_
    | refine aOff1 ?_
    | refine aOff2 ?_
    | (refine aSplit ?_ ?_ <;> intro hsp)
    | (refine RegA.done ‹_› ?_)
    | refine awp_seq fun K hK => ?_
    | refine Awp.reg ?_
    | refine Awp.skip ?_
    | refine Awp.block ?_
    | refine Awp.scope ?_
    | refine aCt ?_
    | refine aCf ?_
    | (refine aCond ?_ ?_ <;> intro hsp)
    | (refine Awp.exit ?_; simp only [blockQ, thenQ, scopeQ, ↓reduceIte, Nat.reduceEqDiff])
    | (refine viaK ‹_› ?_)
    | simp only [thenQ_normal, blockQ_normal]))
  all_goals (refine Awp.ret ?_; refine aRet ?_; (simp [-List.getD_eq_getElem?_getD, laxR, laxX, laxC, laxCs, rB, rN, rO, rDev, dtyD, *] <;> (intros; omega)))
set_option maxHeartbeats 4000000 in
set_option maxRecDepth 10000 in
open X7571177 in
theorem k_ref03_Twin (d : Dev) (hm : d.img.length ≤ 1000000) (hl : d.dirty.length ≤ 1000000) : Con Try.prog 16 [devA d] [rDev d] := by
  refine con_of_awp hmix Try.func16 s16 rfl (by rw [n16]; simp) r16 n16 ?_
  simp only [Eng.start, startFr, inX, sN, vN, List.map_cons, List.map_nil, devA, devC, dtyD, sD, c16]
  (repeat' (first
    | (refine aCall 33 ?_; apply aE2; exact k_ref02_Twin _ (by omega); refine aPost ?_)
    | refine aOp ?_
    | refine aOff1 ?_
    | refine aOff2 ?_
    | (refine aSplit ?_ ?_ <;> intro hsp)
    | (refine RegA.done ‹_› ?_)
    | refine awp_seq fun K hK => ?_
    | refine Awp.reg ?_
    | refine Awp.skip ?_
    | refine Awp.block ?_
    | refine Awp.scope ?_
    | refine aCt ?_
    | refine aCf ?_
    | (refine aCond ?_ ?_ <;> intro hsp)
    | (refine Awp.exit ?_; simp only [blockQ, thenQ, scopeQ, ↓reduceIte, Nat.reduceEqDiff])
    | (refine viaK ‹_› ?_)
    | simp only [thenQ_normal, blockQ_normal]))
  all_goals (refine Awp.ret ?_; refine aRet ?_; (simp [-List.getD_eq_getElem?_getD, laxR, laxX, laxC, laxCs, rB, rN, rO, rDev, dtyD, *] <;> (intros; omega)))
theorem chkD_img {d : Dev} (h : chkD d = 0) : chk d.img.length = 0 := by
  rw [chkD_iff] at h
  simp only [devOk, Bool.and_eq_true, decide_eq_true_eq] at h
  exact h.1.1.1.1
theorem chkD_inc {d : Dev} (h : chkD d = 0) : incr d.img.length (-1) d.dirty = true := by
  rw [chkD_iff] at h
  simp only [devOk, Bool.and_eq_true, decide_eq_true_eq] at h
  exact h.1.1.1.2
theorem getE_one {d : Dev} {a : Int} (h : chkD d = 0) : getE d.img.length a 1 = asked d a := by
  unfold getE asked
  rw [if_pos (chkD_img h), if_pos h]
  by_cases h1 : 0 ≤ a ∧ a < (d.img.length : Int)
  · rw [if_pos h1, if_pos (by omega)]
  · rw [if_neg h1, if_neg (by omega)]
theorem lineV_one {d : Dev} {a : Int} (h : chkD d = 0) : lineV d.img.length a * 8 = if asked d a = 0 then a / 8 * 8 else 0 := by
  unfold lineV asked
  rw [if_pos (chkD_img h), if_pos h]
  by_cases h1 : 0 ≤ a ∧ a < (d.img.length : Int)
  · rw [if_pos h1, if_pos (by omega)]; simp
  · rw [if_neg h1, if_neg (by omega)]; simp
theorem asked8 {d : Dev} {a : Int} (h : ¬ chkD d = 0) : asked d a = 8 := by unfold asked; rw [if_neg h]
set_option maxHeartbeats 4000000 in
set_option maxRecDepth 10000 in
open X7571177 in
theorem k_cache_lineStart (d : Dev) (a : Int) (hm : d.img.length ≤ 1000000) (hl : d.dirty.length ≤ 1000000) (ha : -9223372036854775808 ≤ a ∧ a ≤ 9223372036854775807) : Con Try.prog 37 [devA d, vN .i64 a] [rN .i64 (if asked d a = 0 then a / 8 * 8 else 0), rN .i64 (asked d a)] := by
  refine con_of_awp hmix Try.func37 s37 rfl (by rw [n37]; simp) r37 n37 ?_
  simp only [Eng.start, startFr, inX, sN, vN, List.map_cons, List.map_nil, devA, devC, dtyD, sD, c37]
  (repeat' (first
    | (refine aCallF 28 ?_; apply aE3; exact k_cache_Check _ (by omega) (by omega); exact flatA; refine aPost ?_)
    | (refine aCallF 45 ?_; apply aE3; exact k_image_Line _ _ (by omega) (by omega); exact flatA; refine aPost ?_)
    | refine aOp ?_
    | refine aOff1 ?_
    | refine aOff2 ?_
    | (refine aSplit ?_ ?_ <;> intro hsp)
    | (refine RegA.done ‹_› ?_)
    | refine awp_seq fun K hK => ?_
    | refine Awp.reg ?_
    | refine Awp.skip ?_
    | refine Awp.block ?_
    | refine Awp.scope ?_
    | refine aCt ?_
    | refine aCf ?_
    | (refine aCond ?_ ?_ <;> intro hsp)
    | (refine Awp.exit ?_; simp only [blockQ, thenQ, scopeQ, ↓reduceIte, Nat.reduceEqDiff])
    | (refine viaK ‹_› ?_)
    | simp only [thenQ_normal, blockQ_normal]))
  all_goals (first | (have e := lineV_one (a := a) ‹chkD d = 0›; have e2 := getE_one (a := a) ‹chkD d = 0›; (refine Awp.ret ?_; refine aRet ?_; (simp [-List.getD_eq_getElem?_getD, laxR, laxX, laxC, laxCs, rB, rN, rO, rDev, dtyD, e, e2]))) | (have e := asked8 (a := a) ‹¬ chkD d = 0›; have e2 := chkD8 ‹¬ chkD d = 0›; (refine Awp.ret ?_; refine aRet ?_; (simp [-List.getD_eq_getElem?_getD, laxR, laxX, laxC, laxCs, rB, rN, rO, rDev, dtyD, e, e2]))))
end
end Go.Proofs.Ytijllihnheggbaa
