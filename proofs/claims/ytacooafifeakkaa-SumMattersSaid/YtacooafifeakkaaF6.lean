/-
  The contracts of the program's functions, data in, data out. Conditions: those in the statements.
-/
import Derived.Test.YtacooafifeakkaaF5
namespace Go.Proofs.Ytacooafifeakkaa
set_option linter.all false
open Go Go.Proofs.Ytacooafifeakkaa.Eng Go.RowKit
noncomputable section
/-! A word changed in one byte, seen in the sums. -/
theorem set_split {l : List Int} {i : Nat} (h : i < l.length) (v : Int) : l.set i v = l.take i ++ v :: l.drop (i + 1) := by rw [List.set_eq_take_append_cons_drop, if_pos h]
theorem self_split {l : List Int} {i : Nat} (h : i < l.length) : l = l.take i ++ l.getD i 0 :: l.drop (i + 1) := by
  have e : l.getD i 0 = l[i] := by simp [List.getD, h]
  rw [e, List.getElem_cons_drop h, List.take_append_drop]
theorem set_self {l : List Int} {i : Nat} (h : i < l.length) : l.set i (l.getD i 0) = l := by
  rw [set_split h]; exact (self_split h).symm
theorem beh_set {s : Int} (hs : isU s) {l : List Int} {i : Nat} (h : i < l.length) {w : Int} {j : Nat} (hj : j < 8) (hw : ∀ k, k ≠ j → k < 8 → byt (l.getD i 0) k = byt w k) : beh s l % 256 = beh s (l.set i w) % 256 ↔ byt (l.getD i 0) j = byt w j := by
  rw [set_split h]
  have e : beh s l = beh s (l.take i ++ l.getD i 0 :: l.drop (i + 1)) := congrArg (beh s) (self_split h)
  rw [e, beh_app, beh_app, beh_cons, beh_cons, beh_low (bs_U (beh_U hs _) 8) (bs_U (beh_U hs _) 8), bs_diff (beh_U hs _) hw 8 hj (by omega)]
theorem chg_byte {w c : Int} (hw : isU w) (hc : isB c) {j : Nat} (hj : j < 8) : byt w j = byt (bits .xor .u64 w (IntKind.u64.wrap (c * 2 ^ (8 * j)))) j ↔ c = 0 := by
  rw [xbyte hw hc hj j hj, if_pos rfl]
  have hd : byt w j = ((w.toNat / 256 ^ j % 256 : Nat) : Int) := by
    unfold byt
    conv => lhs; rw [← Int.toNat_of_nonneg hw.1]
    rw [Int.natCast_emod, Int.natCast_ediv, Int.natCast_pow]; rfl
  rw [hd]
  constructor
  · intro h
    have h2 : w.toNat / 256 ^ j % 256 ^^^ 0 = w.toNat / 256 ^ j % 256 ^^^ c.toNat := by
      rw [Nat.xor_zero]; omega
    have h3 := xor_canc.1 h2
    have := hc.1
    omega
  · rintro rfl
    rw [show ((0 : Int).toNat) = 0 from rfl, Nat.xor_zero]
theorem chg_zero {w : Int} (hw : isU w) (j : Nat) : bits .xor .u64 w (IntKind.u64.wrap (0 * 2 ^ (8 * j))) = w := by
  rw [Int.zero_mul, show IntKind.u64.wrap 0 = 0 from rfl, xor_zero_U hw]
/-- The list with the change. -/
@[irreducible] def chg (l : List Int) (i : Nat) (b : Nat) (c : Int) : List Int := l.set i (bits .xor .u64 (l.getD i 0) (IntKind.u64.wrap (c * 2 ^ (8 * b))))
theorem chg_len (l : List Int) (i b : Nat) (c : Int) : (chg l i b c).length = l.length := by unfold chg; rw [List.length_set]
theorem chg_same {l : List Int} (hl : ∀ x ∈ l, isU x) {i : Nat} (h : i < l.length) (b : Nat) : chg l i b 0 = l := by
  unfold chg
  rw [chg_zero (getD_U hl i), set_self h]
theorem chg_low {s : Int} (hs : isU s) {l : List Int} (hl : ∀ x ∈ l, isU x) {i : Nat} (h : i < l.length) {b : Nat} (hb : b < 8) {c : Int} (hc : isB c) : beh s l % 256 = beh s (chg l i b c) % 256 ↔ c = 0 := by
  unfold chg
  rw [beh_set hs h hb (w := bits .xor .u64 (l.getD i 0) (IntKind.u64.wrap (c * 2 ^ (8 * b)))) fun k hk h8 => ?_, chg_byte (getD_U hl i) hc hb]
  rw [xbyte (getD_U hl i) hc hb k h8, if_neg hk]
theorem chg_state {s : Int} (hs : isU s) {l : List Int} (hl : ∀ x ∈ l, isU x) {i : Nat} (h : i < l.length) {b : Nat} (hb : b < 8) {c : Int} (hc : isB c) : decide (beh s l = beh s (chg l i b c)) = decide (c = 0) := by
  refine decide_eq_decide.2 ⟨fun e => (chg_low hs hl h hb hc).1 (by rw [e]), ?_⟩
  rintro rfl
  rw [chg_same hl h]
theorem fld_mod {x y : Int} {n : Nat} (h : 8 ≤ n) (e : fld x 0 n = fld y 0 n) : x % 256 = y % 256 := by
  unfold fld at e
  rw [Int.pow_zero, Int.ediv_one, Int.ediv_one] at e
  have hd : (256 : Int) ∣ 2 ^ n := by
    refine ⟨2 ^ (n - 8), ?_⟩
    rw [show (256 : Int) = 2 ^ 8 from rfl, ← Int.pow_add]
    congr 1; omega
  have := congrArg (· % 256) e
  simpa [Int.emod_emod_of_dvd _ hd] using this
theorem chg_low_n {l : List Int} (hl : ∀ x ∈ l, isU x) {i : Nat} (h : i < l.length) {b : Nat} (hb : b < 8) {c : Int} (hc : isB c) {n : Nat} (hn : 8 ≤ n) : decide (fld (beh 14695981039346656037 l) 0 n = fld (beh 14695981039346656037 (chg l i b c)) 0 n) = decide (c = 0) := by
  refine decide_eq_decide.2 ⟨fun e => (chg_low firstU hl h hb hc).1 (fld_mod hn e), ?_⟩
  rintro rfl
  rw [chg_same hl h]
theorem beh_dec {s o : Int} (hs : isU s) (ho : isU o) (l : List Int) : decide (beh s l = beh o l) = decide (s = o) := decide_eq_decide.2 (beh_inj hs ho l)
namespace Xb5c1204
def XX := (And.intro @toNatAdd @toNatSub)
def XN := @Nat.zero_add
def XR := @rBy.eq_1
def XH := @Nat.zero_add
def XG := @Nat.zero_add
end Xb5c1204
set_option maxHeartbeats 4000000 in
set_option maxRecDepth 10000 in
open Xb5c1204 in
theorem k_law05_SumMatters (s o : Int) (l : List Int) (a b c n : Int) (hs : isU s) (ho : isU o) (hl : ∀ x ∈ l, isU x) (hc : isB c) : Con Try.prog 6 [vN .u64 s, vN .u64 o, sN .u64 l, vN .i64 a, vN .i64 b, vN .u8 c, vN .i64 n] [rB true] := by
  refine con_of_awp hmix Try.func6 s6 rfl (by rw [n6]; simp) r6 n6 ?_
  simp only [Eng.start, startFr, inX, sN, vN, List.map_cons, List.map_nil, c6]
  (repeat' (first
    | (refine aCallF 12 ?_; apply aE3; exact k_alive5; exact flatA; refine aPost ?_)
    | (refine aCall 13 ?_; apply aE2; exact kf_ref02_Twin _ (by omega); refine aPost ?_)
    | refine aOp ?_
    | refine aOff1 ?_
    | refine aOff2 ?_
    | (refine aSplit ?_ ?_ <;> intro hsp)
    | (refine RegA.done ‹_› ?_; first | refine aKeep [0, 1, 2, 3, 4, 5, 6, 14, 15, 16, 17, 18, 19, 20, 21, 22, 23, 24, 25, 59] ?_ | skip)
    | refine awp_seq fun K hK => ?_
    | refine Awp.reg ?_
    | (refine aNcall (f := 12) ?_; apply aE6; exact k_alive5; (refine aNr (by simp only [unV', unX, unXs, unC, unL, rN, rB, List.append_nil, List.nil_append, rBy]; rfl) rfl rfl); (first | exact .inl rfl | exact .inr flatA); refine aNpost ?_)
    | refine aNop ?_
    | refine aNoff1 ?_
    | refine aNoff2 ?_
    | (refine aNsplit ?_ ?_ <;> intro hsp)
    | refine aNnil ?_
    | refine aDrawN 9 [[], [], [0, 1], [2], [], [4], [], [6], [5, 7], [3, 8], [0, 1, 0, 1, 2, 3, 4, 5, 6, 7, 8, 9], [10, 9, 0, 1, 2, 3, 4, 5, 6, 7, 8, 9]] [[], [], [0, 1], [2, 0, 1], [], [4], [], [6], [5, 7, 4, 6], [3, 8, 2, 0, 1, 5, 7, 4, 6], [0, 1, 2, 3, 4, 5, 6, 7, 8, 9], [10, 9, 0, 1, 2, 3, 4, 5, 6, 7, 8]] ?_
    | refine Awp.skip ?_
    | refine Awp.block ?_
    | refine Awp.scope ?_
    | refine aCt ?_
    | refine aCf ?_
    | (refine aCond ?_ ?_ <;> intro hsp)
    | (refine Awp.exit ?_; simp only [blockQ, thenQ, scopeQ, ↓reduceIte, Nat.reduceEqDiff])
    | (refine viaK ‹_› ?_; first | refine aKeep [0, 1, 2, 3, 4, 5, 6, 14, 15, 16, 17, 18, 19, 20, 21, 22, 23, 24, 25, 59] ?_ | skip)
    | simp only [thenQ_normal, blockQ_normal]))
  rotate_right 1
  · have c1 : a.toNat < l.length := by omega
    have c2 : b.toNat < 8 := by omega
    have e1 := nextV_yes s (l := l) (by omega)
    have e2 := nextE_yes (l := l) (by omega)
    have e3 := nextV_yes o (l := l) (by omega)
    have hlm := chg_len l a.toNat b.toNat c
    have e4 := nextV_yes s (l := chg l a.toNat b.toNat c) (by omega)
    have e5 := nextE_yes (l := chg l a.toNat b.toNat c) (by omega)
    have e6 := low_yes (l := l) (n := n) (by omega) (by omega) (by omega)
    have e7 := lowE_yes (l := l) (n := n) (by omega) (by omega) (by omega)
    have e8 := low_yes (l := chg l a.toNat b.toNat c) (n := n) (by omega) (by omega) (by omega)
    have e9 := lowE_yes (l := chg l a.toNat b.toNat c) (n := n) (by omega) (by omega) (by omega)
    have ea := chg_state hs hl c1 c2 hc
    have eb := beh_dec hs ho l
    have ec := chg_low_n hl c1 c2 hc (n := n.toNat) (by omega)
    have ed : (l.map (numD .u64)).set a.toNat [D.v (.int .u64 (bits .xor .u64 (l.getD a.toNat 0) (IntKind.u64.wrap (IntKind.u64.wrap c * 2 ^ min (8 * b).toNat IntKind.u64.bits))))] = (chg l a.toNat b.toNat c).map (numD .u64) := by
      have h1 : (8 * b).toNat = 8 * b.toNat := by omega
      have h2 : IntKind.u64.wrap c = c := by
        rw [u64w]
        unfold isB at hc
        omega
      rw [num_set, h2, h1, Nat.min_eq_left (by show 8 * b.toNat ≤ 64; omega)]
      unfold chg
      rfl
    simp only [ed]
    (have XH := (And.intro @eq_self.{1} @hlm); have XG := (And.intro (And.intro (And.intro @hlm (And.intro @e1 @e2)) (And.intro @e3 (And.intro @e4 @e5))) (And.intro (And.intro @e6 (And.intro @e7 @e8)) (And.intro (And.intro @e9 @ea) (And.intro @eb @ec)))); (repeat' (first
        | (refine aCallF 12 ?_; apply aE3; exact k_alive5; exact flatA; refine aPost ?_)
        | (refine aCallF 10 ?_; apply aE3; exact k_sum_Next _ _ hs (by omega); exact flatA; refine aPost ?_)
        | (refine aCallF 10 ?_; apply aE3; exact k_sum_Next _ _ ho (by omega); exact flatA; refine aPost ?_)
        | (refine aCallF 11 ?_; apply aE3; exact k_sum_Low _ _ (by omega); exact flatA; refine aPost ?_)
        | refine aOp ?_
        | refine aOff1 ?_
        | refine aOff2 ?_
        | (refine aSplit ?_ ?_ <;> intro hsp)
        | (refine RegA.done ‹_› ?_; first | refine aKeep [0, 1, 2, 3, 4, 5, 6, 14, 15, 16, 17, 18, 19, 20, 21, 22, 23, 24, 25, 59] ?_ | skip)
        | refine awp_seq fun K hK => ?_
        | refine Awp.reg ?_
        | (refine aNcall (f := 12) ?_; apply aE6; exact k_alive5; (refine aNr (by simp only [unV', unX, unXs, unC, unL, rN, rB, List.append_nil, List.nil_append, rBy]; rfl) rfl rfl); (first | exact .inl rfl | exact .inr flatA); refine aNpost ?_)
        | (refine aNcall (f := 10) ?_; apply aE6; exact k_sum_Next _ _ hs (by omega); (refine aNr (by simp only [unV', unX, unXs, unC, unL, rN, rB, List.append_nil, List.nil_append, rBy]; rfl) rfl rfl); (first | exact .inl rfl | exact .inr flatA); refine aNpost ?_)
        | (refine aNcall (f := 10) ?_; apply aE6; exact k_sum_Next _ _ ho (by omega); (refine aNr (by simp only [unV', unX, unXs, unC, unL, rN, rB, List.append_nil, List.nil_append, rBy]; rfl) rfl rfl); (first | exact .inl rfl | exact .inr flatA); refine aNpost ?_)
        | (refine aNcall (f := 11) ?_; apply aE6; exact k_sum_Low _ _ (by omega); (refine aNr (by simp only [unV', unX, unXs, unC, unL, rN, rB, List.append_nil, List.nil_append, rBy]; rfl) rfl rfl); (first | exact .inl rfl | exact .inr flatA); refine aNpost ?_)
        | refine aNop ?_
        | refine aNoff1 ?_
        | refine aNoff2 ?_
        | (refine aNsplit ?_ ?_ <;> intro hsp)
        | refine aNnil ?_
        | refine aDrawN 9 [[], [], [0, 1], [2], [], [4], [], [6], [5, 7], [3, 8], [0, 1, 0, 1, 2, 3, 4, 5, 6, 7, 8, 9], [10, 9, 0, 1, 2, 3, 4, 5, 6, 7, 8, 9]] [[], [], [0, 1], [2, 0, 1], [], [4], [], [6], [5, 7, 4, 6], [3, 8, 2, 0, 1, 5, 7, 4, 6], [0, 1, 2, 3, 4, 5, 6, 7, 8, 9], [10, 9, 0, 1, 2, 3, 4, 5, 6, 7, 8]] ?_
        | refine Awp.skip ?_
        | refine Awp.block ?_
        | refine Awp.scope ?_
        | refine aCt ?_
        | refine aCf ?_
        | (refine aCond ?_ ?_ <;> intro hsp)
        | (refine Awp.exit ?_; simp only [blockQ, thenQ, scopeQ, ↓reduceIte, Nat.reduceEqDiff])
        | (refine viaK ‹_› ?_; first | refine aKeep [0, 1, 2, 3, 4, 5, 6, 14, 15, 16, 17, 18, 19, 20, 21, 22, 23, 24, 25, 59] ?_ | skip)
        | simp only [thenQ_normal, blockQ_normal])); all_goals (clear XH; clear XG))
    (refine Awp.ret ?_; refine aRet ?_; (simp [-List.getD_eq_getElem?_getD, laxR, laxX, laxC, laxCs, rB, rN, rO, rBy] <;> (intros; omega)))
  · (refine Awp.ret ?_; refine aRet ?_; (simp [-List.getD_eq_getElem?_getD, laxR, laxX, laxC, laxCs, rB, rN, rO, rBy] <;> (intros; omega)))
  · (refine Awp.ret ?_; refine aRet ?_; (simp [-List.getD_eq_getElem?_getD, laxR, laxX, laxC, laxCs, rB, rN, rO, rBy] <;> (intros; omega)))
  · (refine Awp.ret ?_; refine aRet ?_; (simp [-List.getD_eq_getElem?_getD, laxR, laxX, laxC, laxCs, rB, rN, rO, rBy] <;> (intros; omega)))
  · (refine Awp.ret ?_; refine aRet ?_; (simp [-List.getD_eq_getElem?_getD, laxR, laxX, laxC, laxCs, rB, rN, rO, rBy] <;> (intros; omega)))
  · (refine Awp.ret ?_; refine aRet ?_; (simp [-List.getD_eq_getElem?_getD, laxR, laxX, laxC, laxCs, rB, rN, rO, rBy] <;> (intros; omega)))
  · (refine Awp.ret ?_; refine aRet ?_; (simp [-List.getD_eq_getElem?_getD, laxR, laxX, laxC, laxCs, rB, rN, rO, rBy] <;> (intros; omega)))
  · (refine Awp.ret ?_; refine aRet ?_; (simp [-List.getD_eq_getElem?_getD, laxR, laxX, laxC, laxCs, rB, rN, rO, rBy] <;> (intros; omega)))
  · (refine Awp.ret ?_; refine aRet ?_; (simp [-List.getD_eq_getElem?_getD, laxR, laxX, laxC, laxCs, rB, rN, rO, rBy] <;> (intros; omega)))
end
end Go.Proofs.Ytacooafifeakkaa
