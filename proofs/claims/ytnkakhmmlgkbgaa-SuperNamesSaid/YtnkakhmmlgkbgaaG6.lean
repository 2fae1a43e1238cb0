/-
  The contracts of the program's functions, data in, data out. Conditions: those in the statements.
-/
import Derived.Test.YtnkakhmmlgkbgaaG5
namespace Go.Proofs.Ytnkakhmmlgkbgaa
set_option linter.all false
open Go Go.Proofs.Ytnkakhmmlgkbgaa.Eng Go.RowKit
noncomputable section
/-! A superblock with another byte. -/
theorem chg_U {l : List Int} (hl : ∀ x ∈ l, isU x) (i b : Nat) (c : Int) : ∀ x ∈ chg l i b c, isU x := by
  unfold chg
  intro x hx
  rcases List.mem_or_eq_of_mem_set hx with h | h
  · exact hl x h
  · rw [h]; exact xor_U _ _
theorem getD_app {a b : List Int} {i : Nat} (h : i < a.length) : (a ++ b).getD i 0 = a.getD i 0 := by
  simp [List.getD, List.getElem?_append_left h]
theorem chg_app {a b : List Int} {i : Nat} (h : i < a.length) (k : Nat) (c : Int) : chg (a ++ b) i k c = chg a i k c ++ b := by
  unfold chg
  rw [getD_app h, List.set_append_left i _ h]
theorem byte_ne {s : Sup} (hs : supOk s = true) {i k : Nat} (hi : i < 8) (hk : k < 8) {c : Int} (hc : isBt c) (h0 : ¬ c = 0) : readE (chg (supL s) i k c) = 50 := by
  refine readE_50 (by rw [chg_len, supL_len]) fun hh => ?_
  have hm := hh.2
  generalize ht : supAt (chg (supL s) i k c) = t at hm
  by_cases h7 : i < 7
  · -- one of the seven words: the sum is another one
    have e1 : supL s = supP s ++ [beh 14695981039346656037 (supP s)] := by unfold supL; rfl
    have e2 : supL t = supP t ++ [beh 14695981039346656037 (supP t)] := by unfold supL; rfl
    rw [e1, chg_app (by rw [supP_len]; exact h7), e2] at hm
    have h3 := List.append_inj hm (by rw [chg_len, supP_len, supP_len])
    have h4 : beh 14695981039346656037 (supP t) = beh 14695981039346656037 (supP s) := by
      have := h3.2
      simpa using this
    rw [h3.1] at h4
    exact h0 ((chg_low firstU (supP_U hs) (by rw [supP_len]; exact h7) hk hc).1 (by rw [h4]))
  · -- the sum itself
    obtain rfl : i = 7 := by omega
    have e3 : t = s := by
      rw [← ht]
      have h1 := supL_get s
      have h2 : ∀ j, j ≠ 7 → (chg (supL s) 7 k c).getD j 0 = (supL s).getD j 0 := fun j hj => by
        unfold chg
        simp [List.getD, List.getElem?_set_ne (Ne.symm hj)]
      unfold supAt
      rw [h2 2 (by omega), h2 3 (by omega), h1.1, h1.2]
    rw [e3] at hm
    have h5 := chg_low (s := 0) (by unfold isU; omega) (supL_U hs) (i := 7) (by rw [supL_len]; omega) hk hc
    exact h0 (h5.1 (by rw [← hm]))
namespace X1230293
def XX := (And.intro (And.intro @tdiv8 (And.intro @tmod8 @toNatAddI)) (And.intro @toNatSubI (And.intro @takeAll @takeDropAll)))
def XN := @Nat.zero_add
def XR := (And.intro @rBy.eq_1 (And.intro @rSup.eq_1 @supP_len))
def XH := @Nat.zero_add
def XG := @Nat.zero_add
end X1230293
set_option maxHeartbeats 4000000 in
set_option maxRecDepth 10000 in
open X1230293 in
theorem k_law06_SuperByte (s : Sup) (a b c : Int) (hc : isBt c) : Con Try.prog 7 [supA s, vN .i64 a, vN .i64 b, vN .u8 c] [rB true] := by
  refine con_of_awp hmix Try.func7 s7 rfl (by rw [n7]; simp) r7 n7 ?_
  simp only [Eng.start, startFr, inX, sN, vN, List.map_cons, List.map_nil, supA, supC, c7]
  (repeat' (first
    | (refine aCallF 13 ?_; apply aE3; exact k_alive6; exact flatA; refine aPost ?_)
    | (refine aCallF 17 ?_; apply aE3; exact k_ref06_Check _; exact flatA; refine aPost ?_)
    | refine aOp ?_
    | refine aOff1 ?_
    | refine aOff2 ?_
    | (refine aSplit ?_ ?_ <;> intro hsp)
    | (refine RegA.done ‹_› ?_; first | refine aKeep [0, 1, 2, 3, 4, 8, 9, 10, 11, 13, 32, 45, 65] ?_ | skip)
    | refine awp_seq fun K hK => ?_
    | refine Awp.reg ?_
    | (refine aNcall (f := 13) ?_; apply aE6; exact k_alive6; (refine aNr (by simp only [unV', unX, unXs, unC, unL, rN, rB, List.append_nil, List.nil_append, rBy, rSup, supP_len]; rfl) rfl rfl); (first | exact .inl rfl | exact .inr flatA); refine aNpost ?_)
    | (refine aNcall (f := 17) ?_; apply aE6; exact k_ref06_Check _; (refine aNr (by simp only [unV', unX, unXs, unC, unL, rN, rB, List.append_nil, List.nil_append, rBy, rSup, supP_len]; rfl) rfl rfl); (first | exact .inl rfl | exact .inr flatA); refine aNpost ?_)
    | refine aNop ?_
    | refine aNoff1 ?_
    | refine aNoff2 ?_
    | (refine aNsplit ?_ ?_ <;> intro hsp)
    | refine aNnil ?_
    | refine aDrawN 9 [[], [], [0, 1], [2], [], [4], [], [6], [5, 7], [3, 8], [0, 1, 0, 1, 2, 3, 4, 5, 6, 7, 8, 9], [10, 9, 0, 1, 2, 3, 4, 5, 6, 7, 8, 9]] [[], [], [0, 1], [2, 0, 1], [], [4], [], [6], [5, 7, 4, 6], [3, 8, 2, 0, 1, 5, 7, 4, 6], [0, 1, 2, 3, 4, 5, 6, 7, 8, 9], [10, 9, 0, 1, 2, 3, 4, 5, 6, 7, 8]] ?_
    | refine Awp.skip ?_
    | refine Awp.block ?_
    | refine Awp.scope ?_
    | refine aCt ?_
    | refine aCf ?_
    | (refine aCond ?_ ?_ <;> intro hsp)
    | (refine Awp.exit ?_; simp only [blockQ, thenQ, scopeQ, ↓reduceIte, Nat.reduceEqDiff])
    | (refine viaK ‹_› ?_; first | refine aKeep [0, 1, 2, 3, 4, 8, 9, 10, 11, 13, 32, 45, 65] ?_ | skip)
    | simp only [thenQ_normal, blockQ_normal]))
  · (refine Awp.ret ?_; refine aRet ?_; (simp [-List.getD_eq_getElem?_getD, laxR, laxX, laxC, laxCs, rB, rN, rO, rBy, rSup, supP_len] <;> (intros; omega)))
  · (refine Awp.ret ?_; refine aRet ?_; (simp [-List.getD_eq_getElem?_getD, laxR, laxX, laxC, laxCs, rB, rN, rO, rBy, rSup, supP_len] <;> (intros; omega)))
  · (refine Awp.ret ?_; refine aRet ?_; (simp [-List.getD_eq_getElem?_getD, laxR, laxX, laxC, laxCs, rB, rN, rO, rBy, rSup, supP_len] <;> (intros; omega)))
  · (refine Awp.ret ?_; refine aRet ?_; (simp [-List.getD_eq_getElem?_getD, laxR, laxX, laxC, laxCs, rB, rN, rO, rBy, rSup, supP_len] <;> (intros; omega)))
  · (refine Awp.ret ?_; refine aRet ?_; (simp [-List.getD_eq_getElem?_getD, laxR, laxX, laxC, laxCs, rB, rN, rO, rBy, rSup, supP_len] <;> (intros; omega)))
  · have hs := supE_iff.1 ‹supE s = 0›
    have e1 := supW_yes hs
    have e2 := ‹supE s = 0›
    have l1 := supL_len s
    have l2 := chg_len (supL s) a.toNat b.toNat c
    (have XH := (And.intro (And.intro @eq_self.{1} @eqs_sup) (And.intro @sup_eta (And.intro @hc8 @l1))); have XG := (And.intro (And.intro @hc8 @e1) (And.intro @e2 @l1)); (repeat' (first
        | (refine aCall 9 ?_; apply aE2; exact k_super_Write _; refine aPost ?_)
        | (refine aCall 14 ?_; apply aE2; exact k_ref02_Twin _ (by omega); refine aPost ?_)
        | (refine aCallF 13 ?_; apply aE3; exact k_alive6; exact flatA; refine aPost ?_)
        | refine aOp ?_
        | refine aOff1 ?_
        | refine aOff2 ?_
        | (refine aSplit ?_ ?_ <;> intro hsp)
        | (refine RegA.done ‹_› ?_; first | refine aKeep [0, 1, 2, 3, 4, 8, 9, 10, 11, 13, 32, 45, 65] ?_ | skip)
        | refine awp_seq fun K hK => ?_
        | refine Awp.reg ?_
        | (refine aNcall (f := 13) ?_; apply aE6; exact k_alive6; (refine aNr (by simp only [unV', unX, unXs, unC, unL, rN, rB, List.append_nil, List.nil_append, rBy, rSup, supP_len]; rfl) rfl rfl); (first | exact .inl rfl | exact .inr flatA); refine aNpost ?_)
        | refine aNop ?_
        | refine aNoff1 ?_
        | refine aNoff2 ?_
        | (refine aNsplit ?_ ?_ <;> intro hsp)
        | refine aNnil ?_
        | refine aDrawN 9 [[], [], [0, 1], [2], [], [4], [], [6], [5, 7], [3, 8], [0, 1, 0, 1, 2, 3, 4, 5, 6, 7, 8, 9], [10, 9, 0, 1, 2, 3, 4, 5, 6, 7, 8, 9]] [[], [], [0, 1], [2, 0, 1], [], [4], [], [6], [5, 7, 4, 6], [3, 8, 2, 0, 1, 5, 7, 4, 6], [0, 1, 2, 3, 4, 5, 6, 7, 8, 9], [10, 9, 0, 1, 2, 3, 4, 5, 6, 7, 8]] ?_
        | refine Awp.skip ?_
        | refine Awp.block ?_
        | refine Awp.scope ?_
        | refine aCt ?_
        | refine aCf ?_
        | (refine aCond ?_ ?_ <;> intro hsp)
        | (refine Awp.exit ?_; simp only [blockQ, thenQ, scopeQ, ↓reduceIte, Nat.reduceEqDiff])
        | (refine viaK ‹_› ?_; first | refine aKeep [0, 1, 2, 3, 4, 8, 9, 10, 11, 13, 32, 45, 65] ?_ | skip)
        | simp only [thenQ_normal, blockQ_normal])); all_goals (clear XH; clear XG))
    have ed : ((supL s).map (numD .u64)).set a.toNat [D.v (.int .u64 (bits .xor .u64 ((supL s).getD a.toNat 0) (IntKind.u64.wrap (IntKind.u64.wrap c * 2 ^ min (8 * b).toNat IntKind.u64.bits))))] = (chg (supL s) a.toNat b.toNat c).map (numD .u64) := by
      have h1 : (8 * b).toNat = 8 * b.toNat := by omega
      have h2 : IntKind.u64.wrap c = c := by
        rw [u64w]
        unfold isBt at hc
        omega
      rw [num_set, h2, h1, Nat.min_eq_left (by show 8 * b.toNat ≤ 64; omega)]
      unfold chg
      rfl
    simp only [ed]
    have hu : ∀ x ∈ chg (supL s) a.toNat b.toNat c, isU x := chg_U (supL_U hs) _ _ _
    by_cases h0 : c = 0
    · subst h0
      have e3 := chg_same (supL_U hs) (i := a.toNat) (by omega) b.toNat
      have e4 := (read_supL hs).1
      have e5 := (read_supL hs).2
      simp only [e3]
      (have XH := (And.intro (And.intro @eq_self.{1} @eqs_sup) (And.intro @sup_eta (And.intro @hc8 @l1))); have XG := (And.intro (And.intro @hc8 @hd1) (And.intro @hd2 (And.intro @e4 @e5))); (repeat' (first
          | (refine aCallF 12 ?_; apply aE3; exact k_super_Read (supL s) (supL_U hs) (by omega); exact flatA; refine aPost ?_)
          | (refine aCallF 13 ?_; apply aE3; exact k_alive6; exact flatA; refine aPost ?_)
          | refine aOp ?_
          | refine aOff1 ?_
          | refine aOff2 ?_
          | (refine aSplit ?_ ?_ <;> intro hsp)
          | (refine RegA.done ‹_› ?_; first | refine aKeep [0, 1, 2, 3, 4, 8, 9, 10, 11, 13, 32, 45, 65] ?_ | skip)
          | refine awp_seq fun K hK => ?_
          | refine Awp.reg ?_
          | (refine aNcall (f := 12) ?_; apply aE6; exact k_super_Read (supL s) (supL_U hs) (by omega); (refine aNr (by simp only [unV', unX, unXs, unC, unL, rN, rB, List.append_nil, List.nil_append, rBy, rSup, supP_len]; rfl) rfl rfl); (first | exact .inl rfl | exact .inr flatA); refine aNpost ?_)
          | (refine aNcall (f := 13) ?_; apply aE6; exact k_alive6; (refine aNr (by simp only [unV', unX, unXs, unC, unL, rN, rB, List.append_nil, List.nil_append, rBy, rSup, supP_len]; rfl) rfl rfl); (first | exact .inl rfl | exact .inr flatA); refine aNpost ?_)
          | refine aNop ?_
          | refine aNoff1 ?_
          | refine aNoff2 ?_
          | (refine aNsplit ?_ ?_ <;> intro hsp)
          | refine aNnil ?_
          | refine aDrawN 9 [[], [], [0, 1], [2], [], [4], [], [6], [5, 7], [3, 8], [0, 1, 0, 1, 2, 3, 4, 5, 6, 7, 8, 9], [10, 9, 0, 1, 2, 3, 4, 5, 6, 7, 8, 9]] [[], [], [0, 1], [2, 0, 1], [], [4], [], [6], [5, 7, 4, 6], [3, 8, 2, 0, 1, 5, 7, 4, 6], [0, 1, 2, 3, 4, 5, 6, 7, 8, 9], [10, 9, 0, 1, 2, 3, 4, 5, 6, 7, 8]] ?_
          | refine Awp.skip ?_
          | refine Awp.block ?_
          | refine Awp.scope ?_
          | refine aCt ?_
          | refine aCf ?_
          | (refine aCond ?_ ?_ <;> intro hsp)
          | (refine Awp.exit ?_; simp only [blockQ, thenQ, scopeQ, ↓reduceIte, Nat.reduceEqDiff])
          | (refine viaK ‹_› ?_; first | refine aKeep [0, 1, 2, 3, 4, 8, 9, 10, 11, 13, 32, 45, 65] ?_ | skip)
          | simp only [thenQ_normal, blockQ_normal])); all_goals (clear XH; clear XG))
      (refine Awp.ret ?_; refine aRet ?_; (simp [-List.getD_eq_getElem?_getD, laxR, laxX, laxC, laxCs, rB, rN, rO, rBy, rSup, supP_len] <;> (intros; omega)))
    · have e3 := byte_ne hs (i := a.toNat) (k := b.toNat) (by omega) (by omega) hc h0
      have e4 : decide (c = 0) = false := decide_eq_false h0
      (have XH := (And.intro (And.intro (And.intro @eq_self.{1} @eqs_sup) (And.intro @sup_eta @hc8)) (And.intro (And.intro @hd1 @hd2) (And.intro @e4 (And.intro @l1 @l2)))); have XG := (And.intro (And.intro @hc8 @hd1) (And.intro @hd2 (And.intro @e3 @e4))); (repeat' (first
          | (refine aCallF 12 ?_; apply aE3; exact k_super_Read (chg (supL s) a.toNat b.toNat c) hu (by omega); exact flatA; refine aPost ?_)
          | (refine aCallF 13 ?_; apply aE3; exact k_alive6; exact flatA; refine aPost ?_)
          | refine aOp ?_
          | refine aOff1 ?_
          | refine aOff2 ?_
          | (refine aSplit ?_ ?_ <;> intro hsp)
          | (refine RegA.done ‹_› ?_; first | refine aKeep [0, 1, 2, 3, 4, 8, 9, 10, 11, 13, 32, 45, 65] ?_ | skip)
          | refine awp_seq fun K hK => ?_
          | refine Awp.reg ?_
          | (refine aNcall (f := 12) ?_; apply aE6; exact k_super_Read (chg (supL s) a.toNat b.toNat c) hu (by omega); (refine aNr (by simp only [unV', unX, unXs, unC, unL, rN, rB, List.append_nil, List.nil_append, rBy, rSup, supP_len]; rfl) rfl rfl); (first | exact .inl rfl | exact .inr flatA); refine aNpost ?_)
          | (refine aNcall (f := 13) ?_; apply aE6; exact k_alive6; (refine aNr (by simp only [unV', unX, unXs, unC, unL, rN, rB, List.append_nil, List.nil_append, rBy, rSup, supP_len]; rfl) rfl rfl); (first | exact .inl rfl | exact .inr flatA); refine aNpost ?_)
          | refine aNop ?_
          | refine aNoff1 ?_
          | refine aNoff2 ?_
          | (refine aNsplit ?_ ?_ <;> intro hsp)
          | refine aNnil ?_
          | refine aDrawN 9 [[], [], [0, 1], [2], [], [4], [], [6], [5, 7], [3, 8], [0, 1, 0, 1, 2, 3, 4, 5, 6, 7, 8, 9], [10, 9, 0, 1, 2, 3, 4, 5, 6, 7, 8, 9]] [[], [], [0, 1], [2, 0, 1], [], [4], [], [6], [5, 7, 4, 6], [3, 8, 2, 0, 1, 5, 7, 4, 6], [0, 1, 2, 3, 4, 5, 6, 7, 8, 9], [10, 9, 0, 1, 2, 3, 4, 5, 6, 7, 8]] ?_
          | refine Awp.skip ?_
          | refine Awp.block ?_
          | refine Awp.scope ?_
          | refine aCt ?_
          | refine aCf ?_
          | (refine aCond ?_ ?_ <;> intro hsp)
          | (refine Awp.exit ?_; simp only [blockQ, thenQ, scopeQ, ↓reduceIte, Nat.reduceEqDiff])
          | (refine viaK ‹_› ?_; first | refine aKeep [0, 1, 2, 3, 4, 8, 9, 10, 11, 13, 32, 45, 65] ?_ | skip)
          | simp only [thenQ_normal, blockQ_normal])); all_goals (clear XH; clear XG))
      (refine Awp.ret ?_; refine aRet ?_; (simp [-List.getD_eq_getElem?_getD, laxR, laxX, laxC, laxCs, rB, rN, rO, rBy, rSup, supP_len] <;> (intros; omega)))
end
end Go.Proofs.Ytnkakhmmlgkbgaa
