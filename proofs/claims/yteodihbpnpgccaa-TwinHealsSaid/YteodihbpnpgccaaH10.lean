/-
  The contracts of the program's functions, data in, data out. Conditions: those in the statements.
-/
import Derived.Test.YteodihbpnpgccaaH9
namespace Go.Proofs.Yteodihbpnpgccaa
set_option linter.all false
open Go Go.Proofs.Yteodihbpnpgccaa.Eng Go.RowKit
noncomputable section

@[irreducible] def hr (s : Sup) (a : Int) (w : Int) : List Int := (List.replicate (s.w.toNat - 16) 0).set (a.toNat - 16) w
@[irreducible] def hm (s : Sup) (a : Int) (w : Int) : List Int := (imgS s).set a.toNat w
theorem hm_eq (s : Sup) {a : Int} (h : 16 ≤ a) (w : Int) : hm s a w = supL s ++ (supL s ++ hr s a w) := by
  unfold hm hr
  rw [imgS_eq, set_16 (supL_len s) (supL_len s) (by omega)]
theorem hm_row (s : Sup) (a w : Int) : ((imgS s).map (numD .u64)).set a.toNat [D.v (.int .u64 w)] = (hm s a w).map (numD .u64) := by unfold hm; rw [List.map_set]; rfl
theorem hr_len (s : Sup) (a w : Int) : (hr s a w).length = s.w.toNat - 16 := by unfold hr; rw [List.length_set, List.length_replicate]
theorem hm_len {s : Sup} (h : supOk s = true) (a w : Int) : (hm s a w).length = s.w.toNat := by unfold hm; rw [List.length_set, imgS_len h]
theorem hr_U (s : Sup) (a : Int) {w : Int} (hw : isU w) : ∀ x ∈ hr s a w, isU x := by
  unfold hr
  intro x hx
  rcases List.mem_or_eq_of_mem_set hx with h | h
  · rw [List.eq_of_mem_replicate h]; unfold isU; omega
  · rw [h]; exact hw
@[irreducible] def hx (p q : List Int) (s : Sup) (a w : Int) : List Int := p ++ (q ++ hr s a w)
theorem hx_len {p q : List Int} (hp : p.length = 8) (hq : q.length = 8) {s : Sup} (h : supOk s = true) (a w : Int) : (hx p q s a w).length = s.w.toNat := by
  have := sup_le h
  unfold hx
  simp only [List.length_append, hp, hq, hr_len]
  omega
theorem hx_U {p q : List Int} (hp : ∀ x ∈ p, isU x) (hq : ∀ x ∈ q, isU x) (s : Sup) (a : Int) {w : Int} (hw : isU w) : ∀ x ∈ hx p q s a w, isU x := by
  unfold hx
  intro x h
  rcases List.mem_append.1 h with h1 | h1
  · exact hp x h1
  · rcases List.mem_append.1 h1 with h1 | h1
    · exact hq x h1
    · exact hr_U s a hw x h1
theorem hm_chk {s : Sup} (h : supOk s = true) (a w : Int) : chk (hm s a w).length = 0 := by
  have := sup_le h
  rw [hm_len h]
  exact chk_of (by omega) (by omega) (by omega)
theorem hp_0 {s : Sup} (h : supOk s = true) {l : List Int} (hl : l.length = 8) {a : Int} (ha : 16 ≤ a) (w : Int) : getE (hm s a w).length 0 l.length = 0 ∧ putL (hm s a w) 0 l = hx l (supL s) s a w := by
  have e := hm_eq s ha w
  have h1 := put_0 (a := supL s) (r := supL s ++ hr s a w) (supL_len s) hl (by rw [← e]; exact hm_chk h a w)
  rw [← e] at h1
  exact ⟨h1.1, by rw [h1.2]; unfold hx; rfl⟩
theorem hp_8 {s : Sup} (h : supOk s = true) {l : List Int} (hl : l.length = 8) {a : Int} (ha : 16 ≤ a) (w : Int) : getE (hm s a w).length 8 l.length = 0 ∧ putL (hm s a w) 8 l = hx (supL s) l s a w := by
  have e := hm_eq s ha w
  have h1 := put_8 (a := supL s) (b := supL s) (r := hr s a w) (supL_len s) (supL_len s) hl (by rw [← e]; exact hm_chk h a w)
  rw [← e] at h1
  exact ⟨h1.1, by rw [h1.2]; unfold hx; rfl⟩
theorem ht_8 {s : Sup} (h : supOk s = true) {l : List Int} (hl : l.length = 8) {a : Int} (ha : 16 ≤ a) (w : Int) : twE (hx (supL s) l s a w) = 0 ∧ twS (hx (supL s) l s a w) = s ∧ twA (hx (supL s) l s a w) = true ∧ twV (hx (supL s) l s a w) = hm s a w := by
  have h0 := sup_le h
  have hlen := hx_len (supL_len s) hl h a w
  have e : hx (supL s) l s a w = supL s ++ (l ++ hr s a w) := by unfold hx; rfl
  have h1 := tw_first (l := l) (r := hr s a w) h hl (by rw [← e, hlen]; omega)
  rw [← e] at h1
  exact ⟨h1.1, h1.2.1, h1.2.2.1, by rw [h1.2.2.2.1, hm_eq s ha]⟩
theorem ht_0 {s : Sup} (h : supOk s = true) {l : List Int} (hl : l.length = 8) {a : Int} (ha : 16 ≤ a) (w : Int) (hn : ¬ (readE l = 0 ∧ (readV l).w = s.w)) : twE (hx l (supL s) s a w) = 0 ∧ twS (hx l (supL s) s a w) = s ∧ twB (hx l (supL s) s a w) = true ∧ twV (hx l (supL s) s a w) = hm s a w := by
  have h0 := sup_le h
  have hlen := hx_len hl (supL_len s) h a w
  have e : hx l (supL s) s a w = l ++ (supL s ++ hr s a w) := by unfold hx; rfl
  have h1 := tw_second (l := l) (r := hr s a w) h hl (by rw [← e, hlen]; omega) hn
  rw [← e] at h1
  exact ⟨h1.1, h1.2.1, h1.2.2.2.1, by rw [h1.2.2.2.2, hm_eq s ha]⟩
theorem cs80 : (8 : Int) * 0 = 0 := rfl
theorem cs81 : (8 : Int) * 1 = 8 := rfl
theorem cs10 : (1 : Int) - 0 = 1 := rfl
theorem cs11 : (1 : Int) - 1 = 0 := rfl
theorem ds00 : decide ((0 : Int) = 0) = true := rfl
theorem ds10 : decide ((1 : Int) = 0) = false := rfl
namespace X7eb63a7
def XX := (And.intro (And.intro (And.intro @tdiv8 (And.intro @tmod8 @toNatAddI)) (And.intro (And.intro @toNatSubI @takeAll) (And.intro @takeDropAll @getD_entC))) (And.intro (And.intro @List.all_cons.{0} (And.intro @List.all_nil.{0} @List.getElem?_cons_zero.{0})) (And.intro (And.intro @List.getElem?_cons_succ.{0} @Bool.and_self) (And.intro @List.cons_append.{0} @Nat.mul_one))))
def XN := @Nat.zero_add
def XR := (And.intro (And.intro @rBy.eq_1 @rSup.eq_1) (And.intro @supP_len (And.intro @rB2.eq_1 @rEn.eq_1)))
def XH := @Nat.zero_add
def XG := @Nat.zero_add
end X7eb63a7
set_option maxHeartbeats 4000000 in
set_option maxRecDepth 10000 in
open X7eb63a7 in
theorem k_law07_TwinHeals (s : Sup) (b : Int) (l : List Int) (a w : Int) (hl : ∀ x ∈ l, isU x) (hw : isU w) : Con Try.prog 5 [supA s, vN .i64 b, sN .u64 l, vN .i64 a, vN .u64 w] [rB true] := by
  refine con_of_awp hmix Try.func5 s5 rfl (by rw [n5]; simp) r5 n5 ?_
  simp only [Eng.start, startFr, inX, sN, vN, List.map_cons, List.map_nil, supA, supC, sEn, c5]
  (repeat' (first
    | (refine aCallF 21 ?_; apply aE3; exact k_ref06_Check _; exact flatA; refine aPost ?_)
    | (refine aCallF 14 ?_; apply aE3; exact k_alive7; exact flatA; refine aPost ?_)
    | refine aOp ?_
    | refine aOp2 ?_
    | refine aOff1 ?_
    | refine aOff2 ?_
    | (refine aSplit ?_ ?_ <;> intro hsp)
    | (refine RegA.done ‹_› ?_; first | refine aKeep [0, 1, 2, 3, 4, 5, 10, 11, 12, 13, 14, 15, 16, 17, 18, 19, 20, 21, 47, 55, 69, 87] ?_ | skip)
    | refine awp_seq fun K hK => ?_
    | refine Awp.reg ?_
    | refine Awp.skip ?_
    | refine Awp.block ?_
    | refine Awp.scope ?_
    | refine aCt ?_
    | refine aCf ?_
    | (refine aCond ?_ ?_ <;> intro hsp)
    | (refine Awp.exit ?_; simp only [blockQ, thenQ, scopeQ, ↓reduceIte, Nat.reduceEqDiff])
    | (refine viaK ‹_› ?_; first | refine aKeep [0, 1, 2, 3, 4, 5, 10, 11, 12, 13, 14, 15, 16, 17, 18, 19, 20, 21, 47, 55, 69, 87] ?_ | skip)
    | simp only [thenQ_normal, blockQ_normal]))
  · (refine Awp.ret ?_; refine aRet ?_; (simp [-List.getD_eq_getElem?_getD, laxR, laxX, laxC, laxCs, rB, rN, rO, rBy, rSup, supP_len, rB2, rEn] <;> (intros; omega)))
  · (refine Awp.ret ?_; refine aRet ?_; (simp [-List.getD_eq_getElem?_getD, laxR, laxX, laxC, laxCs, rB, rN, rO, rBy, rSup, supP_len, rB2, rEn] <;> (intros; omega)))
  · (refine Awp.ret ?_; refine aRet ?_; (simp [-List.getD_eq_getElem?_getD, laxR, laxX, laxC, laxCs, rB, rN, rO, rBy, rSup, supP_len, rB2, rEn] <;> (intros; omega)))
  · (refine Awp.ret ?_; refine aRet ?_; (simp [-List.getD_eq_getElem?_getD, laxR, laxX, laxC, laxCs, rB, rN, rO, rBy, rSup, supP_len, rB2, rEn] <;> (intros; omega)))
  · (refine Awp.ret ?_; refine aRet ?_; (simp [-List.getD_eq_getElem?_getD, laxR, laxX, laxC, laxCs, rB, rN, rO, rBy, rSup, supP_len, rB2, rEn] <;> (intros; omega)))
  · (refine Awp.ret ?_; refine aRet ?_; (simp [-List.getD_eq_getElem?_getD, laxR, laxX, laxC, laxCs, rB, rN, rO, rBy, rSup, supP_len, rB2, rEn] <;> (intros; omega)))
  · have hs := supE_iff.1 ‹supE s = 0›
    have w1 := sup_le hs
    have i1 := imgS_len hs
    have l8 : l.length = 8 := by omega
    have ll := supL_len s
    have m1 := hm_len hs a w
    have lU := hl
    have bn : decide (((l.length : Nat) : Int) = 8) = true := decide_eq_true (by omega)
    have ha : 16 ≤ a := by omega
    rcases (by omega : b = 1 ∨ b = 0) with rfl | rfl
    · by_cases q0 : readE l = 0
      all_goals (first | (have q1 : decide (readE l = 0) = true := decide_eq_true q0) | (have q1 : decide (readE l = 0) = false := decide_eq_false q0))
      all_goals have q2 := ds00
      · obtain ⟨p1, p2⟩ := hp_8 hs l8 ha w
        obtain ⟨f1, f2, f3, f5⟩ := ht_8 hs l8 ha w
        have xl := hx_len ll l8 hs a w
        have xu := hx_U (supL_U hs) hl s a hw
        rw [l8] at p1
        (have XH := (And.intro (And.intro (And.intro @eq_self.{1} (And.intro @eqs_sup @sup_eta)) (And.intro (And.intro @eqr_b2 @hb_self) (And.intro @i1 @l8))) (And.intro (And.intro (And.intro @ds00 @ds10) (And.intro @cs80 @cs81)) (And.intro (And.intro @cs10 @cs11) (And.intro @q1 @q2)))); have XG := (And.intro (And.intro (And.intro (And.intro @p1 @p2) (And.intro @f1 @f2)) (And.intro (And.intro @f3 @f5) (And.intro @sup_eta @eq_self.{1}))) (And.intro (And.intro (And.intro @decide_true @l8) (And.intro @cs80 @cs81)) (And.intro (And.intro @cs10 @cs11) (And.intro @hm_row (And.intro @q1 @q2))))); (repeat' (first
            | (refine aCall 9 ?_; apply aE2; exact k_law07_with s hs; refine aPost ?_)
            | (refine aCall 22 ?_; apply aE2; exact k_image_Put (hm s a w) 8 l (by omega) (by omega) (by omega); refine aPost ?_)
            | (refine aCallF 23 ?_; apply aE3; exact k_super_Read l hl (by omega); exact flatA; refine aPost ?_)
            | (refine aCall 10 ?_; apply aE2; exact k_twin_Read (hx (supL s) l s a w) xu (by omega); refine aPost ?_)
            | (refine aCall 12 ?_; apply aE2; exact k_twin_View (hx (supL s) l s a w) xu (by omega); refine aPost ?_)
            | (refine aCallF 13 ?_; apply aE3; exact k_ref02_Same _ _ (by first | omega | (simp; omega)) (by first | omega | (simp; omega)); exact flatA; refine aPost ?_)
            | (refine aCallF 14 ?_; apply aE3; exact k_alive7; exact flatA; refine aPost ?_)
            | refine aOp ?_
            | refine aOp2 ?_
            | refine aOff1 ?_
            | refine aOff2 ?_
            | (refine aSplit ?_ ?_ <;> intro hsp)
            | (refine RegA.done ‹_› ?_; first | refine aKeep [0, 1, 2, 3, 4, 5, 10, 11, 12, 13, 14, 15, 16, 17, 18, 19, 20, 21, 47, 55, 69, 87] ?_ | skip)
            | refine awp_seq fun K hK => ?_
            | refine Awp.reg ?_
            | refine Awp.skip ?_
            | refine Awp.block ?_
            | refine Awp.scope ?_
            | refine aCt ?_
            | refine aCf ?_
            | (refine aCond ?_ ?_ <;> intro hsp)
            | (refine Awp.exit ?_; simp only [blockQ, thenQ, scopeQ, ↓reduceIte, Nat.reduceEqDiff])
            | (refine viaK ‹_› ?_; first | refine aKeep [0, 1, 2, 3, 4, 5, 10, 11, 12, 13, 14, 15, 16, 17, 18, 19, 20, 21, 47, 55, 69, 87] ?_ | skip)
            | simp only [thenQ_normal, blockQ_normal])); all_goals (clear XH; clear XG))
        all_goals (refine Awp.ret ?_; refine aRet ?_; (simp [-List.getD_eq_getElem?_getD, laxR, laxX, laxC, laxCs, rB, rN, rO, rBy, rSup, supP_len, rB2, rEn] <;> (intros; omega)))
      · obtain ⟨p1, p2⟩ := hp_8 hs l8 ha w
        obtain ⟨f1, f2, f3, f5⟩ := ht_8 hs l8 ha w
        have xl := hx_len ll l8 hs a w
        have xu := hx_U (supL_U hs) hl s a hw
        rw [l8] at p1
        (have XH := (And.intro (And.intro (And.intro @eq_self.{1} (And.intro @eqs_sup @sup_eta)) (And.intro (And.intro @eqr_b2 @hb_self) (And.intro @i1 @l8))) (And.intro (And.intro (And.intro @ds00 @ds10) (And.intro @cs80 @cs81)) (And.intro (And.intro @cs10 @cs11) (And.intro @q1 @q2)))); have XG := (And.intro (And.intro (And.intro (And.intro @p1 @p2) (And.intro @f1 @f2)) (And.intro (And.intro @f3 @f5) (And.intro @sup_eta @eq_self.{1}))) (And.intro (And.intro (And.intro @decide_true @l8) (And.intro @cs80 @cs81)) (And.intro (And.intro @cs10 @cs11) (And.intro @hm_row (And.intro @q1 @q2))))); (repeat' (first
            | (refine aCall 9 ?_; apply aE2; exact k_law07_with s hs; refine aPost ?_)
            | (refine aCall 22 ?_; apply aE2; exact k_image_Put (hm s a w) 8 l (by omega) (by omega) (by omega); refine aPost ?_)
            | (refine aCallF 23 ?_; apply aE3; exact k_super_Read l hl (by omega); exact flatA; refine aPost ?_)
            | (refine aCall 10 ?_; apply aE2; exact k_twin_Read (hx (supL s) l s a w) xu (by omega); refine aPost ?_)
            | (refine aCall 12 ?_; apply aE2; exact k_twin_View (hx (supL s) l s a w) xu (by omega); refine aPost ?_)
            | (refine aCallF 13 ?_; apply aE3; exact k_ref02_Same _ _ (by first | omega | (simp; omega)) (by first | omega | (simp; omega)); exact flatA; refine aPost ?_)
            | (refine aCallF 14 ?_; apply aE3; exact k_alive7; exact flatA; refine aPost ?_)
            | refine aOp ?_
            | refine aOp2 ?_
            | refine aOff1 ?_
            | refine aOff2 ?_
            | (refine aSplit ?_ ?_ <;> intro hsp)
            | (refine RegA.done ‹_› ?_; first | refine aKeep [0, 1, 2, 3, 4, 5, 10, 11, 12, 13, 14, 15, 16, 17, 18, 19, 20, 21, 47, 55, 69, 87] ?_ | skip)
            | refine awp_seq fun K hK => ?_
            | refine Awp.reg ?_
            | refine Awp.skip ?_
            | refine Awp.block ?_
            | refine Awp.scope ?_
            | refine aCt ?_
            | refine aCf ?_
            | (refine aCond ?_ ?_ <;> intro hsp)
            | (refine Awp.exit ?_; simp only [blockQ, thenQ, scopeQ, ↓reduceIte, Nat.reduceEqDiff])
            | (refine viaK ‹_› ?_; first | refine aKeep [0, 1, 2, 3, 4, 5, 10, 11, 12, 13, 14, 15, 16, 17, 18, 19, 20, 21, 47, 55, 69, 87] ?_ | skip)
            | simp only [thenQ_normal, blockQ_normal])); all_goals (clear XH; clear XG))
        all_goals (refine Awp.ret ?_; refine aRet ?_; (simp [-List.getD_eq_getElem?_getD, laxR, laxX, laxC, laxCs, rB, rN, rO, rBy, rSup, supP_len, rB2, rEn] <;> (intros; omega)))
    · by_cases q0 : readE l = 0
      · have q1 : decide (readE l = 0) = true := decide_eq_true q0
        by_cases q3 : (readV l).w = s.w
        · have q2 : decide ((readV l).w = s.w) = true := decide_eq_true q3
          obtain ⟨p1, p2⟩ := hp_0 hs l8 ha w
          have xl := hx_len l8 ll hs a w
          have xu := hx_U hl (supL_U hs) s a hw
          have f1 := ds00
          have f2 := ds00
          have f3 := ds00
          have f5 := ds00
          rw [l8] at p1
          (have XH := (And.intro (And.intro (And.intro @eq_self.{1} (And.intro @eqs_sup @sup_eta)) (And.intro (And.intro @eqr_b2 @hb_self) (And.intro @i1 @l8))) (And.intro (And.intro (And.intro @ds00 @ds10) (And.intro @cs80 @cs81)) (And.intro (And.intro @cs10 @cs11) (And.intro @q1 @q2)))); have XG := (And.intro (And.intro (And.intro (And.intro @p1 @p2) (And.intro @f1 @f2)) (And.intro (And.intro @f3 @f5) (And.intro @sup_eta @eq_self.{1}))) (And.intro (And.intro (And.intro @decide_true @l8) (And.intro @cs80 @cs81)) (And.intro (And.intro @cs10 @cs11) (And.intro @hm_row (And.intro @q1 @q2))))); (repeat' (first
              | (refine aCall 9 ?_; apply aE2; exact k_law07_with s hs; refine aPost ?_)
              | (refine aCall 22 ?_; apply aE2; exact k_image_Put (hm s a w) 0 l (by omega) (by omega) (by omega); refine aPost ?_)
              | (refine aCallF 23 ?_; apply aE3; exact k_super_Read l hl (by omega); exact flatA; refine aPost ?_)
              | (refine aCall 10 ?_; apply aE2; exact k_twin_Read (hx l (supL s) s a w) xu (by omega); refine aPost ?_)
              | (refine aCall 12 ?_; apply aE2; exact k_twin_View (hx l (supL s) s a w) xu (by omega); refine aPost ?_)
              | (refine aCallF 13 ?_; apply aE3; exact k_ref02_Same _ _ (by first | omega | (simp; omega)) (by first | omega | (simp; omega)); exact flatA; refine aPost ?_)
              | (refine aCallF 14 ?_; apply aE3; exact k_alive7; exact flatA; refine aPost ?_)
              | refine aOp ?_
              | refine aOp2 ?_
              | refine aOff1 ?_
              | refine aOff2 ?_
              | (refine aSplit ?_ ?_ <;> intro hsp)
              | (refine RegA.done ‹_› ?_; first | refine aKeep [0, 1, 2, 3, 4, 5, 10, 11, 12, 13, 14, 15, 16, 17, 18, 19, 20, 21, 47, 55, 69, 87] ?_ | skip)
              | refine awp_seq fun K hK => ?_
              | refine Awp.reg ?_
              | refine Awp.skip ?_
              | refine Awp.block ?_
              | refine Awp.scope ?_
              | refine aCt ?_
              | refine aCf ?_
              | (refine aCond ?_ ?_ <;> intro hsp)
              | (refine Awp.exit ?_; simp only [blockQ, thenQ, scopeQ, ↓reduceIte, Nat.reduceEqDiff])
              | (refine viaK ‹_› ?_; first | refine aKeep [0, 1, 2, 3, 4, 5, 10, 11, 12, 13, 14, 15, 16, 17, 18, 19, 20, 21, 47, 55, 69, 87] ?_ | skip)
              | simp only [thenQ_normal, blockQ_normal])); all_goals (clear XH; clear XG))
          all_goals (refine Awp.ret ?_; refine aRet ?_; (simp [-List.getD_eq_getElem?_getD, laxR, laxX, laxC, laxCs, rB, rN, rO, rBy, rSup, supP_len, rB2, rEn] <;> (intros; omega)))
        · have q2 : decide ((readV l).w = s.w) = false := decide_eq_false q3
          have hn : ¬ (readE l = 0 ∧ (readV l).w = s.w) := fun h => q3 h.2
          obtain ⟨p1, p2⟩ := hp_0 hs l8 ha w
          obtain ⟨f1, f2, f3, f5⟩ := ht_0 hs l8 ha w hn
          have xl := hx_len l8 ll hs a w
          have xu := hx_U hl (supL_U hs) s a hw
          rw [l8] at p1
          (have XH := (And.intro (And.intro (And.intro @eq_self.{1} (And.intro @eqs_sup @sup_eta)) (And.intro (And.intro @eqr_b2 @hb_self) (And.intro @i1 @l8))) (And.intro (And.intro (And.intro @ds00 @ds10) (And.intro @cs80 @cs81)) (And.intro (And.intro @cs10 @cs11) (And.intro @q1 @q2)))); have XG := (And.intro (And.intro (And.intro (And.intro @p1 @p2) (And.intro @f1 @f2)) (And.intro (And.intro @f3 @f5) (And.intro @sup_eta @eq_self.{1}))) (And.intro (And.intro (And.intro @decide_true @l8) (And.intro @cs80 @cs81)) (And.intro (And.intro @cs10 @cs11) (And.intro @hm_row (And.intro @q1 @q2))))); (repeat' (first
              | (refine aCall 9 ?_; apply aE2; exact k_law07_with s hs; refine aPost ?_)
              | (refine aCall 22 ?_; apply aE2; exact k_image_Put (hm s a w) 0 l (by omega) (by omega) (by omega); refine aPost ?_)
              | (refine aCallF 23 ?_; apply aE3; exact k_super_Read l hl (by omega); exact flatA; refine aPost ?_)
              | (refine aCall 10 ?_; apply aE2; exact k_twin_Read (hx l (supL s) s a w) xu (by omega); refine aPost ?_)
              | (refine aCall 12 ?_; apply aE2; exact k_twin_View (hx l (supL s) s a w) xu (by omega); refine aPost ?_)
              | (refine aCallF 13 ?_; apply aE3; exact k_ref02_Same _ _ (by first | omega | (simp; omega)) (by first | omega | (simp; omega)); exact flatA; refine aPost ?_)
              | (refine aCallF 14 ?_; apply aE3; exact k_alive7; exact flatA; refine aPost ?_)
              | refine aOp ?_
              | refine aOp2 ?_
              | refine aOff1 ?_
              | refine aOff2 ?_
              | (refine aSplit ?_ ?_ <;> intro hsp)
              | (refine RegA.done ‹_› ?_; first | refine aKeep [0, 1, 2, 3, 4, 5, 10, 11, 12, 13, 14, 15, 16, 17, 18, 19, 20, 21, 47, 55, 69, 87] ?_ | skip)
              | refine awp_seq fun K hK => ?_
              | refine Awp.reg ?_
              | refine Awp.skip ?_
              | refine Awp.block ?_
              | refine Awp.scope ?_
              | refine aCt ?_
              | refine aCf ?_
              | (refine aCond ?_ ?_ <;> intro hsp)
              | (refine Awp.exit ?_; simp only [blockQ, thenQ, scopeQ, ↓reduceIte, Nat.reduceEqDiff])
              | (refine viaK ‹_› ?_; first | refine aKeep [0, 1, 2, 3, 4, 5, 10, 11, 12, 13, 14, 15, 16, 17, 18, 19, 20, 21, 47, 55, 69, 87] ?_ | skip)
              | simp only [thenQ_normal, blockQ_normal])); all_goals (clear XH; clear XG))
          all_goals (refine Awp.ret ?_; refine aRet ?_; (simp [-List.getD_eq_getElem?_getD, laxR, laxX, laxC, laxCs, rB, rN, rO, rBy, rSup, supP_len, rB2, rEn] <;> (intros; omega)))
      · have q1 : decide (readE l = 0) = false := decide_eq_false q0
        have q2 := ds00
        have hn : ¬ (readE l = 0 ∧ (readV l).w = s.w) := fun h => q0 h.1
        obtain ⟨p1, p2⟩ := hp_0 hs l8 ha w
        obtain ⟨f1, f2, f3, f5⟩ := ht_0 hs l8 ha w hn
        have xl := hx_len l8 ll hs a w
        have xu := hx_U hl (supL_U hs) s a hw
        rw [l8] at p1
        (have XH := (And.intro (And.intro (And.intro @eq_self.{1} (And.intro @eqs_sup @sup_eta)) (And.intro (And.intro @eqr_b2 @hb_self) (And.intro @i1 @l8))) (And.intro (And.intro (And.intro @ds00 @ds10) (And.intro @cs80 @cs81)) (And.intro (And.intro @cs10 @cs11) (And.intro @q1 @q2)))); have XG := (And.intro (And.intro (And.intro (And.intro @p1 @p2) (And.intro @f1 @f2)) (And.intro (And.intro @f3 @f5) (And.intro @sup_eta @eq_self.{1}))) (And.intro (And.intro (And.intro @decide_true @l8) (And.intro @cs80 @cs81)) (And.intro (And.intro @cs10 @cs11) (And.intro @hm_row (And.intro @q1 @q2))))); (repeat' (first
            | (refine aCall 9 ?_; apply aE2; exact k_law07_with s hs; refine aPost ?_)
            | (refine aCall 22 ?_; apply aE2; exact k_image_Put (hm s a w) 0 l (by omega) (by omega) (by omega); refine aPost ?_)
            | (refine aCallF 23 ?_; apply aE3; exact k_super_Read l hl (by omega); exact flatA; refine aPost ?_)
            | (refine aCall 10 ?_; apply aE2; exact k_twin_Read (hx l (supL s) s a w) xu (by omega); refine aPost ?_)
            | (refine aCall 12 ?_; apply aE2; exact k_twin_View (hx l (supL s) s a w) xu (by omega); refine aPost ?_)
            | (refine aCallF 13 ?_; apply aE3; exact k_ref02_Same _ _ (by first | omega | (simp; omega)) (by first | omega | (simp; omega)); exact flatA; refine aPost ?_)
            | (refine aCallF 14 ?_; apply aE3; exact k_alive7; exact flatA; refine aPost ?_)
            | refine aOp ?_
            | refine aOp2 ?_
            | refine aOff1 ?_
            | refine aOff2 ?_
            | (refine aSplit ?_ ?_ <;> intro hsp)
            | (refine RegA.done ‹_› ?_; first | refine aKeep [0, 1, 2, 3, 4, 5, 10, 11, 12, 13, 14, 15, 16, 17, 18, 19, 20, 21, 47, 55, 69, 87] ?_ | skip)
            | refine awp_seq fun K hK => ?_
            | refine Awp.reg ?_
            | refine Awp.skip ?_
            | refine Awp.block ?_
            | refine Awp.scope ?_
            | refine aCt ?_
            | refine aCf ?_
            | (refine aCond ?_ ?_ <;> intro hsp)
            | (refine Awp.exit ?_; simp only [blockQ, thenQ, scopeQ, ↓reduceIte, Nat.reduceEqDiff])
            | (refine viaK ‹_› ?_; first | refine aKeep [0, 1, 2, 3, 4, 5, 10, 11, 12, 13, 14, 15, 16, 17, 18, 19, 20, 21, 47, 55, 69, 87] ?_ | skip)
            | simp only [thenQ_normal, blockQ_normal])); all_goals (clear XH; clear XG))
        all_goals (refine Awp.ret ?_; refine aRet ?_; (simp [-List.getD_eq_getElem?_getD, laxR, laxX, laxC, laxCs, rB, rN, rO, rBy, rSup, supP_len, rB2, rEn] <;> (intros; omega)))

end
end Go.Proofs.Yteodihbpnpgccaa
