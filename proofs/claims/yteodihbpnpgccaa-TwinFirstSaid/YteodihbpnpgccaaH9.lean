/-
  The contracts of the program's functions, data in, data out. Conditions: those in the statements.
-/
import Derived.Test.YteodihbpnpgccaaH5
namespace Go.Proofs.Yteodihbpnpgccaa
set_option linter.all false
open Go Go.Proofs.Yteodihbpnpgccaa.Eng Go.RowKit
noncomputable section

/-- Two superblocks in the copies. -/
@[irreducible] def tf (s t : Sup) : List Int := supL s ++ (supL t ++ List.replicate (s.w.toNat - 16) 0)
theorem tf_len {s : Sup} (t : Sup) (h : supOk s = true) : (tf s t).length = s.w.toNat := by
  have := sup_le h
  unfold tf
  simp only [List.length_append, supL_len, List.length_replicate]
  omega
theorem tf_U {s t : Sup} (h : supOk s = true) (h2 : supOk t = true) : ∀ x ∈ tf s t, isU x := by
  unfold tf
  intro x hx
  rcases List.mem_append.1 hx with h1 | h1
  · exact supL_U h x h1
  · rcases List.mem_append.1 h1 with h1 | h1
    · exact supL_U h2 x h1
    · rw [List.eq_of_mem_replicate h1]; unfold isU; omega
theorem tf_put {s t : Sup} (h : supOk s = true) (h2 : supOk t = true) (hw : s.w = t.w) : getE (imgS t).length 0 (supL s).length = 0 ∧ putL (imgS t) 0 (supL s) = tf s t := by
  have h3 := put_0 (a := supL t) (r := supL t ++ List.replicate (t.w.toNat - 16) 0) (l := supL s) (supL_len t) (supL_len s) (by rw [← imgS_eq]; exact imgS_chk h2)
  rw [← imgS_eq] at h3
  refine ⟨h3.1, ?_⟩
  rw [h3.2]
  unfold tf
  rw [hw]
theorem tf_tw {s t : Sup} (h : supOk s = true) (h2 : supOk t = true) (hw : s.w = t.w) : twE (tf s t) = 0 ∧ twS (tf s t) = s ∧ twA (tf s t) = true ∧ twB (tf s t) = true ∧ twV (tf s t) = imgS s ∧ cpOk (tf s t) 0 = true := by
  have h0 := sup_le h
  have hl := tf_len t h
  have e : tf s t = supL s ++ (supL t ++ List.replicate (s.w.toNat - 16) 0) := by unfold tf; rfl
  have h3 := tw_first (l := supL t) (r := List.replicate (s.w.toNat - 16) 0) h (supL_len t) (by rw [← e, hl]; omega)
  rw [← e] at h3
  have hc := cpL_two (r := List.replicate (s.w.toNat - 16) 0) (supL_len s) (supL_len t)
  rw [← e] at hc
  have h4 := cp_sup (m := tf s t) (k := 1) h2 (by rw [hl, ← hw]; omega) hc.2
  refine ⟨h3.1, h3.2.1, h3.2.2.1, ?_, ?_, ?_⟩
  · rw [h3.2.2.2.2, h4.1]
  · rw [h3.2.2.2.1, imgS_eq]
  · rw [← (tw_AB h3.1).1]; exact h3.2.2.1
theorem tf_nil {s t : Sup} (h : supOk s = true) (h2 : supOk t = true) (hw : s.w = t.w) : decide (((twH (tf s t)).length : Int) = 0) = decide (s = t) := by
  obtain ⟨h3, _, _, _, h4, _⟩ := tf_tw h h2 hw
  refine decide_eq_decide.2 ?_
  have h5 := twH_nil h3
  rw [h4] at h5
  have h6 : ((twH (tf s t)).length : Int) = 0 ↔ twH (tf s t) = [] := by
    rw [← List.length_eq_zero_iff]; omega
  rw [h6, h5]
  unfold tf
  rw [imgS_eq]
  refine ⟨fun h7 => ?_, fun h7 => by rw [h7]⟩
  have h8 := List.append_cancel_left h7
  have h9 := List.append_inj_left h8 (by rw [supL_len, supL_len])
  exact (supL_inj.1 h9).symm
theorem tf_tri {m : List Int} (h : twE m = 0) (h0 : cpOk m 0 = true) {k : Nat} (hk : k ≤ (twH m).length) :
    (k < (twH m).length ∧ decide ((k : Int) < ((twH m).length : Int)) = true ∧ decide (((twH m).getD k default).at_ < 8) = false ∧ decide (15 < ((twH m).getD k default).at_) = false) ∨ (k = (twH m).length ∧ decide ((k : Int) < ((twH m).length : Int)) = false ∧ True ∧ True) := by
  rcases Nat.lt_or_ge k (twH m).length with h1 | h1
  · have h2 := heal_at2 h h0 h1
    exact .inl ⟨h1, decide_eq_true (by omega), decide_eq_false (by omega), decide_eq_false (by omega)⟩
  · exact .inr ⟨by omega, decide_eq_false (by omega), trivial, trivial⟩
theorem hb_self (b : Bool) : (b == b) = true := by cases b <;> rfl
namespace X51855f8
def XX := (And.intro (And.intro (And.intro @tdiv8 (And.intro @tmod8 @toNatAddI)) (And.intro (And.intro @toNatSubI @takeAll) (And.intro @takeDropAll @getD_entC))) (And.intro (And.intro @List.all_cons.{0} (And.intro @List.all_nil.{0} @List.getElem?_cons_zero.{0})) (And.intro (And.intro @List.getElem?_cons_succ.{0} @Bool.and_self) (And.intro @List.cons_append.{0} @Nat.mul_one))))
def XN := @Nat.zero_add
def XR := (And.intro (And.intro @rBy.eq_1 @rSup.eq_1) (And.intro @supP_len (And.intro @rB2.eq_1 @rEn.eq_1)))
def XH := @Nat.zero_add
def XG := @Nat.zero_add
end X51855f8
set_option maxHeartbeats 4000000 in
set_option maxRecDepth 10000 in
open X51855f8 in
theorem k_law07_TwinFirst (s t : Sup) : Con Try.prog 8 [supA s, supA t] [rB true] := by
  refine con_of_awp hmix Try.func8 s8 rfl (by rw [n8]; simp) r8 n8 ?_
  simp only [Eng.start, startFr, inX, sN, vN, List.map_cons, List.map_nil, supA, supC, sEn, c8]
  (repeat' (first
    | (refine aCallF 21 ?_; apply aE3; exact k_ref06_Check _; exact flatA; refine aPost ?_)
    | (refine aCallF 14 ?_; apply aE3; exact k_alive7; exact flatA; refine aPost ?_)
    | refine aOp ?_
    | refine aOp2 ?_
    | refine aOff1 ?_
    | refine aOff2 ?_
    | (refine aSplit ?_ ?_ <;> intro hsp)
    | (refine RegA.done ‹_› ?_; first | refine aKeep [0, 1, 2, 3, 4, 5, 6, 7, 8, 9, 10, 11, 12, 13, 14, 15, 16, 17, 18, 19, 20, 35, 52, 69, 120, 124, 140] ?_ | skip)
    | refine awp_seq fun K hK => ?_
    | refine Awp.reg ?_
    | refine Awp.skip ?_
    | refine Awp.block ?_
    | refine Awp.scope ?_
    | refine aCt ?_
    | refine aCf ?_
    | (refine aCond ?_ ?_ <;> intro hsp)
    | (refine Awp.exit ?_; simp only [blockQ, thenQ, scopeQ, ↓reduceIte, Nat.reduceEqDiff])
    | (refine viaK ‹_› ?_; first | refine aKeep [0, 1, 2, 3, 4, 5, 6, 7, 8, 9, 10, 11, 12, 13, 14, 15, 16, 17, 18, 19, 20, 35, 52, 69, 120, 124, 140] ?_ | skip)
    | simp only [thenQ_normal, blockQ_normal]))
  · (refine Awp.ret ?_; refine aRet ?_; (simp [-List.getD_eq_getElem?_getD, laxR, laxX, laxC, laxCs, rB, rN, rO, rBy, rSup, supP_len, rB2, rEn] <;> (intros; omega)))
  · (refine Awp.ret ?_; refine aRet ?_; (simp [-List.getD_eq_getElem?_getD, laxR, laxX, laxC, laxCs, rB, rN, rO, rBy, rSup, supP_len, rB2, rEn] <;> (intros; omega)))
  · (refine Awp.ret ?_; refine aRet ?_; (simp [-List.getD_eq_getElem?_getD, laxR, laxX, laxC, laxCs, rB, rN, rO, rBy, rSup, supP_len, rB2, rEn] <;> (intros; omega)))
  · have hs := supE_iff.1 ‹supE s = 0›
    have ht := supE_iff.1 ‹supE t = 0›
    have hw := ‹s.w = t.w›
    have w1 := sup_le hs
    have i1 := imgS_len hs
    have i2 := imgS_len ht
    obtain ⟨g1, g2⟩ := get_first s hs
    obtain ⟨p1, p2⟩ := tf_put hs ht hw
    obtain ⟨f1, f2, f3, f4, f5, f6⟩ := tf_tw hs ht hw
    have f7 := tf_nil hs ht hw
    have fu := tf_U hs ht
    have fl := tf_len t hs
    have l1 := supL_len s
    have hh := twH_le (m := tf s t) (by omega)
    have iu := imgS_U ht
    rw [l1] at p1
    (have XH := (And.intro (And.intro (And.intro @eq_self.{1} @eqs_sup) (And.intro @sup_eta @eqr_b2)) (And.intro (And.intro @hb_self @i1) (And.intro @l1 @hd88))); have XG := (And.intro (And.intro (And.intro @g1 (And.intro @g2 @p1)) (And.intro (And.intro @p2 @f1) (And.intro @f2 @f3))) (And.intro (And.intro @f4 (And.intro @f5 @f7)) (And.intro (And.intro @sup_eta @eq_self.{1}) (And.intro @decide_true @l1)))); (repeat' (first
        | (refine aCall 9 ?_; apply aE2; exact k_law07_with s hs; refine aPost ?_)
        | (refine aCall 9 ?_; apply aE2; exact k_law07_with t ht; refine aPost ?_)
        | (refine aCall 26 ?_; apply aE2; exact k_image_Get (imgS s) 0 8 (by omega) (by omega); refine aPost ?_)
        | (refine aCall 22 ?_; apply aE2; exact k_image_Put (imgS t) 0 (supL s) (by omega) (by omega) (by omega); refine aPost ?_)
        | (refine aCall 10 ?_; apply aE2; exact k_twin_Read (tf s t) fu (by omega); refine aPost ?_)
        | (refine aCall 12 ?_; apply aE2; exact k_twin_View (tf s t) fu (by omega); refine aPost ?_)
        | (refine aCall 11 ?_; apply aE2; exact k_twin_Heal (tf s t) fu (by omega); refine aPost ?_)
        | (refine aCallF 13 ?_; apply aE3; exact k_ref02_Same _ _ (by first | omega | (simp; omega)) (by first | omega | (simp; omega)); exact flatA; refine aPost ?_)
        | (refine aCallF 14 ?_; apply aE3; exact k_alive7; exact flatA; refine aPost ?_)
        | refine aOp ?_
        | refine aOp2 ?_
        | refine aOff1 ?_
        | refine aOff2 ?_
        | (refine aSplit ?_ ?_ <;> intro hsp)
        | (refine RegA.done ‹_› ?_; first | refine aKeep [0, 1, 2, 3, 4, 5, 6, 7, 8, 9, 10, 11, 12, 13, 14, 15, 16, 17, 18, 19, 20, 35, 52, 69, 120, 124, 140] ?_ | skip)
        | refine awp_seq fun K hK => ?_
        | refine Awp.reg ?_
        | refine Awp.skip ?_
        | refine Awp.block ?_
        | refine Awp.scope ?_
        | refine aCt ?_
        | refine aCf ?_
        | (refine aCond ?_ ?_ <;> intro hsp)
        | (refine Awp.exit ?_; simp only [blockQ, thenQ, scopeQ, ↓reduceIte, Nat.reduceEqDiff])
        | (refine viaK ‹_› ?_; first | refine aKeep [0, 1, 2, 3, 4, 5, 6, 7, 8, 9, 10, 11, 12, 13, 14, 15, 16, 17, 18, 19, 20, 35, 52, 69, 120, 124, 140] ?_ | skip)
        | simp only [thenQ_normal, blockQ_normal])); all_goals (clear XH; clear XG))
    refine Awp.loopK (α := {k : Nat // k ≤ (twH (tf s t)).length}) (fun x => [(4, vv (.bool false)), (20, vv (.int .i64 (x.1 : Int)))]) (fun x => []) [18] [9] (fun x => (twH (tf s t)).length - x.1) ⟨0, by omega⟩ [] (by simp only [List.filterMap_cons, List.filterMap_nil, lk_nil, lk_cons, ↓reduceIte, Nat.reduceEqDiff, Option.map_some, Option.map_none]; rfl) (by simp only [List.filterMap_cons, List.filterMap_nil, lk_nil, lk_cons, ↓reduceIte, Nat.reduceEqDiff, Option.map_some, Option.map_none]; rfl) rfl rfl ?_ ?_
    · simp only [Wk, frIn, hpIn, lk_nil, lk_cons, renV, renX, renC, belV, belX, belC, belL, belB, List.cons_append, List.nil_append, ↓reduceIte, Nat.reduceEqDiff, and_self, and_true, true_and] <;> simp [-List.getD_eq_getElem?_getD, vv, one, renV, renX, renC, belV, belX, belC, belL, belB, rho, renO, belO, lk_nil, lk_cons]
    · rintro ⟨k, hk⟩
      simp only [vv, one, List.cons_append, List.nil_append]
      rcases tf_tri f1 f6 hk with ⟨hk1, e0, e1, e2⟩ | ⟨hk1, e0, e1, e2⟩ <;>
      (have XH := (And.intro (And.intro (And.intro @eq_self.{1} @eqs_sup) (And.intro @sup_eta (And.intro @eqr_b2 @hb_self))) (And.intro (And.intro @i1 (And.intro @l1 @hd88)) (And.intro @e0 (And.intro @e1 @e2)))); have XG := (And.intro (And.intro (And.intro @g1 (And.intro @g2 @p1)) (And.intro (And.intro @p2 @f1) (And.intro @f2 @f3))) (And.intro (And.intro @f4 (And.intro @f5 @f7)) (And.intro (And.intro @sup_eta @eq_self.{1}) (And.intro @decide_true @l1)))); (repeat' (first
        | (refine aCallF 14 ?_; apply aE3; exact k_alive7; exact flatA; refine aPost ?_)
        | refine aOp ?_
        | refine aOp2 ?_
        | refine aOff1 ?_
        | refine aOff2 ?_
        | (refine aSplit ?_ ?_ <;> intro hsp)
        | (refine RegA.done ‹_› ?_; first | refine aKeep [0, 1, 2, 3, 4, 5, 6, 7, 8, 9, 10, 11, 12, 13, 14, 15, 16, 17, 18, 19, 20, 35, 52, 69, 120, 124, 140] ?_ | skip)
        | refine awp_seq fun K hK => ?_
        | refine Awp.reg ?_
        | refine Awp.skip ?_
        | refine Awp.block ?_
        | refine Awp.scope ?_
        | refine aCt ?_
        | refine aCf ?_
        | (refine aCond ?_ ?_ <;> intro hsp)
        | (refine Awp.exit ?_; simp only [blockQ, thenQ, scopeQ, ↓reduceIte, Nat.reduceEqDiff])
        | (refine viaK ‹_› ?_; first | refine aKeep [0, 1, 2, 3, 4, 5, 6, 7, 8, 9, 10, 11, 12, 13, 14, 15, 16, 17, 18, 19, 20, 35, 52, 69, 120, 124, 140] ?_ | skip)
        | simp only [thenQ_normal, blockQ_normal])); all_goals (clear XH; clear XG))
      · refine RegA.nil ⟨⟨k + 1, by omega⟩, [], ?_, ?_⟩
        · simp only [Wk, frIn, hpIn, lk_nil, lk_cons, renV, renX, renC, belV, belX, belC, belL, belB, List.cons_append, List.nil_append, ↓reduceIte, Nat.reduceEqDiff, and_self, and_true, true_and] <;> simp [-List.getD_eq_getElem?_getD, vv, one, renV, renX, renC, belV, belX, belC, belL, belB, rho, renO, belO, lk_nil, lk_cons]
        · (simp only []; omega)
      · (refine Awp.ret ?_; refine aRet ?_; (simp [-List.getD_eq_getElem?_getD, laxR, laxX, laxC, laxCs, rB, rN, rO, rBy, rSup, supP_len, rB2, rEn] <;> (intros; omega)))
end
end Go.Proofs.Yteodihbpnpgccaa
