/-
  The contracts of the program's functions, data in, data out. Conditions: those in the statements.
-/
import Derived.Test.YteodihbpnpgccaaH3
import Derived.Test.YteodihbpnpgccaaH7
import Derived.Test.YteodihbpnpgccaaG3b
namespace Go.Proofs.Yteodihbpnpgccaa
set_option linter.all false
open Go Go.Proofs.Yteodihbpnpgccaa.Eng Go.RowKit
noncomputable section

theorem sz_of {s : Sup} (h : supOk s = true) : sz s.w = true := (supOk_iff.1 h).1
theorem with_row (s : Sup) : List.map (numD .u64) (supL s) ++ (List.map (numD .u64) (supL s) ++ List.replicate (s.w.toNat - 16) (numD .u64 0)) = List.map (numD .u64) (imgS s) := by
  rw [imgS_eq, List.map_append, List.map_append, List.map_replicate]
theorem hd88 : decide (((8 : Nat) : Int) = 8) = true := rfl
theorem hd00' : decide ((0 : Int) = 0) = true := rfl
namespace X23818aa
def XX := (And.intro (And.intro @tdiv8 (And.intro @tmod8 @toNatAddI)) (And.intro (And.intro @toNatSubI @takeAll) (And.intro @takeDropAll @getD_entC)))
def XN := @Nat.zero_add
def XR := (And.intro (And.intro @rBy.eq_1 @rSup.eq_1) (And.intro @supP_len (And.intro @rB2.eq_1 @rEn.eq_1)))
def XH := @Nat.zero_add
def XG := @Nat.zero_add
end X23818aa
set_option maxHeartbeats 4000000 in
set_option maxRecDepth 10000 in
open X23818aa in
theorem k_law07_with (s : Sup) (h : supOk s = true) : Con Try.prog 9 [supA s] [rO .u64 (imgS s), rB true] := by
  have hs := sz_of h
  have n1 := newL_yes hs
  have n2 := newE_yes hs
  have e1 := supW_yes h
  have e2 := supE_yes h
  have l1 := supL_len s
  have hw := sup_le h
  have hd : decide (((s.w.toNat : Nat) : Int) < 16) = false := decide_eq_false (by omega)
  refine con_of_awp hmix Try.func9 s9 rfl (by rw [n9]; simp) r9 n9 ?_
  simp only [Eng.start, startFr, inX, sN, vN, List.map_cons, List.map_nil, supA, supC, sEn, c9]
  (have XH := (And.intro (And.intro @hd88 @hd00') (And.intro @hd (And.intro @l1 @eq_self.{1}))); have XG := (And.intro (And.intro (And.intro (And.intro @List.take_succ_cons.{0} @List.take_zero.{0}) (And.intro @List.take_nil.{0} (And.intro @List.length_cons.{0} @List.length_nil.{0}))) (And.intro (And.intro @Nat.zero_add (And.intro @List.drop_succ_cons.{0} @List.drop_zero.{0})) (And.intro @List.drop_nil.{0} (And.intro @Nat.zero_mul @Nat.mul_one)))) (And.intro (And.intro (And.intro @List.nil_append.{0} (And.intro @List.cons_append.{0} @List.append_nil.{0})) (And.intro @n1 (And.intro @n2 @e1))) (And.intro (And.intro @e2 (And.intro @hd88 @hd00')) (And.intro @hd (And.intro @l1 @List.length_replicate.{0}))))); (repeat' (first
    | (refine aCall 27 ?_; apply aE2; exact k_image_New s.w; refine aPost ?_)
    | (refine aCall 28 ?_; apply aE2; exact k_super_Write s; refine aPost ?_)
    | refine aOp ?_
    | refine aOff1 ?_
    | refine aOff2 ?_
    | (refine aSplit ?_ ?_ <;> intro hsp)
    | (refine RegA.done ‹_› ?_; first | refine aKeep [0, 1, 2, 3, 4, 5, 6, 7, 34] ?_ | skip)
    | refine awp_seq fun K hK => ?_
    | refine Awp.reg ?_
    | refine aMop ?_
    | refine aMoff1 ?_
    | refine aMoff2 ?_
    | (refine aMsplit ?_ ?_ <;> intro hsp)
    | refine aMnil ?_
    | refine aDrawM 7 [[], [], [0, 1], [], [2, 3, 2], [], [5], [4, 6, 4], [7, 7, 0, 1, 2, 3, 4, 5, 6, 7], [8, 0, 1, 2, 3, 4, 5, 6, 7, 8]] [[], [], [0, 1], [], [2, 3, 0, 1], [], [5], [4, 6, 2, 3, 0, 1, 5], [7, 0, 1, 2, 3, 4, 5, 6], [8, 0, 1, 2, 3, 4, 5, 6, 7]] ?_
    | refine Awp.skip ?_
    | refine Awp.block ?_
    | refine Awp.scope ?_
    | refine aCt ?_
    | refine aCf ?_
    | (refine aCond ?_ ?_ <;> intro hsp)
    | (refine Awp.exit ?_; simp only [blockQ, thenQ, scopeQ, ↓reduceIte, Nat.reduceEqDiff])
    | (refine viaK ‹_› ?_; first | refine aKeep [0, 1, 2, 3, 4, 5, 6, 7, 34] ?_ | skip)
    | simp only [thenQ_normal, blockQ_normal])); all_goals (clear XH; clear XG))
  all_goals (refine Awp.ret ?_; refine aRetO ?_; apply aE2; (simp (disch := omega) only [outXs, outX, outC, outL, lk_nil, lk_cons, ↓reduceIte, Nat.reduceEqDiff, List.length_map, List.length_nil, List.length_replicate, List.length_cons, List.length_take, List.length_drop, List.length_append, List.length_set, ite_eq, Option.map_some, Bool.false_eq_true, l1]; rfl); (simp [-List.getD_eq_getElem?_getD, laxR, laxX, laxC, laxCs, rB, rN, rO, rBy, rSup, supP_len, rB2, rEn, with_row, List.append_assoc]))
theorem s7_ok : supOk ⟨256, 1⟩ = true := by unfold supOk sz; decide
@[irreducible] def al7 : List Int := (imgS ⟨256, 1⟩).set 2 0
theorem al7_row : ((imgS ⟨256, 1⟩).map (numD .u64)).set 2 [D.v (.int .u64 0)] = al7.map (numD .u64) := by unfold al7; rw [List.map_set]; rfl
theorem al7_eq : al7 = (supL ⟨256, 1⟩).set 2 0 ++ (supL ⟨256, 1⟩ ++ List.replicate 240 0) := by
  unfold al7
  rw [imgS_eq, List.set_append_left 2 _ (by rw [supL_len]; omega)]; rfl
theorem im7_len : (imgS ⟨256, 1⟩).length = 256 := by rw [imgS_len s7_ok]; rfl
theorem al7_len : al7.length = 256 := by unfold al7; rw [List.length_set, im7_len]
theorem al7_U : ∀ x ∈ al7, isU x := by
  unfold al7
  intro x hx
  rcases List.mem_or_eq_of_mem_set hx with h | h
  · exact imgS_U s7_ok x h
  · rw [h]; unfold isU; omega
theorem al7_tw : twE al7 = 0 ∧ twS al7 = ⟨256, 1⟩ ∧ twA al7 = false ∧ twB al7 = true ∧ twV al7 = imgS ⟨256, 1⟩ := by
  have h := tw_second (s := ⟨256, 1⟩) (l := (supL ⟨256, 1⟩).set 2 0) (r := List.replicate 240 0) s7_ok (by rw [List.length_set, supL_len]) (by rw [← al7_eq, al7_len]; rfl) (fun h1 => by
    have h2 := h1.2
    rw [readV_0 h1.1, supL_at] at h2
    exact absurd h2 (by decide))
  rw [← al7_eq] at h
  refine ⟨h.1, h.2.1, h.2.2.1, h.2.2.2.1, ?_⟩
  rw [h.2.2.2.2, imgS_eq]; rfl
@[irreducible] def qe7 : List Ent := [⟨2, 256⟩]
theorem qe7_row : [[D.v (.int .i64 2), D.v (.int .u64 256)]] = qe7.map entC := by unfold qe7; rfl
theorem qe7_len : qe7.length = 1 := by unfold qe7; rfl
theorem im7_2 : (imgS ⟨256, 1⟩).getD 2 0 = 256 := by rw [imgS_eq, supL_at]; rfl
theorem al7_H : twH al7 = qe7 := by
  have h := al7_tw
  have e1 : al7.getD 2 0 = 0 := by unfold al7; simp [List.getD, im7_len]
  rw [twH_0 h.1, h.2.2.2.2, heN_one (p := 2) (by rw [im7_2, e1]; decide) (fun i hi => by unfold al7; simp [List.getD, List.getElem?_set_ne (Ne.symm hi)]), al7_len, im7_2]
  unfold qe7; rfl
theorem k_with7 : Con Try.prog 9 [.agg [.v (.int .i64 256), .v (.int .i64 1)]] [rO .u64 (imgS ⟨256, 1⟩), rB true] := k_law07_with ⟨256, 1⟩ s7_ok
namespace X5b2437e
def XX := (And.intro (And.intro (And.intro @tdiv8 (And.intro @tmod8 @toNatAddI)) (And.intro (And.intro @toNatSubI @takeAll) (And.intro @takeDropAll @getD_entC))) (And.intro (And.intro @List.all_cons.{0} (And.intro @List.all_nil.{0} @List.getElem?_cons_zero.{0})) (And.intro (And.intro @List.getElem?_cons_succ.{0} @Bool.and_self) (And.intro @List.cons_append.{0} @Nat.mul_one))))
def XN := @Nat.zero_add
def XR := (And.intro (And.intro @rBy.eq_1 @rSup.eq_1) (And.intro @supP_len (And.intro @rB2.eq_1 @rEn.eq_1)))
def XH := @Nat.zero_add
def XG := @Nat.zero_add
end X5b2437e
set_option maxHeartbeats 4000000 in
set_option maxRecDepth 10000 in
open X5b2437e in
theorem k_law07_alive  : Con Try.prog 14 [] [rB true] := by
  obtain ⟨t1, t2, t3, t4, t5⟩ := al7_tw
  have t6 := al7_H
  have l1 := im7_len
  have l2 := al7_len
  have l3 := qe7_len
  have c1 : al7.length ≤ 1000000 := by omega
  refine con_of_awp hmix Try.func14 s14 rfl (by rw [n14]; simp) r14 n14 ?_
  simp only [Eng.start, startFr, inX, sN, vN, List.map_cons, List.map_nil, supA, supC, sEn, c14]
  (have XH := (And.intro (And.intro @eq_self.{1} (And.intro @eqs_sup @sup_eta)) (And.intro (And.intro @eqr_b2 @l1) (And.intro @l2 @l3))); have XG := (And.intro (And.intro (And.intro @al7_row @t1) (And.intro @t2 @t3)) (And.intro (And.intro @t4 @t6) (And.intro @qe7_row (And.intro @eq_self.{1} @sup_eta)))); (repeat' (first
    | (refine aCall 9 ?_; apply aE2; exact k_with7; refine aPost ?_)
    | (refine aCall 10 ?_; apply aE2; exact k_twin_Read al7 al7_U c1; refine aPost ?_)
    | (refine aCall 11 ?_; apply aE2; exact k_twin_Heal al7 al7_U c1; refine aPost ?_)
    | (refine aCallF 20 ?_; apply aE3; exact k_ref07_Same _ _ (by omega) (by omega); exact flatA; refine aPost ?_)
    | refine aOp ?_
    | refine aOp2 ?_
    | refine aOff1 ?_
    | refine aOff2 ?_
    | (refine aSplit ?_ ?_ <;> intro hsp)
    | (refine RegA.done ‹_› ?_; first | refine aKeep [0, 1, 2, 3, 4, 5, 6, 7, 8, 16] ?_ | skip)
    | refine awp_seq fun K hK => ?_
    | refine Awp.reg ?_
    | refine Awp.skip ?_
    | refine Awp.block ?_
    | refine Awp.scope ?_
    | refine aCt ?_
    | refine aCf ?_
    | (refine aCond ?_ ?_ <;> intro hsp)
    | (refine Awp.exit ?_; simp only [blockQ, thenQ, scopeQ, ↓reduceIte, Nat.reduceEqDiff])
    | (refine viaK ‹_› ?_; first | refine aKeep [0, 1, 2, 3, 4, 5, 6, 7, 8, 16] ?_ | skip)
    | simp only [thenQ_normal, blockQ_normal])); all_goals (clear XH; clear XG))
  all_goals (refine Awp.ret ?_; refine aRet ?_; (simp [-List.getD_eq_getElem?_getD, laxR, laxX, laxC, laxCs, rB, rN, rO, rBy, rSup, supP_len, rB2, rEn] <;> (intros; omega)))
theorem k_alive7 : Con Try.prog 14 [] [rB true] := k_law07_alive
end
end Go.Proofs.Yteodihbpnpgccaa
