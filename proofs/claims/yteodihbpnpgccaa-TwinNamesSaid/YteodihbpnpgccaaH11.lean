/-
  The contracts of the program's functions, data in, data out. Conditions: those in the statements.
-/
import Derived.Test.YteodihbpnpgccaaH9
namespace Go.Proofs.Yteodihbpnpgccaa
set_option linter.all false
open Go Go.Proofs.Yteodihbpnpgccaa.Eng Go.RowKit
noncomputable section
theorem rep_len {α : Type} (n : Nat) (v : α) : (rep n v).length = n := by unfold rep; exact List.length_replicate
theorem mk256 (s : St) (seed : Nat) : effect Try.prog s seed (.makeSlice 22 (.const (.int .i64 256)) (.const (.int .i64 256))) = some ⟨some (one (.own seed 256)), [(seed, .row 1 ((rep 256 0).map (numD .u64)) false)], 1⟩ := by kernel_rfl
theorem aMk256 {W : Prop} {K : St → Prop} {dst : Option Nat} {g : Option (Nat × Bool)} {rest : List SO} {s s' : St} (h : RegA W Try.prog K rest s') (hg : gOk s g := by (first | exact trivial | rfl | exact congrArg some ‹_›)) (hd : dstOk s dst = true := by rfl)
    (hs : put1 s dst (some (one (.own s.nx 256))) [(s.nx, .row 1 ((rep 256 0).map (numD .u64)) false)] (s.nx + 1) = s' := by (simp (disch := omega) only [List.length_map, Nat.reduceBEq, Bool.not_false, Bool.not_true, ↓reduceIte, Bool.false_eq_true, BEq.rfl, put1, skip1, frOf, know, vv, one, del, decide_true, decide_false, List.filter_cons, List.filter_nil, List.nil_append, List.cons_append, Nat.reduceAdd, Nat.add_zero, XN, XG]; rfl)) : RegA W Try.prog K (⟨dst, .makeSlice 22 (.const (.int .i64 256)) (.const (.int .i64 256)), g⟩ :: rest) s := by
  subst hs
  exact .op hg hd (mk256 s s.nx) h

theorem sA_ok : supOk ⟨256, 1⟩ = true := s7_ok
theorem sB_ok : supOk ⟨256, 2⟩ = true := by unfold supOk sz; decide
theorem sC_ok : supOk ⟨264, 1⟩ = true := by unfold supOk sz; decide
theorem iA_len : (imgS ⟨256, 1⟩).length = 256 := by rw [imgS_len sA_ok]; rfl
theorem iB_len : (imgS ⟨256, 2⟩).length = 256 := by rw [imgS_len sB_ok]; rfl
theorem iC_len : (imgS ⟨264, 1⟩).length = 264 := by rw [imgS_len sC_ok]; rfl
theorem i_take8 (s : Sup) : (imgS s).take 8 = supL s := by
  rw [imgS_eq, List.take_append_of_le_length (by rw [supL_len]; omega), List.take_of_length_le (by rw [supL_len]; omega)]
theorem i_drop8 (s : Sup) : (imgS s).drop 8 = supL s ++ List.replicate (s.w.toNat - 16) 0 := by
  rw [imgS_eq, List.drop_left' (supL_len s)]
theorem i_take16 (s : Sup) : (imgS s).take 16 = supL s ++ supL s := by
  have h : (supL s ++ supL s).length = 16 := by rw [List.length_append, supL_len]
  rw [imgS_eq, ← List.append_assoc, List.take_append_of_le_length (by omega), List.take_of_length_le (by omega)]
/-- Two superblocks, for another number of words. -/
@[irreducible] def nf : List Int := supL ⟨264, 1⟩ ++ (supL ⟨256, 2⟩ ++ List.replicate 240 0)
@[irreducible] def nsh : List Int := supL ⟨264, 1⟩ ++ (supL ⟨264, 1⟩ ++ List.replicate 240 0)
@[irreducible] def nq : List Int := (imgS ⟨256, 1⟩).take 255
theorem nf_len : nf.length = 256 := by unfold nf; simp only [List.length_append, supL_len, List.length_replicate]
theorem nsh_len : nsh.length = 256 := by unfold nsh; simp only [List.length_append, supL_len, List.length_replicate]
theorem nq_len : nq.length = 255 := by unfold nq; rw [List.length_take, iA_len]; rfl
theorem zrep (n : Nat) : ∀ x ∈ List.replicate n (0 : Int), isU x := fun x hx => by rw [List.eq_of_mem_replicate hx]; unfold isU; omega
theorem app_U {a b : List Int} (ha : ∀ x ∈ a, isU x) (hb : ∀ x ∈ b, isU x) : ∀ x ∈ a ++ b, isU x := fun x hx => (List.mem_append.1 hx).elim (ha x) (hb x)
theorem nf_U : ∀ x ∈ nf, isU x := by unfold nf; exact app_U (supL_U sC_ok) (app_U (supL_U sB_ok) (zrep _))
theorem nsh_U : ∀ x ∈ nsh, isU x := by unfold nsh; exact app_U (supL_U sC_ok) (app_U (supL_U sC_ok) (zrep _))
theorem nq_U : ∀ x ∈ nq, isU x := by unfold nq; exact fun x hx => imgS_U sA_ok x (List.mem_of_mem_take hx)
theorem nz_len : (rep 256 (0 : Int)).length = 256 := rep_len _ _
theorem nz_U : ∀ x ∈ rep 256 (0 : Int), isU x := by unfold rep; exact zrep _
theorem ns_no {n : Int} (h : ¬ n = 264) : ¬ (readE (supL ⟨264, 1⟩) = 0 ∧ (readV (supL ⟨264, 1⟩)).w = n) := fun h1 => by
  have h2 := h1.2
  rw [(read_supL sC_ok).2] at h2
  exact h h2.symm
theorem nf_tw : twE nf = 0 ∧ twS nf = ⟨256, 2⟩ ∧ twA nf = false ∧ twB nf = true := by
  have h := tw_second (s := ⟨256, 2⟩) (l := supL ⟨264, 1⟩) (r := List.replicate 240 0) sB_ok (supL_len _) (by
    have := nf_len; unfold nf at this; rw [this]; rfl) (ns_no (by decide))
  have e : nf = supL ⟨264, 1⟩ ++ (supL ⟨256, 2⟩ ++ List.replicate 240 0) := by unfold nf; rfl
  rw [← e] at h
  exact ⟨h.1, h.2.1, h.2.2.1, h.2.2.2.1⟩
theorem nsh_tw : twE nsh = 50 := by
  have hl := nsh_len
  unfold nsh at hl ⊢
  refine tw_none (supL_len _) (supL_len _) ?_ ?_ ?_
  · rw [hl]; exact chk_of (by decide) (by decide) (by decide)
  · rw [hl]; exact ns_no (by decide)
  · rw [hl]; exact ns_no (by decide)
theorem nq_tw : twE nq = 8 := twE_8 (by rw [nq_len]; unfold chk sz; decide)
theorem nn_tw : twE [] = 8 := twE_8 (by unfold chk sz; decide)
theorem z8_no : ¬ (readE (List.replicate 8 0) = 0 ∧ (readV (List.replicate 8 0)).w = (256 : Nat)) := fun h => by
  have h2 := h.2
  rw [readV_0 h.1] at h2
  exact absurd h2 (by decide)
theorem nz_tw : twE (rep 256 0) = 50 := by
  have e : rep 256 (0 : Int) = List.replicate 8 0 ++ (List.replicate 8 0 ++ List.replicate 240 0) := by
    unfold rep
    rw [List.replicate_append_replicate, List.replicate_append_replicate]
  have hl := nz_len
  rw [e] at hl ⊢
  refine tw_none List.length_replicate List.length_replicate ?_ ?_ ?_
  · rw [hl]; exact chk_of (by decide) (by decide) (by decide)
  · rw [hl]; exact z8_no
  · rw [hl]; exact z8_no
theorem sH_ne : ¬ supH ⟨256, 1⟩ = supH ⟨256, 2⟩ := of_decide_eq_true (by kernel_rfl)
set_option maxRecDepth 20000 in
theorem nt_H : (twH (tf ⟨256, 1⟩ ⟨256, 2⟩)).length = 2 := by
  have h := tf_tw (s := ⟨256, 1⟩) (t := ⟨256, 2⟩) sA_ok sB_ok rfl
  rw [twH_0 h.1, h.2.2.2.2.1, tf_len _ sA_ok]
  have h16 := heN_16 h.1 ((⟨256, 1⟩ : Sup).w.toNat) (by decide)
  rw [h.2.2.2.2.1] at h16
  rw [h16]
  unfold heN difN tf
  rw [imgS_eq, supL_at, supL_at]
  simp [List.range, List.range.loop, List.filter_cons, sH_ne]
theorem nA_H : twH (imgS ⟨256, 1⟩) = [] := by
  have h := tf_tw (s := ⟨256, 1⟩) (t := ⟨256, 1⟩) sA_ok sA_ok rfl
  have e : tf ⟨256, 1⟩ ⟨256, 1⟩ = imgS ⟨256, 1⟩ := by unfold tf; rw [imgS_eq]
  rw [e] at h
  exact (twH_nil h.1).2 h.2.2.2.2.1.symm
theorem nA_tw : twE (imgS ⟨256, 1⟩) = 0 := by
  have h := tf_tw (s := ⟨256, 1⟩) (t := ⟨256, 1⟩) sA_ok sA_ok rfl
  have e : tf ⟨256, 1⟩ ⟨256, 1⟩ = imgS ⟨256, 1⟩ := by unfold tf; rw [imgS_eq]
  rw [e] at h
  exact h.1
theorem two_row : List.map (numD .u64) (List.take 8 (imgS ⟨256, 1⟩)) ++ List.map (numD .u64) (List.drop 8 (imgS ⟨256, 2⟩)) = List.map (numD .u64) (tf ⟨256, 1⟩ ⟨256, 2⟩) := by
  rw [i_take8, i_drop8, ← List.map_append]; unfold tf; rfl
theorem far_row : List.map (numD .u64) (List.take 8 (imgS ⟨264, 1⟩)) ++ List.map (numD .u64) (List.drop 8 (imgS ⟨256, 2⟩)) = List.map (numD .u64) nf := by
  rw [i_take8, i_drop8, ← List.map_append]; unfold nf; rfl
theorem sho_row : List.map (numD .u64) (List.take 16 (imgS ⟨264, 1⟩)) ++ List.map (numD .u64) (List.drop 16 (imgS ⟨256, 1⟩)) = List.map (numD .u64) nsh := by
  rw [i_take16, imgS_drop, ← List.map_append]
  unfold nsh
  rw [List.append_assoc]; rfl
theorem nq_row : List.take 255 (imgS ⟨256, 1⟩) = nq := by unfold nq; rfl
theorem mn8 : min 8 256 + (256 - 8) = 256 := rfl
theorem mn8c : min 8 264 + (256 - 8) = 256 := rfl
theorem ds22 : decide (((2 : Nat) : Int) = 2) = true := rfl
theorem ds0n : decide (((0 : Nat) : Int) = 0) = true := rfl
theorem mn16 : min 16 264 + (256 - 16) = 256 := rfl
theorem k_withB : Con Try.prog 9 [.agg [.v (.int .i64 256), .v (.int .i64 2)]] [rO .u64 (imgS ⟨256, 2⟩), rB true] := k_law07_with ⟨256, 2⟩ sB_ok
theorem k_withC : Con Try.prog 9 [.agg [.v (.int .i64 264), .v (.int .i64 1)]] [rO .u64 (imgS ⟨264, 1⟩), rB true] := k_law07_with ⟨264, 1⟩ sC_ok
namespace Xc1b9ab9
def XX := (And.intro (And.intro (And.intro @tdiv8 (And.intro @tmod8 @toNatAddI)) (And.intro (And.intro @toNatSubI @takeAll) (And.intro @takeDropAll @getD_entC))) (And.intro (And.intro @List.all_cons.{0} (And.intro @List.all_nil.{0} @List.getElem?_cons_zero.{0})) (And.intro (And.intro @List.getElem?_cons_succ.{0} @Bool.and_self) (And.intro @List.cons_append.{0} @Nat.mul_one))))
def XN := @Nat.zero_add
def XR := (And.intro (And.intro @rBy.eq_1 @rSup.eq_1) (And.intro @supP_len (And.intro @rB2.eq_1 @rEn.eq_1)))
def XH := @Nat.zero_add
def XG := @Nat.zero_add
end Xc1b9ab9
set_option maxHeartbeats 4000000 in
set_option maxRecDepth 10000 in
open Xc1b9ab9 in
theorem k_law07_TwinNames  : Con Try.prog 3 [] [rB true] := by
  obtain ⟨b1, b2, b3, b4, b5, b6⟩ := tf_tw (s := ⟨256, 1⟩) (t := ⟨256, 2⟩) sA_ok sB_ok rfl
  have bl : (tf ⟨256, 1⟩ ⟨256, 2⟩).length = 256 := tf_len _ sA_ok
  have bu := tf_U (s := ⟨256, 1⟩) (t := ⟨256, 2⟩) sA_ok sB_ok
  obtain ⟨f1, f2, f3, f4⟩ := nf_tw
  have l1 := iA_len
  have l2 := iB_len
  have l3 := iC_len
  have l4 := nf_len
  have l5 := nsh_len
  have l6 := nq_len
  have l7 := nz_len
  have hl2 := nt_H
  refine con_of_awp hmix Try.func3 s3 rfl (by rw [n3]; simp) r3 n3 ?_
  simp only [Eng.start, startFr, inX, sN, vN, List.map_cons, List.map_nil, supA, supC, sEn, c3]
  (have XH := (And.intro (And.intro (And.intro (And.intro @eq_self.{1} @eqs_sup) (And.intro @sup_eta @eqr_b2)) (And.intro (And.intro @l1 @l2) (And.intro @l3 (And.intro @l4 @l5)))) (And.intro (And.intro (And.intro @l6 @l7) (And.intro @bl @hl2)) (And.intro (And.intro @Nat.sub_zero @List.drop_zero.{0}) (And.intro @nq_row (And.intro @ds22 @ds0n))))); have XG := (And.intro (And.intro (And.intro (And.intro @ds22 (And.intro @ds0n @two_row)) (And.intro (And.intro @far_row @sho_row) (And.intro @mn8 @mn8c))) (And.intro (And.intro @mn16 (And.intro @b1 @b2)) (And.intro (And.intro @b3 @b4) (And.intro @b5 @f1)))) (And.intro (And.intro (And.intro @f2 (And.intro @f3 @f4)) (And.intro (And.intro @nsh_tw @nq_tw) (And.intro @nn_tw @nz_tw))) (And.intro (And.intro (And.intro @nA_tw @nA_H) (And.intro @hl2 @eq_self.{1})) (And.intro (And.intro @sup_eta @Nat.sub_zero) (And.intro @List.drop_zero.{0} @List.nil_append.{0}))))); (repeat' (first
    | (refine aCall 9 ?_; apply aE2; exact k_with7; refine aPost ?_)
    | (refine aCall 9 ?_; apply aE2; exact k_withB; refine aPost ?_)
    | (refine aCall 9 ?_; apply aE2; exact k_withC; refine aPost ?_)
    | (refine aCall 10 ?_; apply aE2; exact k_twin_Read (tf ⟨256, 1⟩ ⟨256, 2⟩) bu (by omega); refine aPost ?_)
    | (refine aCall 11 ?_; apply aE2; exact k_twin_Heal (tf ⟨256, 1⟩ ⟨256, 2⟩) bu (by omega); refine aPost ?_)
    | (refine aCall 12 ?_; apply aE2; exact k_twin_View (tf ⟨256, 1⟩ ⟨256, 2⟩) bu (by omega); refine aPost ?_)
    | (refine aCall 10 ?_; apply aE2; exact k_twin_Read nf nf_U (by omega); refine aPost ?_)
    | (refine aCall 10 ?_; apply aE2; exact k_twin_Read nsh nsh_U (by omega); refine aPost ?_)
    | (refine aCall 11 ?_; apply aE2; exact k_twin_Heal nsh nsh_U (by omega); refine aPost ?_)
    | (refine aCall 12 ?_; apply aE2; exact k_twin_View nsh nsh_U (by omega); refine aPost ?_)
    | (refine aCall 10 ?_; apply aE2; exact k_twin_Read nq nq_U (by omega); refine aPost ?_)
    | (refine aCall 11 ?_; apply aE2; exact k_twin_Heal nq nq_U (by omega); refine aPost ?_)
    | (refine aCallL 12 true ?_; apply aE4; exact k_twin_View [] (fun x h => by cases h) (by decide); (focus (first | exact laxAs_refl _ | (simp [laxAs, laxA, laxDs, laxD, emptyD, vN, sN, supA, supC, sEn]; done))); (exact .inl rfl); refine aPost ?_)
    | (refine aCall 10 ?_; apply aE2; exact k_twin_Read (rep 256 0) nz_U (by omega); refine aPost ?_)
    | (refine aCall 11 ?_; apply aE2; exact k_twin_Heal (imgS ⟨256, 1⟩) (imgS_U sA_ok) (by omega); refine aPost ?_)
    | (refine aCallF 14 ?_; apply aE3; exact k_alive7; exact flatA; refine aPost ?_)
    | (refine aCallF 13 ?_; apply aE3; exact k_ref02_Same _ _ (by first | omega | (simp; omega)) (by first | omega | (simp; omega)); exact flatA; refine aPost ?_)
    | refine aMk256 ?_
    | refine aOp ?_
    | refine aOp2 ?_
    | refine aOff1 ?_
    | refine aOff2 ?_
    | (refine aSplit ?_ ?_ <;> intro hsp)
    | (refine RegA.done ‹_› ?_; first | refine aKeep [0, 1, 2, 3, 4, 5, 6, 7, 8, 9, 10, 11, 12, 13, 14, 15, 16, 17, 18, 19, 22, 24, 26, 29, 31, 33, 36, 37, 38, 63] ?_ | skip)
    | refine awp_seq fun K hK => ?_
    | refine Awp.reg ?_
    | (refine aMcall (f := 14) ?_; apply aE6; exact k_alive7; (refine aMr (by simp only [unV', unX, unXs, unC, unL, rN, rB, List.append_nil, List.nil_append, rBy, rSup, supP_len, rB2, rEn]; rfl) rfl rfl rfl); (first | exact .inl rfl | exact .inr flatA); refine aMpost ?_)
    | (refine aMcall (f := 13) ?_; apply aE6; exact k_ref02_Same _ _ (by first | omega | (simp; omega)) (by first | omega | (simp; omega)); (refine aMr (by simp only [unV', unX, unXs, unC, unL, rN, rB, List.append_nil, List.nil_append, rBy, rSup, supP_len, rB2, rEn]; rfl) rfl rfl rfl); (first | exact .inl rfl | exact .inr flatA); refine aMpost ?_)
    | refine aMop ?_
    | refine aMoff1 ?_
    | refine aMoff2 ?_
    | (refine aMsplit ?_ ?_ <;> intro hsp)
    | refine aMnil ?_
    | refine aDrawM 6 [[], [], [1], [0, 2], [], [4], [3, 5, 3], [6, 6, 0, 1, 2, 3, 4, 5, 6]] [[], [], [1], [0, 2, 1], [], [4], [3, 5, 0, 2, 1, 4], [6, 0, 1, 2, 3, 4, 5]] ?_
    | refine aDrawM 6 [[], [], [1], [0, 2], [], [4], [3, 5, 3], [6, 6, 0, 1, 2, 3, 4, 5, 6]] [[], [], [1], [0, 2, 1], [], [4], [3, 5, 0, 2, 1, 4], [6, 0, 1, 2, 3, 4, 5]] ?_
    | refine aDrawM 6 [[], [], [1], [0, 2], [], [4], [3, 5, 3], [6, 6, 0, 1, 2, 3, 4, 5, 6]] [[], [], [1], [0, 2, 1], [], [4], [3, 5, 0, 2, 1, 4], [6, 0, 1, 2, 3, 4, 5]] ?_
    | refine Awp.skip ?_
    | refine Awp.block ?_
    | refine Awp.scope ?_
    | refine aCt ?_
    | refine aCf ?_
    | (refine aCond ?_ ?_ <;> intro hsp)
    | (refine Awp.exit ?_; simp only [blockQ, thenQ, scopeQ, ↓reduceIte, Nat.reduceEqDiff])
    | (refine viaK ‹_› ?_; first | refine aKeep [0, 1, 2, 3, 4, 5, 6, 7, 8, 9, 10, 11, 12, 13, 14, 15, 16, 17, 18, 19, 22, 24, 26, 29, 31, 33, 36, 37, 38, 63] ?_ | skip)
    | simp only [thenQ_normal, blockQ_normal])); all_goals (clear XH; clear XG))
  all_goals (refine Awp.ret ?_; refine aRet ?_; (simp [-List.getD_eq_getElem?_getD, laxR, laxX, laxC, laxCs, rB, rN, rO, rBy, rSup, supP_len, rB2, rEn] <;> (intros; omega)))
end
end Go.Proofs.Yteodihbpnpgccaa
