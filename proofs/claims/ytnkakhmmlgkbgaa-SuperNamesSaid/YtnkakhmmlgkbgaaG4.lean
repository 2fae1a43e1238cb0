/-
  The contracts of the program's functions, data in, data out. Conditions: those in the statements.
-/
import Derived.Test.YtnkakhmmlgkbgaaG3b
namespace Go.Proofs.Ytnkakhmmlgkbgaa
set_option linter.all false
open Go Go.Proofs.Ytnkakhmmlgkbgaa.Eng Go.RowKit
noncomputable section
theorem hd50 : decide ((50 : Int) = 0) = false := rfl
theorem hd5050 : decide ((50 : Int) = 50) = true := rfl
theorem sa_ok : supOk ⟨256, 2⟩ = true := by unfold supOk sz; decide
theorem sa_E : supE ⟨256, 2⟩ = 0 := supE_yes sa_ok
theorem sa_W : supW ⟨256, 2⟩ = supL ⟨256, 2⟩ := supW_yes sa_ok
theorem sa_ne : ¬ supH ⟨256, 3⟩ = supH ⟨256, 2⟩ := of_decide_eq_true (by kernel_rfl)
@[irreducible] def saL : List Int := (supL ⟨256, 2⟩).set 3 3
theorem saL_len : saL.length = 8 := by unfold saL; rw [List.length_set, supL_len]
theorem saL_U : ∀ x ∈ saL, isU x := by
  unfold saL
  intro x hx
  rcases List.mem_or_eq_of_mem_set hx with h | h
  · exact supL_U sa_ok x h
  · rw [h]; unfold isU; omega
theorem saL_row : ((supL ⟨256, 2⟩).map (numD .u64)).set 3 [D.v (.int .u64 3)] = saL.map (numD .u64) := by unfold saL; rw [supL_at]; rfl
theorem saL_E : readE saL = 50 := by
  refine readE_50 saL_len fun hh => sa_ne ?_
  have h1 := hh.2
  unfold saL at h1
  rw [supL_at ⟨256, 2⟩] at h1
  have h2 : supAt (List.set [32777959566500194, 1, (⟨256, 2⟩ : Sup).w, (⟨256, 2⟩ : Sup).t, 0, 0, 0, supH ⟨256, 2⟩] 3 3) = ⟨256, 3⟩ := rfl
  rw [h2, supL_at] at h1
  have h3 := congrArg (fun l => l.getD 7 0) h1
  exact h3
@[irreducible] def saQ : List Int := [32777959566500194, 1, 256, 2, 0, 0, 0]
theorem saQ_row : [[D.v (.int .u64 32777959566500194)], [D.v (.int .u64 1)], [D.v (.int .u64 256)], [D.v (.int .u64 2)], [D.v (.int .u64 0)], [D.v (.int .u64 0)], [D.v (.int .u64 0)]] = saQ.map (numD .u64) := by unfold saQ; rfl
theorem saQ_len : saQ.length = 7 := by unfold saQ; rfl
theorem hc8 : decide (((8 : Nat) : Int) = 8) = true := rfl
theorem saQ_eq : decide ((supL ⟨256, 2⟩).take 7 = saQ) = true := decide_eq_true (by unfold saQ; rw [supL_at]; rfl)
theorem k_W6 : Con Try.prog 9 [.agg [.v (.int .i64 256), .v (.int .i64 2)]] [rO .u64 (supL ⟨256, 2⟩), rN .i64 0] := by
  have h := k_super_Write ⟨256, 2⟩
  rw [sa_E, sa_W] at h
  exact h
namespace X3120f7a
def XX := (And.intro (And.intro (And.intro @tdiv8 (And.intro @tmod8 @toNatAddI)) (And.intro @toNatSubI (And.intro @takeAll @takeDropAll))) (And.intro (And.intro @List.all_cons.{0} (And.intro @List.all_nil.{0} @List.getElem?_cons_zero.{0})) (And.intro (And.intro @List.getElem?_cons_succ.{0} @Bool.and_self) (And.intro @List.cons_append.{0} @Nat.mul_one))))
def XN := @Nat.zero_add
def XR := (And.intro @rBy.eq_1 (And.intro @rSup.eq_1 @supP_len))
def XH := @Nat.zero_add
def XG := @Nat.zero_add
end X3120f7a
set_option maxHeartbeats 4000000 in
set_option maxRecDepth 10000 in
open X3120f7a in
theorem k_law06_alive  : Con Try.prog 13 [] [rB true] := by
  have l1 := supL_len ⟨256, 2⟩
  have l2 := saL_len
  have l3 := saQ_len
  refine con_of_awp hmix Try.func13 s13 rfl (by rw [n13]; simp) r13 n13 ?_
  simp only [Eng.start, startFr, inX, sN, vN, List.map_cons, List.map_nil, supA, supC, c13]
  (have XH := (And.intro (And.intro (And.intro @eq_self.{1} @hc8) (And.intro @l1 @l2)) (And.intro (And.intro @supL_len @saL_len) (And.intro @sub70 @List.drop_zero.{0}))); have XG := (And.intro (And.intro @hc8 (And.intro @saL_row @saL_E)) (And.intro @saQ_row (And.intro @saQ_eq @hd5050))); (repeat' (first
    | (refine aCall 9 ?_; apply aE2; exact k_W6; refine aPost ?_)
    | (refine aCall 14 ?_; apply aE2; exact k_ref02_Twin _ (by rw [supL_len]; omega); refine aPost ?_)
    | (refine aCallF 12 ?_; apply aE3; exact k_super_Read saL saL_U (by rw [saL_len]; omega); exact flatA; refine aPost ?_)
    | (refine aCallF 18 ?_; apply aE3; exact k_ref02_Same _ _ (by rw [List.length_take]; omega) (by rw [saQ_len]; omega); exact flatA; refine aPost ?_)
    | refine aOp ?_
    | refine aOff1 ?_
    | refine aOff2 ?_
    | (refine aSplit ?_ ?_ <;> intro hsp)
    | (refine RegA.done ‹_› ?_; first | refine aKeep [0, 1, 2, 3, 5, 17] ?_ | skip)
    | refine awp_seq fun K hK => ?_
    | refine Awp.reg ?_
    | refine Awp.skip ?_
    | refine Awp.block ?_
    | refine Awp.scope ?_
    | refine aCt ?_
    | refine aCf ?_
    | (refine aCond ?_ ?_ <;> intro hsp)
    | (refine Awp.exit ?_; simp only [blockQ, thenQ, scopeQ, ↓reduceIte, Nat.reduceEqDiff])
    | (refine viaK ‹_› ?_; first | refine aKeep [0, 1, 2, 3, 5, 17] ?_ | skip)
    | simp only [thenQ_normal, blockQ_normal])); all_goals (clear XH; clear XG))
  all_goals (refine Awp.ret ?_; refine aRet ?_; (simp [-List.getD_eq_getElem?_getD, laxR, laxX, laxC, laxCs, rB, rN, rO, rBy, rSup, supP_len] <;> (intros; omega)))
theorem k_alive6 : Con Try.prog 13 [] [rB true] := k_law06_alive
theorem supW_le (s : Sup) : (supW s).length ≤ 8 := by
  unfold supW
  split
  · rw [supL_len]; omega
  · simp
namespace X2c879c6
def XX := (And.intro (And.intro @tdiv8 (And.intro @tmod8 @toNatAddI)) (And.intro @toNatSubI (And.intro @takeAll @takeDropAll)))
def XN := @Nat.zero_add
def XR := (And.intro @rBy.eq_1 (And.intro @rSup.eq_1 @supP_len))
def XH := @Nat.zero_add
def XG := @Nat.zero_add
end X2c879c6
set_option maxHeartbeats 4000000 in
set_option maxRecDepth 10000 in
open X2c879c6 in
theorem k_law06_SuperTells (s : Sup) (l : List Int) (hl : ∀ x ∈ l, isU x) : Con Try.prog 4 [supA s, sN .u64 l] [rB true] := by
  have hw := supW_le s
  refine con_of_awp hmix Try.func4 s4 rfl (by rw [n4]; simp) r4 n4 ?_
  simp only [Eng.start, startFr, inX, sN, vN, List.map_cons, List.map_nil, supA, supC, c4]
  (have XH := (And.intro @eq_self.{1} (And.intro @eqs_sup @sup_eta)); (repeat' (first
    | (refine aCallF 13 ?_; apply aE3; exact k_alive6; exact flatA; refine aPost ?_)
    | (refine aCall 14 ?_; apply aE2; exact k_ref02_Twin _ (by omega); refine aPost ?_)
    | (refine aCallF 10 ?_; apply aE3; exact k_super_Check _; exact flatA; refine aPost ?_)
    | (refine aCall 9 ?_; apply aE2; exact k_super_Write _; refine aPost ?_)
    | (refine aCallF 12 ?_; apply aE3; exact k_super_Read _ hl (by omega); exact flatA; refine aPost ?_)
    | (refine aCallF 17 ?_; apply aE3; exact k_ref06_Check _; exact flatA; refine aPost ?_)
    | (refine aCall 15 ?_; apply aE2; exact k_ref06_Write _; refine aPost ?_)
    | (refine aCallF 16 ?_; apply aE3; exact k_ref06_Read _ hl (by omega); exact flatA; refine aPost ?_)
    | (refine aCallF 18 ?_; apply aE3; exact k_ref02_Same _ _ (by omega) (by omega); exact flatA; refine aPost ?_)
    | refine aOp ?_
    | refine aOff1 ?_
    | refine aOff2 ?_
    | (refine aSplit ?_ ?_ <;> intro hsp)
    | (refine RegA.done ‹_› ?_; first | refine aKeep [0, 1, 2, 4, 5, 6, 7, 8, 9, 10, 11, 12, 13, 16] ?_ | skip)
    | refine awp_seq fun K hK => ?_
    | refine Awp.reg ?_
    | (refine aNcall (f := 13) ?_; apply aE6; exact k_alive6; (refine aNr (by simp only [unV', unX, unXs, unC, unL, rN, rB, List.append_nil, List.nil_append, rBy, rSup, supP_len]; rfl) rfl rfl); (first | exact .inl rfl | exact .inr flatA); refine aNpost ?_)
    | (refine aNcall (f := 10) ?_; apply aE6; exact k_super_Check _; (refine aNr (by simp only [unV', unX, unXs, unC, unL, rN, rB, List.append_nil, List.nil_append, rBy, rSup, supP_len]; rfl) rfl rfl); (first | exact .inl rfl | exact .inr flatA); refine aNpost ?_)
    | (refine aNcall (f := 12) ?_; apply aE6; exact k_super_Read _ hl (by omega); (refine aNr (by simp only [unV', unX, unXs, unC, unL, rN, rB, List.append_nil, List.nil_append, rBy, rSup, supP_len]; rfl) rfl rfl); (first | exact .inl rfl | exact .inr flatA); refine aNpost ?_)
    | (refine aNcall (f := 17) ?_; apply aE6; exact k_ref06_Check _; (refine aNr (by simp only [unV', unX, unXs, unC, unL, rN, rB, List.append_nil, List.nil_append, rBy, rSup, supP_len]; rfl) rfl rfl); (first | exact .inl rfl | exact .inr flatA); refine aNpost ?_)
    | (refine aNcall (f := 16) ?_; apply aE6; exact k_ref06_Read _ hl (by omega); (refine aNr (by simp only [unV', unX, unXs, unC, unL, rN, rB, List.append_nil, List.nil_append, rBy, rSup, supP_len]; rfl) rfl rfl); (first | exact .inl rfl | exact .inr flatA); refine aNpost ?_)
    | (refine aNcall (f := 18) ?_; apply aE6; exact k_ref02_Same _ _ (by omega) (by omega); (refine aNr (by simp only [unV', unX, unXs, unC, unL, rN, rB, List.append_nil, List.nil_append, rBy, rSup, supP_len]; rfl) rfl rfl); (first | exact .inl rfl | exact .inr flatA); refine aNpost ?_)
    | refine aNop ?_
    | refine aNoff1 ?_
    | refine aNoff2 ?_
    | (refine aNsplit ?_ ?_ <;> intro hsp)
    | refine aNnil ?_
    | refine aDrawN 28 [[], [0], [], [2, 1], [1, 3], [4, 3], [5], [5], [6, 7, 5, 5], [5, 8], [9, 8], [10], [10], [11, 12, 10], [10, 13], [14, 10], [15], [15], [16, 17, 15], [15, 18], [19, 15], [20], [20], [21, 22, 20], [20, 23], [24, 20], [25], [25], [26, 27, 25, 25], [25, 28], [29, 28, 0, 1, 2, 3, 4, 5, 6, 7, 8, 9, 10, 11, 12, 13, 14, 15, 16, 17, 18, 19, 20, 21, 22, 23, 24, 25, 26, 27, 28, 29]] [[], [0], [], [2, 1, 0], [1, 3, 0, 2], [4, 3, 1, 0, 2], [5, 4, 3, 1, 0, 2], [5, 4, 3, 1, 0, 2], [6, 7, 5, 4, 3, 1, 0, 2], [5, 8, 4, 3, 1, 0, 2, 6, 7], [9, 8, 5, 4, 3, 1, 0, 2, 6, 7], [10, 9, 8, 5, 4, 3, 1, 0, 2, 6, 7], [10, 9, 8, 5, 4, 3, 1, 0, 2, 6, 7], [11, 12, 10, 9, 8, 5, 4, 3, 1, 0, 2, 6, 7], [10, 13, 9, 8, 5, 4, 3, 1, 0, 2, 6, 7, 11, 12], [14, 10, 13, 9, 8, 5, 4, 3, 1, 0, 2, 6, 7, 11, 12], [15, 14, 10, 13, 9, 8, 5, 4, 3, 1, 0, 2, 6, 7, 11, 12], [15, 14, 10, 13, 9, 8, 5, 4, 3, 1, 0, 2, 6, 7, 11, 12], [16, 17, 15, 14, 10, 13, 9, 8, 5, 4, 3, 1, 0, 2, 6, 7, 11, 12], [15, 18, 14, 10, 13, 9, 8, 5, 4, 3, 1, 0, 2, 6, 7, 11, 12, 16, 17], [19, 15, 18, 14, 10, 13, 9, 8, 5, 4, 3, 1, 0, 2, 6, 7, 11, 12, 16, 17], [20, 19, 15, 18, 14, 10, 13, 9, 8, 5, 4, 3, 1, 0, 2, 6, 7, 11, 12, 16, 17], [20, 19, 15, 18, 14, 10, 13, 9, 8, 5, 4, 3, 1, 0, 2, 6, 7, 11, 12, 16, 17], [21, 22, 20, 19, 15, 18, 14, 10, 13, 9, 8, 5, 4, 3, 1, 0, 2, 6, 7, 11, 12, 16, 17], [20, 23, 19, 15, 18, 14, 10, 13, 9, 8, 5, 4, 3, 1, 0, 2, 6, 7, 11, 12, 16, 17, 21, 22], [24, 20, 23, 19, 15, 18, 14, 10, 13, 9, 8, 5, 4, 3, 1, 0, 2, 6, 7, 11, 12, 16, 17, 21, 22], [25, 24, 20, 23, 19, 15, 18, 14, 10, 13, 9, 8, 5, 4, 3, 1, 0, 2, 6, 7, 11, 12, 16, 17, 21, 22], [25, 24, 20, 23, 19, 15, 18, 14, 10, 13, 9, 8, 5, 4, 3, 1, 0, 2, 6, 7, 11, 12, 16, 17, 21, 22], [26, 27, 25, 24, 20, 23, 19, 15, 18, 14, 10, 13, 9, 8, 5, 4, 3, 1, 0, 2, 6, 7, 11, 12, 16, 17, 21, 22], [25, 28, 24, 20, 23, 19, 15, 18, 14, 10, 13, 9, 8, 5, 4, 3, 1, 0, 2, 6, 7, 11, 12, 16, 17, 21, 22, 26, 27], [29, 28, 0, 1, 2, 3, 4, 5, 6, 7, 8, 9, 10, 11, 12, 13, 14, 15, 16, 17, 18, 19, 20, 21, 22, 23, 24, 25, 26, 27]] ?_
    | refine Awp.skip ?_
    | refine Awp.block ?_
    | refine Awp.scope ?_
    | refine aCt ?_
    | refine aCf ?_
    | (refine aCond ?_ ?_ <;> intro hsp)
    | (refine Awp.exit ?_; simp only [blockQ, thenQ, scopeQ, ↓reduceIte, Nat.reduceEqDiff])
    | (refine viaK ‹_› ?_; first | refine aKeep [0, 1, 2, 4, 5, 6, 7, 8, 9, 10, 11, 12, 13, 16] ?_ | skip)
    | simp only [thenQ_normal, blockQ_normal])); all_goals (clear XH))
  all_goals (refine Awp.ret ?_; refine aRet ?_; (simp [-List.getD_eq_getElem?_getD, laxR, laxX, laxC, laxCs, rB, rN, rO, rBy, rSup, supP_len] <;> (intros; omega)))
theorem sub20 : 2 - 0 = 2 := rfl
theorem supP_at (s : Sup) : supP s = [32777959566500194, 1, s.w, s.t, 0, 0, 0] := by unfold supP; rfl
theorem supL_take2 (s : Sup) : (supL s).take 2 = [32777959566500194, 1] := by unfold supL supP; rfl
theorem supL_take7 (s : Sup) : (supL s).take 7 = supP s := by unfold supL; rw [List.take_append_of_le_length (by rw [supP_len]; omega), List.take_of_length_le (by rw [supP_len]; omega)]
theorem supL_get7 (s : Sup) : (supL s).getD 7 0 = beh 14695981039346656037 (supP s) := by unfold supL supP; rfl
theorem supL_get4 (s : Sup) : (supL s).getD 4 0 = 0 ∧ (supL s).getD 5 0 = 0 ∧ (supL s).getD 6 0 = 0 := by unfold supL supP; exact ⟨rfl, rfl, rfl⟩
theorem supL_dec (s t : Sup) : decide (supL s = supL t) = decide (s = t) := decide_eq_decide.2 supL_inj
set_option maxHeartbeats 4000000 in
set_option maxRecDepth 10000 in
open X2c879c6 in
theorem k_law06_SuperBack (s t : Sup) : Con Try.prog 5 [supA s, supA t] [rB true] := by
  refine con_of_awp hmix Try.func5 s5 rfl (by rw [n5]; simp) r5 n5 ?_
  simp only [Eng.start, startFr, inX, sN, vN, List.map_cons, List.map_nil, supA, supC, c5]
  (repeat' (first
    | (refine aCallF 13 ?_; apply aE3; exact k_alive6; exact flatA; refine aPost ?_)
    | (refine aCallF 17 ?_; apply aE3; exact k_ref06_Check _; exact flatA; refine aPost ?_)
    | refine aOp ?_
    | refine aOff1 ?_
    | refine aOff2 ?_
    | (refine aSplit ?_ ?_ <;> intro hsp)
    | (refine RegA.done ‹_› ?_; first | refine aKeep [0, 1, 2, 3, 4, 5, 6, 7, 8, 9, 10, 18, 59] ?_ | skip)
    | refine awp_seq fun K hK => ?_
    | refine Awp.reg ?_
    | (refine aNcall (f := 13) ?_; apply aE6; exact k_alive6; (refine aNr (by simp only [unV', unX, unXs, unC, unL, rN, rB, List.append_nil, List.nil_append, rBy, rSup, supP_len]; rfl) rfl rfl); (first | exact .inl rfl | exact .inr flatA); refine aNpost ?_)
    | (refine aNcall (f := 17) ?_; apply aE6; exact k_ref06_Check _; (refine aNr (by simp only [unV', unX, unXs, unC, unL, rN, rB, List.append_nil, List.nil_append, rBy, rSup, supP_len]; rfl) rfl rfl); (first | exact .inl rfl | exact .inr flatA); refine aNpost ?_)
    | refine aNop ?_
    | refine aNoff1 ?_
    | refine aNoff2 ?_
    | (refine aNsplit ?_ ?_ <;> intro hsp)
    | refine aNnil ?_
    | refine aDrawN 12 [[], [0], [], [2], [1, 3], [4, 4], [5], [5], [6, 7, 5, 5], [5], [5], [9, 10, 5], [8, 11, 5], [5, 12], [13, 8], [14, 14], [14, 15], [16, 15, 0, 1, 2, 3, 4, 5, 6, 7, 8, 9, 10, 11, 12, 13, 14, 15, 16]] [[], [0], [], [2], [1, 3, 0, 2], [4, 1, 3, 0, 2], [5, 4, 1, 3, 0, 2], [5, 4, 1, 3, 0, 2], [6, 7, 5, 4, 1, 3, 0, 2], [5, 4, 1, 3, 0, 2], [5, 4, 1, 3, 0, 2], [9, 10, 5, 4, 1, 3, 0, 2], [8, 11, 5, 6, 7, 4, 1, 3, 0, 2, 9, 10], [5, 12, 4, 1, 3, 0, 2, 8, 11, 6, 7, 9, 10], [13, 8, 5, 12, 4, 1, 3, 0, 2, 11, 6, 7, 9, 10], [14, 13, 8, 5, 12, 4, 1, 3, 0, 2, 11, 6, 7, 9, 10], [14, 15, 13, 8, 5, 12, 4, 1, 3, 0, 2, 11, 6, 7, 9, 10], [16, 15, 0, 1, 2, 3, 4, 5, 6, 7, 8, 9, 10, 11, 12, 13, 14]] ?_
    | refine Awp.skip ?_
    | refine Awp.block ?_
    | refine Awp.scope ?_
    | refine aCt ?_
    | refine aCf ?_
    | (refine aCond ?_ ?_ <;> intro hsp)
    | (refine Awp.exit ?_; simp only [blockQ, thenQ, scopeQ, ↓reduceIte, Nat.reduceEqDiff])
    | (refine viaK ‹_› ?_; first | refine aKeep [0, 1, 2, 3, 4, 5, 6, 7, 8, 9, 10, 18, 59] ?_ | skip)
    | simp only [thenQ_normal, blockQ_normal]))
  · (refine Awp.ret ?_; refine aRet ?_; (simp [-List.getD_eq_getElem?_getD, laxR, laxX, laxC, laxCs, rB, rN, rO, rBy, rSup, supP_len] <;> (intros; omega)))
  · (refine Awp.ret ?_; refine aRet ?_; (simp [-List.getD_eq_getElem?_getD, laxR, laxX, laxC, laxCs, rB, rN, rO, rBy, rSup, supP_len] <;> (intros; omega)))
  · have hs := supE_iff.1 ‹supE s = 0›
    have ht := supE_iff.1 ‹supE t = 0›
    have e1 := supW_yes hs
    have e2 := supW_yes ht
    have e3 := ‹supE s = 0›
    have e4 := ‹supE t = 0›
    have e5 := (read_supL hs).1
    have e6 := (read_supL hs).2
    have l1 := supL_len s
    have l2 := supL_len t
    (have XH := (And.intro (And.intro @eq_self.{1} (And.intro @eqs_sup @sup_eta)) (And.intro @hc8 (And.intro @l1 @l2))); have XG := (And.intro (And.intro (And.intro @hc8 @e1) (And.intro @e2 (And.intro @e3 @e4))) (And.intro (And.intro @e5 (And.intro @e6 @l1)) (And.intro @l2 (And.intro @supL_take2 @supL_dec)))); (repeat' (first
        | (refine aCall 9 ?_; apply aE2; exact k_super_Write _; refine aPost ?_)
        | (refine aCallF 12 ?_; apply aE3; exact k_super_Read (supL s) (supL_U hs) (by rw [supL_len]; omega); exact flatA; refine aPost ?_)
        | (refine aCallF 18 ?_; apply aE3; exact k_ref02_Same _ _ (by first | omega | (simp; omega)) (by first | omega | (simp; omega)); exact flatA; refine aPost ?_)
        | (refine aCallF 13 ?_; apply aE3; exact k_alive6; exact flatA; refine aPost ?_)
        | refine aOp ?_
        | refine aOff1 ?_
        | refine aOff2 ?_
        | (refine aSplit ?_ ?_ <;> intro hsp)
        | (refine RegA.done ‹_› ?_; first | refine aKeep [0, 1, 2, 3, 4, 5, 6, 7, 8, 9, 10, 18, 59] ?_ | skip)
        | refine awp_seq fun K hK => ?_
        | refine Awp.reg ?_
        | (refine aNcall (f := 12) ?_; apply aE6; exact k_super_Read (supL s) (supL_U hs) (by rw [supL_len]; omega); (refine aNr (by simp only [unV', unX, unXs, unC, unL, rN, rB, List.append_nil, List.nil_append, rBy, rSup, supP_len]; rfl) rfl rfl); (first | exact .inl rfl | exact .inr flatA); refine aNpost ?_)
        | (refine aNcall (f := 18) ?_; apply aE6; exact k_ref02_Same _ _ (by first | omega | (simp; omega)) (by first | omega | (simp; omega)); (refine aNr (by simp only [unV', unX, unXs, unC, unL, rN, rB, List.append_nil, List.nil_append, rBy, rSup, supP_len]; rfl) rfl rfl); (first | exact .inl rfl | exact .inr flatA); refine aNpost ?_)
        | (refine aNcall (f := 13) ?_; apply aE6; exact k_alive6; (refine aNr (by simp only [unV', unX, unXs, unC, unL, rN, rB, List.append_nil, List.nil_append, rBy, rSup, supP_len]; rfl) rfl rfl); (first | exact .inl rfl | exact .inr flatA); refine aNpost ?_)
        | refine aNop ?_
        | refine aNoff1 ?_
        | refine aNoff2 ?_
        | (refine aNsplit ?_ ?_ <;> intro hsp)
        | refine aNnil ?_
        | refine aDrawN 12 [[], [0], [], [2], [1, 3], [4, 4], [5], [5], [6, 7, 5, 5], [5], [5], [9, 10, 5], [8, 11, 5], [5, 12], [13, 8], [14, 14], [14, 15], [16, 15, 0, 1, 2, 3, 4, 5, 6, 7, 8, 9, 10, 11, 12, 13, 14, 15, 16]] [[], [0], [], [2], [1, 3, 0, 2], [4, 1, 3, 0, 2], [5, 4, 1, 3, 0, 2], [5, 4, 1, 3, 0, 2], [6, 7, 5, 4, 1, 3, 0, 2], [5, 4, 1, 3, 0, 2], [5, 4, 1, 3, 0, 2], [9, 10, 5, 4, 1, 3, 0, 2], [8, 11, 5, 6, 7, 4, 1, 3, 0, 2, 9, 10], [5, 12, 4, 1, 3, 0, 2, 8, 11, 6, 7, 9, 10], [13, 8, 5, 12, 4, 1, 3, 0, 2, 11, 6, 7, 9, 10], [14, 13, 8, 5, 12, 4, 1, 3, 0, 2, 11, 6, 7, 9, 10], [14, 15, 13, 8, 5, 12, 4, 1, 3, 0, 2, 11, 6, 7, 9, 10], [16, 15, 0, 1, 2, 3, 4, 5, 6, 7, 8, 9, 10, 11, 12, 13, 14]] ?_
        | refine Awp.skip ?_
        | refine Awp.block ?_
        | refine Awp.scope ?_
        | refine aCt ?_
        | refine aCf ?_
        | (refine aCond ?_ ?_ <;> intro hsp)
        | (refine Awp.exit ?_; simp only [blockQ, thenQ, scopeQ, ↓reduceIte, Nat.reduceEqDiff])
        | (refine viaK ‹_› ?_; first | refine aKeep [0, 1, 2, 3, 4, 5, 6, 7, 8, 9, 10, 18, 59] ?_ | skip)
        | simp only [thenQ_normal, blockQ_normal])); all_goals (clear XH; clear XG))
    (refine Awp.ret ?_; refine aRet ?_; (simp [-List.getD_eq_getElem?_getD, laxR, laxX, laxC, laxCs, rB, rN, rO, rBy, rSup, supP_len] <;> (intros; omega)))
end
end Go.Proofs.Ytnkakhmmlgkbgaa
