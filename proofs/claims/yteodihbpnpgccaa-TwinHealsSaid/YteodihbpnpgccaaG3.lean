/-
  The contracts of the program's functions, data in, data out. Conditions: those in the statements.
-/
import Derived.Test.YteodihbpnpgccaaG2
namespace Go.Proofs.Yteodihbpnpgccaa
set_option linter.all false
open Go Go.Proofs.Yteodihbpnpgccaa.Eng Go.RowKit
noncomputable section

theorem sub70 : 7 - 0 = 7 := rfl
theorem sub70m (k : Nat) : k - 0 = k := rfl
theorem hd80 : decide ((8 : Int) = 0) = false := rfl
theorem hd00 : decide ((0 : Int) = 0) = true := rfl
def wd8 (l : List Int) : Nat → Int := fun k => l.getD k 0
@[irreducible] def supH (s : Sup) : Int := beh 14695981039346656037 (supP s)
theorem supH_eq (s : Sup) : beh 14695981039346656037 (supP s) = supH s := by unfold supH; rfl
theorem supL_at (s : Sup) : supL s = [32777959566500194, 1, s.w, s.t, 0, 0, 0, supH s] := by unfold supL supH supP; rfl
/-- The words of a valid superblock, one by one; 0 if it is not valid. -/
@[irreducible] def sw (s : Sup) (k : Nat) : Int := if supOk s = true then (supL s).getD k 0 else 0
def rWs (s : Sup) : RX := .agg [.c (.v (.int .u64 (sw s 0))), .c (.v (.int .u64 (sw s 1))), .c (.v (.int .u64 (sw s 2))), .c (.v (.int .u64 (sw s 3))), .c (.v (.int .u64 (sw s 4))), .c (.v (.int .u64 (sw s 5))), .c (.v (.int .u64 (sw s 6))), .c (.v (.int .u64 (sw s 7)))]
def rWd (s : Sup) : RX := .agg [.c (.v (.int .u64 (32777959566500194))), .c (.v (.int .u64 (1))), .c (.v (.int .u64 (s.w))), .c (.v (.int .u64 (s.t))), .c (.v (.int .u64 (0))), .c (.v (.int .u64 (0))), .c (.v (.int .u64 (0))), .c (.v (.int .u64 (supH s)))]
theorem rWs_ok {s : Sup} (h : supOk s = true) : rWs s = rWd s := by
  unfold rWs rWd sw
  simp only [if_pos h, supL_at, List.getD_cons_zero, List.getD_cons_succ]
theorem sw_no {s : Sup} (h : ¬ supOk s = true) (k : Nat) : sw s k = 0 := by unfold sw; rw [if_neg h]
theorem sw_list {s : Sup} (h : supOk s = true) : [sw s 0, sw s 1, sw s 2, sw s 3, sw s 4, sw s 5, sw s 6, sw s 7] = supL s := by
  unfold sw
  simp only [if_pos h, supL_at, List.getD_cons_zero, List.getD_cons_succ]
namespace Xef77363
def XX := (And.intro (And.intro (And.intro @tdiv8 @tmod8) (And.intro @toNatAddI @toNatSubI)) (And.intro (And.intro @takeAll @takeDropAll) (And.intro @Nat.mul_one @List.cons_append.{0})))
def XN := @Nat.zero_add
def XR := (And.intro (And.intro @rBy.eq_1 @rSup.eq_1) (And.intro @rWs.eq_1 (And.intro @rWd.eq_1 @supP_len)))
def XH := @Nat.zero_add
def XG := @Nat.zero_add
end Xef77363
set_option maxHeartbeats 4000000 in
set_option maxRecDepth 10000 in
open Xef77363 in
theorem k_super_Check (s : Sup) : Con Try.prog 41 [supA s] [rN .i64 (supE s)] := by
  refine con_of_awp hmix Try.func41 s41 rfl (by rw [n41]; simp) r41 n41 ?_
  simp only [Eng.start, startFr, inX, sN, vN, List.map_cons, List.map_nil, supA, supC, c41]
  (repeat' (first
    | refine aOp ?_
    | refine aOp2 ?_
    | refine aOff1 ?_
    | refine aOff2 ?_
    | (refine aSplit ?_ ?_ <;> intro hsp)
    | (refine RegA.done ‹_› ?_; first | refine aKeep [0, 1, 2, 16, 24] ?_ | skip)
    | refine awp_seq fun K hK => ?_
    | refine Awp.reg ?_
    | refine Awp.skip ?_
    | refine Awp.block ?_
    | refine Awp.scope ?_
    | refine aCt ?_
    | refine aCf ?_
    | (refine aCond ?_ ?_ <;> intro hsp)
    | (refine Awp.exit ?_; simp only [blockQ, thenQ, scopeQ, ↓reduceIte, Nat.reduceEqDiff])
    | (refine viaK ‹_› ?_; first | refine aKeep [0, 1, 2, 16, 24] ?_ | skip)
    | simp only [thenQ_normal, blockQ_normal]))
  all_goals (first | (have e := supE_yes (s := s) (supOk_iff.2 ⟨by unfold sz; simp only [Bool.and_eq_true, decide_eq_true_eq]; omega, by omega, by omega⟩); (refine Awp.ret ?_; refine aRet ?_; (simp [-List.getD_eq_getElem?_getD, laxR, laxX, laxC, laxCs, rB, rN, rO, rBy, rSup, rWs, rWd, supP_len, e]))) | (have e := supE_no (s := s) (fun h => by have := sup_le h; have := Int.tmod_eq_emod_of_nonneg (b := 8) (show 0 ≤ s.w by omega); omega); (refine Awp.ret ?_; refine aRet ?_; (simp [-List.getD_eq_getElem?_getD, laxR, laxX, laxC, laxCs, rB, rN, rO, rBy, rSup, rWs, rWd, supP_len, e]))))
theorem k_super_Check_ok (s : Sup) (h : supOk s = true) : Con Try.prog 41 [supA s] [rN .i64 0] := by
  have h1 := k_super_Check s
  rwa [supE_yes h] at h1
theorem k_super_Check_no (s : Sup) (h : ¬ supOk s = true) : Con Try.prog 41 [supA s] [rN .i64 8] := by
  have h1 := k_super_Check s
  rwa [supE_no h] at h1
set_option maxHeartbeats 4000000 in
set_option maxRecDepth 10000 in
open Xef77363 in
theorem k_super_sealed_ok (s : Sup) (h : supOk s = true) : Con Try.prog 38 [supA s] [rWd s, rN .i64 0] := by
  have ew := (sup_wrap h).1
  have et := (sup_wrap h).2
  have l2 := supP_len s
  have e3 := nextV_yes 14695981039346656037 (l := supP s) (by omega)
  have e4 := nextE_yes (l := supP s) (by omega)
  refine con_of_awp hmix Try.func38 s38 rfl (by rw [n38]; simp) r38 n38 ?_
  simp only [Eng.start, startFr, inX, sN, vN, List.map_cons, List.map_nil, supA, supC, c38]
  (have XH := (And.intro (And.intro (And.intro @eq_self.{1} @hd00) (And.intro @supP_row @l2)) (And.intro (And.intro @sub70 @sub70m) (And.intro @List.drop_zero.{0} (And.intro @List.take_succ_cons.{0} @List.take_zero.{0})))); have XG := (And.intro (And.intro (And.intro @hd00 @ew) (And.intro @et @e3)) (And.intro (And.intro @e4 @supP_row) (And.intro @supH_eq @Nat.sub_zero))); (repeat' (first
    | (refine aCallF 41 ?_; apply aE3; exact k_super_Check_ok _ h; exact flatA; refine aPost ?_)
    | (refine aCallF 42 ?_; apply aE3; exact k_sum_Of (supP s) (by rw [supP_len]; omega); exact flatA; refine aPost ?_)
    | refine aArr 5 ?_
    | refine aOp ?_
    | refine aOp2 ?_
    | refine aOff1 ?_
    | refine aOff2 ?_
    | (refine aSplit ?_ ?_ <;> intro hsp)
    | (refine RegA.done ‹_› ?_; first | refine aKeep [0, 1, 2, 3, 4, 5, 6, 7, 11] ?_ | skip)
    | refine awp_seq fun K hK => ?_
    | refine Awp.reg ?_
    | refine Awp.skip ?_
    | refine Awp.block ?_
    | refine Awp.scope ?_
    | refine aCt ?_
    | refine aCf ?_
    | (refine aCond ?_ ?_ <;> intro hsp)
    | (refine Awp.exit ?_; simp only [blockQ, thenQ, scopeQ, ↓reduceIte, Nat.reduceEqDiff])
    | (refine viaK ‹_› ?_; first | refine aKeep [0, 1, 2, 3, 4, 5, 6, 7, 11] ?_ | skip)
    | simp only [thenQ_normal, blockQ_normal])); all_goals (clear XH; clear XG))
  all_goals (refine Awp.ret ?_; refine aRet ?_; (simp [-List.getD_eq_getElem?_getD, laxR, laxX, laxC, laxCs, rB, rN, rO, rBy, rSup, rWs, rWd, supP_len]))
set_option maxHeartbeats 4000000 in
set_option maxRecDepth 10000 in
open Xef77363 in
theorem k_super_sealed_no (s : Sup) (h : ¬ supOk s = true) : Con Try.prog 38 [supA s] [rWs s, rN .i64 8] := by
  refine con_of_awp hmix Try.func38 s38 rfl (by rw [n38]; simp) r38 n38 ?_
  simp only [Eng.start, startFr, inX, sN, vN, List.map_cons, List.map_nil, supA, supC, c38]
  (have XH := (And.intro @eq_self.{1} @hd80); have XG := @hd80; (repeat' (first
    | (refine aCallF 41 ?_; apply aE3; exact k_super_Check_no _ h; exact flatA; refine aPost ?_)
    | refine aArr 5 ?_
    | refine aOp ?_
    | refine aOp2 ?_
    | refine aOff1 ?_
    | refine aOff2 ?_
    | (refine aSplit ?_ ?_ <;> intro hsp)
    | (refine RegA.done ‹_› ?_; first | refine aKeep [0, 1, 2, 3, 4, 5, 6, 7, 11] ?_ | skip)
    | refine awp_seq fun K hK => ?_
    | refine Awp.reg ?_
    | refine Awp.skip ?_
    | refine Awp.block ?_
    | refine Awp.scope ?_
    | refine aCt ?_
    | refine aCf ?_
    | (refine aCond ?_ ?_ <;> intro hsp)
    | (refine Awp.exit ?_; simp only [blockQ, thenQ, scopeQ, ↓reduceIte, Nat.reduceEqDiff])
    | (refine viaK ‹_› ?_; first | refine aKeep [0, 1, 2, 3, 4, 5, 6, 7, 11] ?_ | skip)
    | simp only [thenQ_normal, blockQ_normal])); all_goals (clear XH; clear XG))
  all_goals (refine Awp.ret ?_; refine aRet ?_; (simp [-List.getD_eq_getElem?_getD, laxR, laxX, laxC, laxCs, rB, rN, rO, rBy, rSup, rWs, rWd, supP_len, sw_no h]))
theorem k_super_sealed (s : Sup) : Con Try.prog 38 [supA s] [rWs s, rN .i64 (supE s)] := by
  by_cases h : supOk s = true
  · have h1 := k_super_sealed_ok s h
    rwa [← rWs_ok h, ← supE_yes h] at h1
  · have h1 := k_super_sealed_no s h
    rwa [← supE_no h] at h1
end
end Go.Proofs.Yteodihbpnpgccaa
