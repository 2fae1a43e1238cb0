/-
  The contracts of the program's functions, data in, data out. Conditions: those in the statements.
-/
import Derived.Test.YtacooafifeakkaaF4
namespace Go.Proofs.Ytacooafifeakkaa
set_option linter.all false
open Go Go.Proofs.Ytacooafifeakkaa.Eng Go.RowKit
noncomputable section
namespace Xf3ecceb
def XX := (And.intro @toNatAdd @toNatSub)
def XN := @Nat.zero_add
def XR := @rBy.eq_1
def XH := @Nat.zero_add
def XG := @Nat.zero_add
end Xf3ecceb
set_option maxHeartbeats 4000000 in
set_option maxRecDepth 10000 in
open Xf3ecceb in
theorem k_law05_SumWords (s : Int) (l : List Int) (n : Int) (hs : isU s) (hl : ∀ x ∈ l, isU x) : Con Try.prog 4 [vN .u64 s, sN .u64 l, vN .i64 n] [rB true] := by
  refine con_of_awp hmix Try.func4 s4 rfl (by rw [n4]; simp) r4 n4 ?_
  simp only [Eng.start, startFr, inX, sN, vN, List.map_cons, List.map_nil, c4]
  (have XH := @eq_self.{1}; (repeat' (first
    | (refine aCall 13 ?_; apply aE2; exact kf_ref02_Twin _ (by omega); refine aPost ?_)
    | (refine aCallF 17 ?_; apply aE3; exact kf_ref02_Same _ _ (by omega) (by omega); exact flatA; refine aPost ?_)
    | (refine aCallF 10 ?_; apply aE3; exact k_sum_Next _ _ hs (by omega); exact flatA; refine aPost ?_)
    | (refine aCallF 14 ?_; apply aE3; exact k_ref05_Next _ _ hs hl (by omega); exact flatA; refine aPost ?_)
    | (refine aCallF 9 ?_; apply aE3; exact k_sum_Of _ (by omega); exact flatA; refine aPost ?_)
    | (refine aCallF 15 ?_; apply aE3; exact k_ref05_Of _ hl (by omega); exact flatA; refine aPost ?_)
    | (refine aCallF 11 ?_; apply aE3; exact k_sum_Low _ _ (by omega); exact flatA; refine aPost ?_)
    | (refine aCallF 16 ?_; apply aE3; exact k_ref05_Low _ _ hl (by omega); exact flatA; refine aPost ?_)
    | refine aOp ?_
    | refine aOff1 ?_
    | refine aOff2 ?_
    | (refine aSplit ?_ ?_ <;> intro hsp)
    | (refine RegA.done ‹_› ?_; first | refine aKeep [0, 1, 2, 6, 7, 8, 9, 10, 11, 12, 13, 14, 15, 16, 17, 18, 19, 32] ?_ | skip)
    | refine awp_seq fun K hK => ?_
    | refine Awp.reg ?_
    | refine Awp.skip ?_
    | refine Awp.block ?_
    | refine Awp.scope ?_
    | refine aCt ?_
    | refine aCf ?_
    | (refine aCond ?_ ?_ <;> intro hsp)
    | (refine Awp.exit ?_; simp only [blockQ, thenQ, scopeQ, ↓reduceIte, Nat.reduceEqDiff])
    | (refine viaK ‹_› ?_; first | refine aKeep [0, 1, 2, 6, 7, 8, 9, 10, 11, 12, 13, 14, 15, 16, 17, 18, 19, 32] ?_ | skip)
    | simp only [thenQ_normal, blockQ_normal])); all_goals (clear XH))
  all_goals (refine Awp.ret ?_; refine aRet ?_; (simp [-List.getD_eq_getElem?_getD, laxR, laxX, laxC, laxCs, rB, rN, rO, rBy] <;> (intros; omega)))
theorem and255 {x : Int} (hx : isU x) : bits .and .u64 x 255 = fld x 0 8 := by
  have h := and_fld hx 0 8 (by omega)
  rw [← h]
  have e : ones 8 = 255 := by unfold ones; decide
  rw [e, Int.pow_zero, Int.ediv_one]
theorem low_yes {l : List Int} {n : Int} (h : l.length ≤ 2048) (h8 : 8 ≤ n) (h64 : n ≤ 64) : lowV l n = fld (beh 14695981039346656037 l) 0 n.toNat := by
  have e : lowE l n = 0 := by unfold lowE; rw [if_neg (by omega), if_pos (by omega)]
  unfold lowV
  rw [if_pos e]
theorem lowE_yes {l : List Int} {n : Int} (h : l.length ≤ 2048) (h8 : 8 ≤ n) (h64 : n ≤ 64) : lowE l n = 0 := by
  unfold lowE; rw [if_neg (by omega), if_pos (by omega)]
theorem num_app (k : IntKind) (a b : List Int) : a.map (numD k) ++ b.map (numD k) = (a ++ b).map (numD k) := (List.map_append ..).symm
theorem num_set (k : IntKind) (a : List Int) (i : Nat) (v : Int) : (a.map (numD k)).set i [.v (.int k v)] = (a.set i v).map (numD k) := by rw [List.map_set]; rfl
set_option maxHeartbeats 4000000 in
set_option maxRecDepth 10000 in
open Xf3ecceb in
theorem k_law05_SumParts (s : Int) (l m : List Int) (hs : isU s) : Con Try.prog 5 [vN .u64 s, sN .u64 l, sN .u64 m] [rB true] := by
  refine con_of_awp hmix Try.func5 s5 rfl (by rw [n5]; simp) r5 n5 ?_
  simp only [Eng.start, startFr, inX, sN, vN, List.map_cons, List.map_nil, c5]
  (repeat' (first
    | (refine aCallF 12 ?_; apply aE3; exact k_alive5; exact flatA; refine aPost ?_)
    | refine aOp ?_
    | refine aOff1 ?_
    | refine aOff2 ?_
    | (refine aSplit ?_ ?_ <;> intro hsp)
    | (refine RegA.done ‹_› ?_; first | refine aKeep [0, 1, 2, 6, 7, 8, 9, 10, 11, 12, 13, 14, 15, 16, 17, 18, 19, 27] ?_ | skip)
    | refine awp_seq fun K hK => ?_
    | refine Awp.reg ?_
    | refine Awp.skip ?_
    | refine Awp.block ?_
    | refine Awp.scope ?_
    | refine aCt ?_
    | refine aCf ?_
    | (refine aCond ?_ ?_ <;> intro hsp)
    | (refine Awp.exit ?_; simp only [blockQ, thenQ, scopeQ, ↓reduceIte, Nat.reduceEqDiff])
    | (refine viaK ‹_› ?_; first | refine aKeep [0, 1, 2, 6, 7, 8, 9, 10, 11, 12, 13, 14, 15, 16, 17, 18, 19, 27] ?_ | skip)
    | simp only [thenQ_normal, blockQ_normal]))
  · (refine Awp.ret ?_; refine aRet ?_; (simp [-List.getD_eq_getElem?_getD, laxR, laxX, laxC, laxCs, rB, rN, rO, rBy] <;> (intros; omega)))
  · (refine Awp.ret ?_; refine aRet ?_; (simp [-List.getD_eq_getElem?_getD, laxR, laxX, laxC, laxCs, rB, rN, rO, rBy] <;> (intros; omega)))
  · have hlm : (l ++ m).length = l.length + m.length := List.length_append
    have e1 := nextV_yes s (l := l) (by omega)
    have e2 := nextE_yes (l := l) (by omega)
    have e3 := nextV_yes (beh s l) (l := m) (by omega)
    have e4 := nextE_yes (l := m) (by omega)
    have e5 := nextV_yes s (l := l ++ m) (by omega)
    have e6 := nextE_yes (l := l ++ m) (by omega)
    have e7 := nextV_yes 14695981039346656037 (l := l ++ m) (by omega)
    have e8 := low_yes (l := l ++ m) (n := 8) (by omega) (by omega) (by omega)
    have e9 := lowE_yes (l := l ++ m) (n := 8) (by omega) (by omega) (by omega)
    have ea := and255 (beh_U firstU (l ++ m))
    rw [show ((8 : Int).toNat) = 8 from rfl] at e8
    have eb := beh_app s l m
    (have XH := @eq_self.{1}; have XG := (And.intro (And.intro (And.intro @num_app (And.intro @e1 @e2)) (And.intro @e3 (And.intro @e4 @e5))) (And.intro (And.intro @e6 (And.intro @e7 @e8)) (And.intro @e9 (And.intro @ea @eb)))); (repeat' (first
        | (refine aCallF 12 ?_; apply aE3; exact k_alive5; exact flatA; refine aPost ?_)
        | (refine aCallF 10 ?_; apply aE3; exact k_sum_Next _ _ hs (by omega); exact flatA; refine aPost ?_)
        | (refine aCallF 10 ?_; apply aE3; exact k_sum_Next _ _ firstU (by omega); exact flatA; refine aPost ?_)
        | (refine aCallF 10 ?_; apply aE3; exact k_sum_Next _ _ (beh_U hs l) (by omega); exact flatA; refine aPost ?_)
        | (refine aCallF 9 ?_; apply aE3; exact k_sum_Of _ (by omega); exact flatA; refine aPost ?_)
        | (refine aCallF 11 ?_; apply aE3; exact k_sum_Low _ _ (by omega); exact flatA; refine aPost ?_)
        | refine aOp ?_
        | refine aOff1 ?_
        | refine aOff2 ?_
        | (refine aSplit ?_ ?_ <;> intro hsp)
        | (refine RegA.done ‹_› ?_; first | refine aKeep [0, 1, 2, 6, 7, 8, 9, 10, 11, 12, 13, 14, 15, 16, 17, 18, 19, 27] ?_ | skip)
        | refine awp_seq fun K hK => ?_
        | refine Awp.reg ?_
        | refine Awp.skip ?_
        | refine Awp.block ?_
        | refine Awp.scope ?_
        | refine aCt ?_
        | refine aCf ?_
        | (refine aCond ?_ ?_ <;> intro hsp)
        | (refine Awp.exit ?_; simp only [blockQ, thenQ, scopeQ, ↓reduceIte, Nat.reduceEqDiff])
        | (refine viaK ‹_› ?_; first | refine aKeep [0, 1, 2, 6, 7, 8, 9, 10, 11, 12, 13, 14, 15, 16, 17, 18, 19, 27] ?_ | skip)
        | simp only [thenQ_normal, blockQ_normal])); all_goals (clear XH; clear XG))
    (refine Awp.ret ?_; refine aRet ?_; (simp [-List.getD_eq_getElem?_getD, laxR, laxX, laxC, laxCs, rB, rN, rO, rBy] <;> (intros; omega)))
end
end Go.Proofs.Ytacooafifeakkaa
