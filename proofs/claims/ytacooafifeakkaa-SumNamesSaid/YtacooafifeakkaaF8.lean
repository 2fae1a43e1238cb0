/-
  The contracts of the program's functions, data in, data out. Conditions: those in the statements.
-/
import Derived.Test.YtacooafifeakkaaF7
namespace Go.Proofs.Ytacooafifeakkaa
set_option linter.all false
open Go Go.Proofs.Ytacooafifeakkaa.Eng Go.RowKit
noncomputable section
theorem rep_len {α : Type} (n : Nat) (v : α) : (rep n v).length = n := by unfold rep; exact List.length_replicate
theorem rep_num (k : IntKind) (n : Nat) (v : Int) : rep n [D.v (.int k v)] = (rep n v).map (numD k) := by unfold rep; rw [List.map_replicate]; rfl
theorem rep_take {α : Type} (n m : Nat) (v : α) (h : m ≤ n) : (rep n v).take m = rep m v := by unfold rep; rw [List.take_replicate, Nat.min_eq_left h]
theorem mk2049 (s : St) (seed : Nat) : effect Try.prog s seed (.makeSlice 22 (.const (.int .i64 2049)) (.const (.int .i64 2049))) = some ⟨some (one (.own seed 2049)), [(seed, .row 1 ((rep 2049 0).map (numD .u64)) false)], 1⟩ := by kernel_rfl
theorem rep_t : (rep 2049 (0 : Int)).take 2048 = rep 2048 0 := rep_take _ _ _ (by omega)
theorem rep_s : 2048 - 0 = 2048 := rfl
theorem aMk {W : Prop} {K : St → Prop} {dst : Option Nat} {g : Option (Nat × Bool)} {rest : List SO} {s s' : St} (h : RegA W Try.prog K rest s') (hg : gOk s g := by (first | exact trivial | rfl | exact congrArg some ‹_›)) (hd : dstOk s dst = true := by rfl)
    (hs : put1 s dst (some (one (.own s.nx 2049))) [(s.nx, .row 1 ((rep 2049 0).map (numD .u64)) false)] (s.nx + 1) = s' := by (simp (disch := omega) only [List.length_map, Nat.reduceBEq, Bool.not_false, Bool.not_true, ↓reduceIte, Bool.false_eq_true, BEq.rfl, put1, skip1, frOf, know, vv, one, del, decide_true, decide_false, List.filter_cons, List.filter_nil, List.nil_append, List.cons_append, Nat.reduceAdd, Nat.add_zero, XN, XG]; rfl)) : RegA W Try.prog K (⟨dst, .makeSlice 22 (.const (.int .i64 2049)) (.const (.int .i64 2049)), g⟩ :: rest) s := by
  subst hs
  exact .op hg hd (mk2049 s s.nx) h
theorem zeroU : isU 0 := by unfold isU; omega
theorem z1 : nextE (rep 2049 0) = 4 := nextE_no (by rw [rep_len]; omega)
theorem z2 : nextE (rep 2048 0) = 0 := nextE_yes (by rw [rep_len]; omega)
theorem z3 : nextV 0 (rep 2048 0) = 0 := by
  rw [nextV_yes _ (by rw [rep_len]; omega)]
  unfold rep
  rw [beh_pows zeroU]
  generalize 8 * 2048 = k
  induction k with
  | zero => exact pows_zero 0
  | succ k ih => rw [← pows_succ, ih]; rfl
theorem z4 (n : Int) : lowE (rep 2049 0) n = 4 := by unfold lowE; rw [if_pos (by rw [rep_len]; omega)]
theorem zl (m : Int) : ([] : List Int).length ≤ 2048 := by decide
theorem z5 : lowE [] 58 = 0 := lowE_yes (by decide) (by decide) (by decide)
theorem z6 : lowV [] 58 = 284462231761068837 := by
  rw [low_yes (by decide) (by decide) (by decide), beh_nil]
  unfold fld
  decide
theorem z7 : lowE [] 7 = 2 := by unfold lowE; rw [if_neg (by decide), if_neg (by decide)]
theorem z8 : lowE [] 65 = 2 := by unfold lowE; rw [if_neg (by decide), if_neg (by decide)]
theorem z9 : lowE [] (-1) = 2 := by unfold lowE; rw [if_neg (by decide), if_neg (by decide)]
theorem za : lowE [] 64 = 0 := lowE_yes (by decide) (by decide) (by decide)
theorem zb : lowV [] 64 = 14695981039346656037 := by
  rw [low_yes (by decide) (by decide) (by decide), beh_nil]
  unfold fld
  decide
namespace Xfc78df0
def XX := (And.intro @toNatAdd @toNatSub)
def XN := @Nat.zero_add
def XR := @rBy.eq_1
def XH := @Nat.zero_add
def XG := @Nat.zero_add
end Xfc78df0
set_option maxHeartbeats 4000000 in
set_option maxRecDepth 10000 in
open Xfc78df0 in
theorem k_law05_SumNames : Con Try.prog 3 [] [rB true] := by
  refine con_of_awp hmix Try.func3 s3 rfl (by rw [n3]; simp) r3 n3 ?_
  simp only [Eng.start, startFr, inX, sN, vN, List.map_cons, List.map_nil, c3]
  (have XH := (And.intro (And.intro @eq_self.{1} @rep_len) (And.intro @List.drop_zero.{0} (And.intro @rep_s @rep_t))); have XG := (And.intro (And.intro (And.intro @z1 (And.intro @z2 @z3)) (And.intro @z4 (And.intro @z5 @z6))) (And.intro (And.intro @z7 (And.intro @z8 @z9)) (And.intro @za (And.intro @zb @rep_len)))); (repeat' (first
    | (refine aCallF 12 ?_; apply aE3; exact k_alive5; exact flatA; refine aPost ?_)
    | (refine aCallF 9 ?_; apply aE3; exact k_sum_Of (rep 2049 0) (by rw [rep_len]; omega); exact flatA; refine aPost ?_)
    | (refine aCallF 10 ?_; apply aE3; exact k_sum_Next 0 (rep 2049 0) zeroU (by rw [rep_len]; omega); exact flatA; refine aPost ?_)
    | (refine aCallF 10 ?_; apply aE3; exact k_sum_Next 0 (rep 2048 0) zeroU (by rw [rep_len]; omega); exact flatA; refine aPost ?_)
    | (refine aCallF 11 ?_; apply aE3; exact k_sum_Low (rep 2049 0) 7 (by rw [rep_len]; omega); exact flatA; refine aPost ?_)
    | (refine aCallL 11 false ?_; apply aE4; exact k_sum_Low [] 58 (by decide); (focus (first | exact laxAs_refl _ | (simp [laxAs, laxA, laxDs, laxD, emptyD, vN, sN]; done))); (exact .inr flatA); refine aPost ?_)
    | (refine aCallL 11 false ?_; apply aE4; exact k_sum_Low [] 7 (by decide); (focus (first | exact laxAs_refl _ | (simp [laxAs, laxA, laxDs, laxD, emptyD, vN, sN]; done))); (exact .inr flatA); refine aPost ?_)
    | (refine aCallL 11 false ?_; apply aE4; exact k_sum_Low [] 65 (by decide); (focus (first | exact laxAs_refl _ | (simp [laxAs, laxA, laxDs, laxD, emptyD, vN, sN]; done))); (exact .inr flatA); refine aPost ?_)
    | (refine aCallL 11 false ?_; apply aE4; exact k_sum_Low [] (-1) (by decide); (focus (first | exact laxAs_refl _ | (simp [laxAs, laxA, laxDs, laxD, emptyD, vN, sN]; done))); (exact .inr flatA); refine aPost ?_)
    | (refine aCallL 11 false ?_; apply aE4; exact k_sum_Low [] 64 (by decide); (focus (first | exact laxAs_refl _ | (simp [laxAs, laxA, laxDs, laxD, emptyD, vN, sN]; done))); (exact .inr flatA); refine aPost ?_)
    | refine aMk ?_
    | refine aOp ?_
    | refine aOff1 ?_
    | refine aOff2 ?_
    | (refine aSplit ?_ ?_ <;> intro hsp)
    | (refine RegA.done ‹_› ?_; first | refine aKeep [0, 1, 3, 5, 7, 8, 9, 10, 11, 13, 15, 17, 18, 19] ?_ | skip)
    | refine awp_seq fun K hK => ?_
    | refine Awp.reg ?_
    | refine Awp.skip ?_
    | refine Awp.block ?_
    | refine Awp.scope ?_
    | refine aCt ?_
    | refine aCf ?_
    | (refine aCond ?_ ?_ <;> intro hsp)
    | (refine Awp.exit ?_; simp only [blockQ, thenQ, scopeQ, ↓reduceIte, Nat.reduceEqDiff])
    | (refine viaK ‹_› ?_; first | refine aKeep [0, 1, 3, 5, 7, 8, 9, 10, 11, 13, 15, 17, 18, 19] ?_ | skip)
    | simp only [thenQ_normal, blockQ_normal])); all_goals (clear XH; clear XG))
  all_goals (refine Awp.ret ?_; refine aRet ?_; (simp [-List.getD_eq_getElem?_getD, laxR, laxX, laxC, laxCs, rB, rN, rO, rBy] <;> (intros; omega)))
end
end Go.Proofs.Ytacooafifeakkaa
