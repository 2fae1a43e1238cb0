/-
  The contracts of the program's functions, data in, data out. Conditions: those in the statements.
-/
import Derived.Test.YtijllihnheggbaaD15
namespace Go.Proofs.Ytijllihnheggbaa
set_option linter.all false
open Go Go.Proofs.Ytijllihnheggbaa.Eng Go.RowKit
noncomputable section
theorem hc2 : decide (((2 : Nat) : Int) = 2) = true := rfl
theorem exL : (rep 256 (0 : Int)).length ≤ 1000000 := by rw [rep_len]; decide
theorem maL : (manL 130).length ≤ 1000000 := by rw [manL_len]; decide
def mh : Nat → List (Nat × Ob)
  | 0 => [(14, .box [.own 15 256, .d (.v (.slice none 0 0)), .d (.v (.int .i64 0)), .d (.v (.bool false))])]
  | k + 1 => [(14, .box [.own 15 256, .own 1 (k + 1), .d (.v (.int .i64 0)), .d (.v (.bool false))]), (1, .row 3 ((manL (k + 1)).map dtyD) false)]
theorem mh_zero : mh 0 = [(14, .box [.own 15 256, .d (.v (.slice none 0 0)), .d (.v (.int .i64 0)), .d (.v (.bool false))])] := rfl
theorem mh_succ (k : Nat) : mh (k + 1) = [(14, .box [.own 15 256, .own 1 (k + 1), .d (.v (.int .i64 0)), .d (.v (.bool false))]), (1, .row 3 ((manL (k + 1)).map dtyD) false)] := rfl
theorem mh_one : mh 1 = [(14, .box [.own 15 256, .own 1 1, .d (.v (.int .i64 0)), .d (.v (.bool false))]), (1, .row 3 ((manL 1).map dtyD) false)] := rfl
theorem manL_one : (manL 1).map dtyD = [[.v (.int .i64 0), .v (.int .u64 1), .v (.bool false)]] := rfl
theorem mh_all : mh 130 = [(14, .box [.own 15 256, .own 1 130, .d (.v (.int .i64 0)), .d (.v (.bool false))]), (1, .row 3 ((manL 130).map dtyD) false)] := rfl
theorem man_tri {i : Nat} (h : i ≤ 130) : (i = 0 ∧ decide ((i : Int) < 130) = true) ∨ (∃ k, i = k + 1 ∧ k + 1 < 130 ∧ decide (((k + 1 : Nat) : Int) < 130) = true) ∨ (i = 130 ∧ decide ((i : Int) < 130) = false) := by
  rcases Nat.lt_or_ge i 130 with h1 | h1
  · cases i with
    | zero => exact .inl ⟨rfl, decide_eq_true (by omega)⟩
    | succ k => exact .inr (.inl ⟨k, rfl, h1, decide_eq_true (by omega)⟩)
  · exact .inr (.inr ⟨by omega, decide_eq_false (by omega)⟩)
theorem sum_tri {i : Nat} (h : i ≤ 256) : (i < 256 ∧ decide ((i : Int) < ((crashX manD MM).img.length : Int)) = true) ∨ (i = 256 ∧ decide ((i : Int) < ((crashX manD MM).img.length : Int)) = false) := by
  rw [q11]
  rcases Nat.lt_or_ge i 256 with h1 | h1
  · exact .inl ⟨h1, decide_eq_true (by omega)⟩
  · exact .inr ⟨by omega, decide_eq_false (by omega)⟩
namespace Xf5ff7e9
def XX := (And.intro (And.intro @getD_dty (And.intro @tdiv8 @tmod8)) (And.intro (And.intro @takeAll @takeDropAll) (And.intro @toNatAdd @toNatSub)))
def XN := @Nat.zero_add
def XR := (And.intro (And.intro (And.intro @rDev.eq_1 @dtyD.eq_1) (And.intro @spent_img (And.intro @spent_dirty @sK.eq_1))) (And.intro (And.intro @sI.eq_1 @sDev.eq_1) (And.intro @sO.eq_1 (And.intro @rK.eq_1 @rI.eq_1))))
def XH := @Nat.zero_add
def XG := @Nat.zero_add
end Xf5ff7e9
set_option maxHeartbeats 4000000 in
set_option maxRecDepth 10000 in
open Xf5ff7e9 in
theorem k_law04_CrashNames : Con Try.prog 3 [] [rB true] := by
  refine con_of_awp hmix Try.func3 s3 rfl (by rw [n3]; simp) r3 n3 ?_
  simp only [Eng.start, startFr, inX, sN, vN, List.map_cons, List.map_nil, c3]
  (have XH := @rep_len; have XG := (And.intro @rep_num @rep_len); (repeat' (first
    | (refine aCall 12 ?_; apply aE2; exact k_example; refine aPost ?_)
    | (refine aCallF 14 ?_; apply aE3; exact k_alive4; exact flatA; refine aPost ?_)
    | (refine aCallL 9 true ?_; apply aE4; exact k_Arm_s badD (-2) (by decide) (by decide); (focus (first | exact laxAs_refl _ | (simp [laxAs, laxA, laxDs, laxD, emptyD, vN, sN, devA, devC, dtyD, sD, badD, exaD, dowD, manD, MM, rep_len, rep_num, numD]; done))); (exact .inl rfl); refine aPost ?_)
    | (refine aCallL 10 true ?_; apply aE4; exact k_Crash_s badD 0 (by decide) (by decide) (by decide); (focus (first | exact laxAs_refl _ | (simp [laxAs, laxA, laxDs, laxD, emptyD, vN, sN, devA, devC, dtyD, sD, badD, exaD, dowD, manD, MM, rep_len, rep_num, numD]; done))); (exact .inl rfl); refine aPost ?_)
    | (refine aCallL 11 true ?_; apply aE4; exact k_crash_Chosen badD 0 (by decide) (by decide) (by decide); (focus (first | exact laxAs_refl _ | (simp [laxAs, laxA, laxDs, laxD, emptyD, vN, sN, devA, devC, dtyD, sD, badD, exaD, dowD, manD, MM, rep_len, rep_num, numD]; done))); (exact .inl rfl); refine aPost ?_)
    | (refine aCall 9 ?_; apply aE2; exact k_Arm_s exaD (-2) exL (by decide); refine aPost ?_)
    | (refine aCall 9 ?_; apply aE2; exact k_Arm_s exaD 1000001 exL (by decide); refine aPost ?_)
    | (refine aCall 9 ?_; apply aE2; exact k_Arm_s dowD 1000000 exL (by decide); refine aPost ?_)
    | (refine aCall 9 ?_; apply aE2; exact k_Arm_s dowD 0 exL (by decide); refine aPost ?_)
    | refine aOp (he := mk256 _ _) ?_
    | refine aOp ?_
    | refine aOff1 ?_
    | refine aOff2 ?_
    | (refine aSplit ?_ ?_ <;> intro hsp)
    | (refine RegA.done ‹_› ?_; first | refine aKeep [0, 1, 3, 5, 7, 9, 11, 12, 13, 14, 15, 16, 17, 18, 19, 20, 21, 22, 23, 24, 67, 91] ?_ | skip)
    | refine awp_seq fun K hK => ?_
    | refine Awp.reg ?_
    | refine Awp.skip ?_
    | refine Awp.block ?_
    | refine Awp.scope ?_
    | refine aCt ?_
    | refine aCf ?_
    | (refine aCond ?_ ?_ <;> intro hsp)
    | (refine Awp.exit ?_; simp only [blockQ, thenQ, scopeQ, ↓reduceIte, Nat.reduceEqDiff])
    | (refine viaK ‹_› ?_; first | refine aKeep [0, 1, 3, 5, 7, 9, 11, 12, 13, 14, 15, 16, 17, 18, 19, 20, 21, 22, 23, 24, 67, 91] ?_ | skip)
    | simp only [thenQ_normal, blockQ_normal])); all_goals (clear XH; clear XG))
  refine Awp.loopK (α := {i : Nat // i ≤ 130}) (fun x => [(18, vv (.int .i64 (x.1 : Int)))]) (fun x => mh x.1) [0, 3, 5, 7, 9, 11, 13, 14, 15, 16, 17] [12, 13, 15] (fun x => 130 - x.1) ⟨0, by omega⟩ [] (by simp only [List.filterMap_cons, List.filterMap_nil, lk_nil, lk_cons, ↓reduceIte, Nat.reduceEqDiff, Option.map_some, Option.map_none]; rfl) (by simp only [List.filterMap_cons, List.filterMap_nil, lk_nil, lk_cons, ↓reduceIte, Nat.reduceEqDiff, Option.map_some, Option.map_none]; rfl) rfl rfl ?_ ?_
  · simp only [mh_zero]; simp only [Wk, frIn, hpIn, lk_nil, lk_cons, renV, renX, renC, belV, belX, belC, belL, belB, List.cons_append, List.nil_append, ↓reduceIte, Nat.reduceEqDiff, and_self, and_true, true_and] <;> simp [-List.getD_eq_getElem?_getD, vv, one, renV, renX, renC, belV, belX, belC, belL, belB, rho, renO, belO, lk_nil, lk_cons, mh]
  · rintro ⟨i, hi⟩
    dsimp only
    simp only [vv, one, List.cons_append, List.nil_append]
    (rcases man_tri hi with ⟨rfl, e0⟩ | ⟨k, rfl, hk, e0⟩ | ⟨rfl, e0⟩ <;> simp only [mh_zero, mh_all, mh_succ]) <;>
    (have XH := (And.intro @e0 (And.intro @manL_len @rep_len)); have XG := (And.intro (And.intro (And.intro @dty_snoc @manL_len) (And.intro @List.take_succ_cons.{0} (And.intro @List.take_zero.{0} @List.take_nil.{0}))) (And.intro (And.intro @List.length_cons.{0} (And.intro @List.length_nil.{0} @Nat.zero_add)) (And.intro @List.drop_succ_cons.{0} (And.intro @List.drop_zero.{0} @List.drop_nil.{0})))); (repeat' (first
      | (refine aCall 11 ?_; apply aE2; exact k_crash_Chosen manD MM exL maL (by decide); refine aPost ?_)
      | (refine aCall 10 ?_; apply aE2; exact k_Crash_s manD MM exL maL (by decide); refine aPost ?_)
      | refine aOp ?_
      | refine aOff1 ?_
      | refine aOff2 ?_
      | (refine aSplit ?_ ?_ <;> intro hsp)
      | (refine RegA.done ‹_› ?_; first | refine aKeep [0, 1, 3, 5, 7, 9, 11, 12, 13, 14, 15, 16, 17, 18, 19, 20, 21, 22, 23, 24, 67, 91] ?_ | skip)
      | refine awp_seq fun K hK => ?_
      | refine Awp.reg ?_
      | refine Awp.skip ?_
      | refine Awp.block ?_
      | refine Awp.scope ?_
      | refine aCt ?_
      | refine aCf ?_
      | (refine aCond ?_ ?_ <;> intro hsp)
      | (refine Awp.exit ?_; simp only [blockQ, thenQ, scopeQ, ↓reduceIte, Nat.reduceEqDiff])
      | (refine viaK ‹_› ?_; first | refine aKeep [0, 1, 3, 5, 7, 9, 11, 12, 13, 14, 15, 16, 17, 18, 19, 20, 21, 22, 23, 24, 67, 91] ?_ | skip)
      | simp only [thenQ_normal, blockQ_normal])); all_goals (clear XH; clear XG))
    · refine RegA.nil ⟨⟨1, by omega⟩, [(1, 17)], ?_, ?_⟩
      · simp only [mh_one]; simp only [Wk, frIn, hpIn, lk_nil, lk_cons, renV, renX, renC, belV, belX, belC, belL, belB, List.cons_append, List.nil_append, ↓reduceIte, Nat.reduceEqDiff, and_self, and_true, true_and] <;> simp [-List.getD_eq_getElem?_getD, vv, one, renV, renX, renC, belV, belX, belC, belL, belB, rho, renO, belO, lk_nil, lk_cons, manL_one]
      · (simp only []; omega)
    · have e := manL_succ (k + 1)
      refine RegA.nil ⟨⟨k + 1 + 1, by omega⟩, [], ?_, ?_⟩
      · simp only [mh_succ]; simp only [Wk, frIn, hpIn, lk_nil, lk_cons, renV, renX, renC, belV, belX, belC, belL, belB, List.cons_append, List.nil_append, ↓reduceIte, Nat.reduceEqDiff, and_self, and_true, true_and] <;> simp [-List.getD_eq_getElem?_getD, vv, one, renV, renX, renC, belV, belX, belC, belL, belB, rho, renO, belO, lk_nil, lk_cons, ← e, manL_len]
      · (simp only []; omega)
    refine Awp.loopK (α := {i : Nat // i ≤ 256}) (fun x => [(23, vv (.int .u64 (sums (crashX manD MM).img x.1))), (24, vv (.int .i64 (x.1 : Int)))]) (fun x => []) [0, 3, 5, 7, 9, 11, 13, 14, 15, 16, 19, 20, 21, 22] [12, 13, 16] (fun x => 256 - x.1) ⟨0, by omega⟩ [] (by simp only [List.filterMap_cons, List.filterMap_nil, lk_nil, lk_cons, ↓reduceIte, Nat.reduceEqDiff, Option.map_some, Option.map_none]; rfl) (by simp only [List.filterMap_cons, List.filterMap_nil, lk_nil, lk_cons, ↓reduceIte, Nat.reduceEqDiff, Option.map_some, Option.map_none]; rfl) rfl rfl ?_ ?_
    · simp only [Wk, frIn, hpIn, lk_nil, lk_cons, renV, renX, renC, belV, belX, belC, belL, belB, List.cons_append, List.nil_append, ↓reduceIte, Nat.reduceEqDiff, and_self, and_true, true_and] <;> simp [-List.getD_eq_getElem?_getD, vv, one, renV, renX, renC, belV, belX, belC, belL, belB, rho, renO, belO, lk_nil, lk_cons, sums_zero]
    · rintro ⟨i, hi⟩
      have hq := q11
      dsimp only
      simp only [vv, one, List.cons_append, List.nil_append]
      rcases sum_tri hi with ⟨q0, e0⟩ | ⟨rfl, e0⟩ <;>
      (have XH := (And.intro (And.intro (And.intro @eq_self.{1} (And.intro @e0 @hc2)) (And.intro (And.intro @q1 @q2) (And.intro @q3 @q4))) (And.intro (And.intro @q5 (And.intro @q6 @q7)) (And.intro (And.intro @q8 @q9) (And.intro @q10 @q12)))); (repeat' (first
        | (refine aCallF 14 ?_; apply aE3; exact k_alive4; exact flatA; refine aPost ?_)
        | (refine aCallF 13 ?_; apply aE3; exact k_ref02_SameInts [0, 63, 64, 127, 128] [0, 63, 64, 127, 128] (by decide) (by decide); exact flatA; refine aPost ?_)
        | refine aOp ?_
        | refine aOff1 ?_
        | refine aOff2 ?_
        | (refine aSplit ?_ ?_ <;> intro hsp)
        | (refine RegA.done ‹_› ?_; first | refine aKeep [0, 1, 3, 5, 7, 9, 11, 12, 13, 14, 15, 16, 17, 18, 19, 20, 21, 22, 23, 24, 67, 91] ?_ | skip)
        | refine awp_seq fun K hK => ?_
        | refine Awp.reg ?_
        | refine Awp.skip ?_
        | refine Awp.block ?_
        | refine Awp.scope ?_
        | refine aCt ?_
        | refine aCf ?_
        | (refine aCond ?_ ?_ <;> intro hsp)
        | (refine Awp.exit ?_; simp only [blockQ, thenQ, scopeQ, ↓reduceIte, Nat.reduceEqDiff])
        | (refine viaK ‹_› ?_; first | refine aKeep [0, 1, 3, 5, 7, 9, 11, 12, 13, 14, 15, 16, 17, 18, 19, 20, 21, 22, 23, 24, 67, 91] ?_ | skip)
        | simp only [thenQ_normal, blockQ_normal])); all_goals (clear XH))
      all_goals first
        | (focus (
          have e := sums_succ (l := (crashX manD MM).img) (k := i) (by rw [q11]; omega)
          refine RegA.nil ⟨⟨i + 1, by omega⟩, [], ?_, ?_⟩
          · simp only [Wk, frIn, hpIn, lk_nil, lk_cons, renV, renX, renC, belV, belX, belC, belL, belB, List.cons_append, List.nil_append, ↓reduceIte, Nat.reduceEqDiff, and_self, and_true, true_and] <;> simp [-List.getD_eq_getElem?_getD, vv, one, renV, renX, renC, belV, belX, belC, belL, belB, rho, renO, belO, lk_nil, lk_cons, e]
          · (simp only []; omega)))
        | (focus (
          (refine Awp.ret ?_; refine aRet ?_; (simp [-List.getD_eq_getElem?_getD, laxR, laxX, laxC, laxCs, rB, rN, rO, rDev, dtyD, spent_img, spent_dirty, sK, sI, sDev, sO, rK, rI] <;> (intros; omega)))))
end
end Go.Proofs.Ytijllihnheggbaa
