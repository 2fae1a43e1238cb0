/-
  The contracts of the program's functions, data in, data out. Conditions: those in the statements.
-/
import Derived.Test.YtnkakhmmlgkbgaaG4
namespace Go.Proofs.Ytnkakhmmlgkbgaa
set_option linter.all false
open Go Go.Proofs.Ytnkakhmmlgkbgaa.Eng Go.RowKit
noncomputable section
theorem hd1 : decide ((50 : Int) = 2) = false := rfl
theorem hd2 : decide ((50 : Int) = 0) = false := rfl
theorem hd3 : decide ((2 : Int) = 0) = false := rfl
theorem hd4 : decide ((2 : Int) = 50) = false := rfl
namespace X7a9b352
def XX := (And.intro (And.intro @tdiv8 (And.intro @tmod8 @toNatAddI)) (And.intro @toNatSubI (And.intro @takeAll @takeDropAll)))
def XN := @Nat.zero_add
def XR := (And.intro @rBy.eq_1 (And.intro @rSup.eq_1 @supP_len))
def XH := @Nat.zero_add
def XG := @Nat.zero_add
end X7a9b352
set_option maxHeartbeats 4000000 in
set_option maxRecDepth 10000 in
open X7a9b352 in
theorem k_law06_SuperSum (s : Sup) : Con Try.prog 8 [supA s] [rB true] := by
  refine con_of_awp hmix Try.func8 s8 rfl (by rw [n8]; simp) r8 n8 ?_
  simp only [Eng.start, startFr, inX, sN, vN, List.map_cons, List.map_nil, supA, supC, c8]
  (repeat' (first
    | (refine aCallF 13 ?_; apply aE3; exact k_alive6; exact flatA; refine aPost ?_)
    | (refine aCallF 17 ?_; apply aE3; exact k_ref06_Check _; exact flatA; refine aPost ?_)
    | (refine aCallF 10 ?_; apply aE3; exact k_super_Check _; exact flatA; refine aPost ?_)
    | refine aOp ?_
    | refine aOff1 ?_
    | refine aOff2 ?_
    | (refine aSplit ?_ ?_ <;> intro hsp)
    | (refine RegA.done ‹_› ?_; first | refine aKeep [0, 1, 2, 3, 4, 5, 6, 9, 27] ?_ | skip)
    | refine awp_seq fun K hK => ?_
    | refine Awp.reg ?_
    | (refine aNcall (f := 13) ?_; apply aE6; exact k_alive6; (refine aNr (by simp only [unV', unX, unXs, unC, unL, rN, rB, List.append_nil, List.nil_append, rBy, rSup, supP_len]; rfl) rfl rfl); (first | exact .inl rfl | exact .inr flatA); refine aNpost ?_)
    | (refine aNcall (f := 17) ?_; apply aE6; exact k_ref06_Check _; (refine aNr (by simp only [unV', unX, unXs, unC, unL, rN, rB, List.append_nil, List.nil_append, rBy, rSup, supP_len]; rfl) rfl rfl); (first | exact .inl rfl | exact .inr flatA); refine aNpost ?_)
    | (refine aNcall (f := 10) ?_; apply aE6; exact k_super_Check _; (refine aNr (by simp only [unV', unX, unXs, unC, unL, rN, rB, List.append_nil, List.nil_append, rBy, rSup, supP_len]; rfl) rfl rfl); (first | exact .inl rfl | exact .inr flatA); refine aNpost ?_)
    | refine aNop ?_
    | refine aNoff1 ?_
    | refine aNoff2 ?_
    | (refine aNsplit ?_ ?_ <;> intro hsp)
    | refine aNnil ?_
    | refine aDrawN 25 [[], [0], [1], [2], [3, 2], [4, 2], [2], [5, 6, 2], [2, 7], [8, 2], [9], [10, 9], [11, 9], [9], [13, 9], [14, 9], [12, 15, 9], [9, 16], [17, 9], [18], [19, 18], [20, 18], [18], [22, 18], [23, 18], [21, 24, 18], [18, 25], [26, 18], [27], [28, 27], [29, 27], [30, 27], [27, 31], [32, 27], [33], [34, 33], [35, 33], [36, 33], [33, 37], [38, 33], [39], [40, 39], [41, 39], [42, 39], [39, 43], [44, 39], [45], [46, 45, 45], [47, 45], [45, 48], [49, 47], [50, 50], [50, 51], [52, 51, 0, 1, 2, 3, 4, 5, 6, 7, 8, 9, 10, 11, 12, 13, 14, 15, 16, 17, 18, 19, 20, 21, 22, 23, 24, 25, 26, 27, 28, 29, 30, 31, 32, 33, 34, 35, 36, 37, 38, 39, 40, 41, 42, 43, 44, 45, 46, 47, 48, 49, 50, 51, 52]] [[], [0], [1, 0], [2, 1, 0], [3, 2, 1, 0], [4, 2, 3, 1, 0], [2, 1, 0], [5, 6, 2, 4, 3, 1, 0], [2, 7, 1, 0, 5, 6, 4, 3], [8, 2, 7, 1, 0, 5, 6, 4, 3], [9, 8, 2, 7, 1, 0, 5, 6, 4, 3], [10, 9, 8, 2, 7, 1, 0, 5, 6, 4, 3], [11, 9, 10, 8, 2, 7, 1, 0, 5, 6, 4, 3], [9, 8, 2, 7, 1, 0, 5, 6, 4, 3], [13, 9, 8, 2, 7, 1, 0, 5, 6, 4, 3], [14, 9, 13, 8, 2, 7, 1, 0, 5, 6, 4, 3], [12, 15, 9, 11, 10, 8, 2, 7, 1, 0, 5, 6, 4, 3, 14, 13], [9, 16, 8, 2, 7, 1, 0, 5, 6, 4, 3, 12, 15, 11, 10, 14, 13], [17, 9, 16, 8, 2, 7, 1, 0, 5, 6, 4, 3, 12, 15, 11, 10, 14, 13], [18, 17, 9, 16, 8, 2, 7, 1, 0, 5, 6, 4, 3, 12, 15, 11, 10, 14, 13], [19, 18, 17, 9, 16, 8, 2, 7, 1, 0, 5, 6, 4, 3, 12, 15, 11, 10, 14, 13], [20, 18, 19, 17, 9, 16, 8, 2, 7, 1, 0, 5, 6, 4, 3, 12, 15, 11, 10, 14, 13], [18, 17, 9, 16, 8, 2, 7, 1, 0, 5, 6, 4, 3, 12, 15, 11, 10, 14, 13], [22, 18, 17, 9, 16, 8, 2, 7, 1, 0, 5, 6, 4, 3, 12, 15, 11, 10, 14, 13], [23, 18, 22, 17, 9, 16, 8, 2, 7, 1, 0, 5, 6, 4, 3, 12, 15, 11, 10, 14, 13], [21, 24, 18, 20, 19, 17, 9, 16, 8, 2, 7, 1, 0, 5, 6, 4, 3, 12, 15, 11, 10, 14, 13, 23, 22], [18, 25, 17, 9, 16, 8, 2, 7, 1, 0, 5, 6, 4, 3, 12, 15, 11, 10, 14, 13, 21, 24, 20, 19, 23, 22], [26, 18, 25, 17, 9, 16, 8, 2, 7, 1, 0, 5, 6, 4, 3, 12, 15, 11, 10, 14, 13, 21, 24, 20, 19, 23, 22], [27, 26, 18, 25, 17, 9, 16, 8, 2, 7, 1, 0, 5, 6, 4, 3, 12, 15, 11, 10, 14, 13, 21, 24, 20, 19, 23, 22], [28, 27, 26, 18, 25, 17, 9, 16, 8, 2, 7, 1, 0, 5, 6, 4, 3, 12, 15, 11, 10, 14, 13, 21, 24, 20, 19, 23, 22], [29, 27, 28, 26, 18, 25, 17, 9, 16, 8, 2, 7, 1, 0, 5, 6, 4, 3, 12, 15, 11, 10, 14, 13, 21, 24, 20, 19, 23, 22], [30, 27, 29, 28, 26, 18, 25, 17, 9, 16, 8, 2, 7, 1, 0, 5, 6, 4, 3, 12, 15, 11, 10, 14, 13, 21, 24, 20, 19, 23, 22], [27, 31, 26, 18, 25, 17, 9, 16, 8, 2, 7, 1, 0, 5, 6, 4, 3, 12, 15, 11, 10, 14, 13, 21, 24, 20, 19, 23, 22, 30, 29, 28], [32, 27, 31, 26, 18, 25, 17, 9, 16, 8, 2, 7, 1, 0, 5, 6, 4, 3, 12, 15, 11, 10, 14, 13, 21, 24, 20, 19, 23, 22, 30, 29, 28], [33, 32, 27, 31, 26, 18, 25, 17, 9, 16, 8, 2, 7, 1, 0, 5, 6, 4, 3, 12, 15, 11, 10, 14, 13, 21, 24, 20, 19, 23, 22, 30, 29, 28], [34, 33, 32, 27, 31, 26, 18, 25, 17, 9, 16, 8, 2, 7, 1, 0, 5, 6, 4, 3, 12, 15, 11, 10, 14, 13, 21, 24, 20, 19, 23, 22, 30, 29, 28], [35, 33, 34, 32, 27, 31, 26, 18, 25, 17, 9, 16, 8, 2, 7, 1, 0, 5, 6, 4, 3, 12, 15, 11, 10, 14, 13, 21, 24, 20, 19, 23, 22, 30, 29, 28], [36, 33, 35, 34, 32, 27, 31, 26, 18, 25, 17, 9, 16, 8, 2, 7, 1, 0, 5, 6, 4, 3, 12, 15, 11, 10, 14, 13, 21, 24, 20, 19, 23, 22, 30, 29, 28], [33, 37, 32, 27, 31, 26, 18, 25, 17, 9, 16, 8, 2, 7, 1, 0, 5, 6, 4, 3, 12, 15, 11, 10, 14, 13, 21, 24, 20, 19, 23, 22, 30, 29, 28, 36, 35, 34], [38, 33, 37, 32, 27, 31, 26, 18, 25, 17, 9, 16, 8, 2, 7, 1, 0, 5, 6, 4, 3, 12, 15, 11, 10, 14, 13, 21, 24, 20, 19, 23, 22, 30, 29, 28, 36, 35, 34], [39, 38, 33, 37, 32, 27, 31, 26, 18, 25, 17, 9, 16, 8, 2, 7, 1, 0, 5, 6, 4, 3, 12, 15, 11, 10, 14, 13, 21, 24, 20, 19, 23, 22, 30, 29, 28, 36, 35, 34], [40, 39, 38, 33, 37, 32, 27, 31, 26, 18, 25, 17, 9, 16, 8, 2, 7, 1, 0, 5, 6, 4, 3, 12, 15, 11, 10, 14, 13, 21, 24, 20, 19, 23, 22, 30, 29, 28, 36, 35, 34], [41, 39, 40, 38, 33, 37, 32, 27, 31, 26, 18, 25, 17, 9, 16, 8, 2, 7, 1, 0, 5, 6, 4, 3, 12, 15, 11, 10, 14, 13, 21, 24, 20, 19, 23, 22, 30, 29, 28, 36, 35, 34], [42, 39, 41, 40, 38, 33, 37, 32, 27, 31, 26, 18, 25, 17, 9, 16, 8, 2, 7, 1, 0, 5, 6, 4, 3, 12, 15, 11, 10, 14, 13, 21, 24, 20, 19, 23, 22, 30, 29, 28, 36, 35, 34], [39, 43, 38, 33, 37, 32, 27, 31, 26, 18, 25, 17, 9, 16, 8, 2, 7, 1, 0, 5, 6, 4, 3, 12, 15, 11, 10, 14, 13, 21, 24, 20, 19, 23, 22, 30, 29, 28, 36, 35, 34, 42, 41, 40], [44, 39, 43, 38, 33, 37, 32, 27, 31, 26, 18, 25, 17, 9, 16, 8, 2, 7, 1, 0, 5, 6, 4, 3, 12, 15, 11, 10, 14, 13, 21, 24, 20, 19, 23, 22, 30, 29, 28, 36, 35, 34, 42, 41, 40], [45, 44, 39, 43, 38, 33, 37, 32, 27, 31, 26, 18, 25, 17, 9, 16, 8, 2, 7, 1, 0, 5, 6, 4, 3, 12, 15, 11, 10, 14, 13, 21, 24, 20, 19, 23, 22, 30, 29, 28, 36, 35, 34, 42, 41, 40], [46, 45, 44, 39, 43, 38, 33, 37, 32, 27, 31, 26, 18, 25, 17, 9, 16, 8, 2, 7, 1, 0, 5, 6, 4, 3, 12, 15, 11, 10, 14, 13, 21, 24, 20, 19, 23, 22, 30, 29, 28, 36, 35, 34, 42, 41, 40], [47, 45, 46, 44, 39, 43, 38, 33, 37, 32, 27, 31, 26, 18, 25, 17, 9, 16, 8, 2, 7, 1, 0, 5, 6, 4, 3, 12, 15, 11, 10, 14, 13, 21, 24, 20, 19, 23, 22, 30, 29, 28, 36, 35, 34, 42, 41, 40], [45, 48, 44, 39, 43, 38, 33, 37, 32, 27, 31, 26, 18, 25, 17, 9, 16, 8, 2, 7, 1, 0, 5, 6, 4, 3, 12, 15, 11, 10, 14, 13, 21, 24, 20, 19, 23, 22, 30, 29, 28, 36, 35, 34, 42, 41, 40, 47, 46], [49, 47, 45, 48, 44, 39, 43, 38, 33, 37, 32, 27, 31, 26, 18, 25, 17, 9, 16, 8, 2, 7, 1, 0, 5, 6, 4, 3, 12, 15, 11, 10, 14, 13, 21, 24, 20, 19, 23, 22, 30, 29, 28, 36, 35, 34, 42, 41, 40, 46], [50, 49, 47, 45, 48, 44, 39, 43, 38, 33, 37, 32, 27, 31, 26, 18, 25, 17, 9, 16, 8, 2, 7, 1, 0, 5, 6, 4, 3, 12, 15, 11, 10, 14, 13, 21, 24, 20, 19, 23, 22, 30, 29, 28, 36, 35, 34, 42, 41, 40, 46], [50, 51, 49, 47, 45, 48, 44, 39, 43, 38, 33, 37, 32, 27, 31, 26, 18, 25, 17, 9, 16, 8, 2, 7, 1, 0, 5, 6, 4, 3, 12, 15, 11, 10, 14, 13, 21, 24, 20, 19, 23, 22, 30, 29, 28, 36, 35, 34, 42, 41, 40, 46], [52, 51, 0, 1, 2, 3, 4, 5, 6, 7, 8, 9, 10, 11, 12, 13, 14, 15, 16, 17, 18, 19, 20, 21, 22, 23, 24, 25, 26, 27, 28, 29, 30, 31, 32, 33, 34, 35, 36, 37, 38, 39, 40, 41, 42, 43, 44, 45, 46, 47, 48, 49, 50]] ?_
    | refine Awp.skip ?_
    | refine Awp.block ?_
    | refine Awp.scope ?_
    | refine aCt ?_
    | refine aCf ?_
    | (refine aCond ?_ ?_ <;> intro hsp)
    | (refine Awp.exit ?_; simp only [blockQ, thenQ, scopeQ, ↓reduceIte, Nat.reduceEqDiff])
    | (refine viaK ‹_› ?_; first | refine aKeep [0, 1, 2, 3, 4, 5, 6, 9, 27] ?_ | skip)
    | simp only [thenQ_normal, blockQ_normal]))
  · (refine Awp.ret ?_; refine aRet ?_; (simp [-List.getD_eq_getElem?_getD, laxR, laxX, laxC, laxCs, rB, rN, rO, rBy, rSup, supP_len] <;> (intros; omega)))
  · exact absurd (supE_8 ‹¬ supE s = 0›) ‹¬ supE s = 8›
  · have hs := supE_iff.1 ‹supE s = 0›
    have e1 := supW_yes hs
    have e2 := ‹supE s = 0›
    have l1 := supL_len s
    have l2 := supP_len s
    have g2 := (supL_get s).1
    have g3 := (supL_get s).2
    have g4 := (supL_get4 s).1
    have g5 := (supL_get4 s).2.1
    have g6 := (supL_get4 s).2.2
    have g7 := supL_get7 s
    have e3 := nextV_yes 14695981039346656037 (l := supP s) (by omega)
    have e4 := nextE_yes (l := supP s) (by omega)
    have ew := (sup_wrap hs).1
    have et := (sup_wrap hs).2
    (have XH := (And.intro (And.intro (And.intro @eq_self.{1} @eqs_sup) (And.intro @sup_eta @hc8)) (And.intro (And.intro @sub70 @List.drop_zero.{0}) (And.intro @l1 (And.intro @l2 @supL_take7)))); have XG := (And.intro (And.intro (And.intro (And.intro @hc8 @e1) (And.intro @e2 @e3)) (And.intro (And.intro @e4 @l1) (And.intro @l2 @g2))) (And.intro (And.intro (And.intro @g3 @g4) (And.intro @g5 @g6)) (And.intro (And.intro @g7 @ew) (And.intro @et @supL_take7)))); (repeat' (first
        | (refine aCall 9 ?_; apply aE2; exact k_super_Write _; refine aPost ?_)
        | (refine aCallF 10 ?_; apply aE3; exact k_super_Check _; exact flatA; refine aPost ?_)
        | (refine aCallF 11 ?_; apply aE3; exact k_sum_Of (supP s) (by omega); exact flatA; refine aPost ?_)
        | (refine aCallF 13 ?_; apply aE3; exact k_alive6; exact flatA; refine aPost ?_)
        | refine aOp ?_
        | refine aOff1 ?_
        | refine aOff2 ?_
        | (refine aSplit ?_ ?_ <;> intro hsp)
        | (refine RegA.done ‹_› ?_; first | refine aKeep [0, 1, 2, 3, 4, 5, 6, 9, 27] ?_ | skip)
        | refine awp_seq fun K hK => ?_
        | refine Awp.reg ?_
        | (refine aNcall (f := 10) ?_; apply aE6; exact k_super_Check _; (refine aNr (by simp only [unV', unX, unXs, unC, unL, rN, rB, List.append_nil, List.nil_append, rBy, rSup, supP_len]; rfl) rfl rfl); (first | exact .inl rfl | exact .inr flatA); refine aNpost ?_)
        | (refine aNcall (f := 11) ?_; apply aE6; exact k_sum_Of (supP s) (by omega); (refine aNr (by simp only [unV', unX, unXs, unC, unL, rN, rB, List.append_nil, List.nil_append, rBy, rSup, supP_len]; rfl) rfl rfl); (first | exact .inl rfl | exact .inr flatA); refine aNpost ?_)
        | (refine aNcall (f := 13) ?_; apply aE6; exact k_alive6; (refine aNr (by simp only [unV', unX, unXs, unC, unL, rN, rB, List.append_nil, List.nil_append, rBy, rSup, supP_len]; rfl) rfl rfl); (first | exact .inl rfl | exact .inr flatA); refine aNpost ?_)
        | refine aNop ?_
        | refine aNoff1 ?_
        | refine aNoff2 ?_
        | (refine aNsplit ?_ ?_ <;> intro hsp)
        | refine aNnil ?_
        | refine aDrawN 25 [[], [0], [1], [2], [3, 2], [4, 2], [2], [5, 6, 2], [2, 7], [8, 2], [9], [10, 9], [11, 9], [9], [13, 9], [14, 9], [12, 15, 9], [9, 16], [17, 9], [18], [19, 18], [20, 18], [18], [22, 18], [23, 18], [21, 24, 18], [18, 25], [26, 18], [27], [28, 27], [29, 27], [30, 27], [27, 31], [32, 27], [33], [34, 33], [35, 33], [36, 33], [33, 37], [38, 33], [39], [40, 39], [41, 39], [42, 39], [39, 43], [44, 39], [45], [46, 45, 45], [47, 45], [45, 48], [49, 47], [50, 50], [50, 51], [52, 51, 0, 1, 2, 3, 4, 5, 6, 7, 8, 9, 10, 11, 12, 13, 14, 15, 16, 17, 18, 19, 20, 21, 22, 23, 24, 25, 26, 27, 28, 29, 30, 31, 32, 33, 34, 35, 36, 37, 38, 39, 40, 41, 42, 43, 44, 45, 46, 47, 48, 49, 50, 51, 52]] [[], [0], [1, 0], [2, 1, 0], [3, 2, 1, 0], [4, 2, 3, 1, 0], [2, 1, 0], [5, 6, 2, 4, 3, 1, 0], [2, 7, 1, 0, 5, 6, 4, 3], [8, 2, 7, 1, 0, 5, 6, 4, 3], [9, 8, 2, 7, 1, 0, 5, 6, 4, 3], [10, 9, 8, 2, 7, 1, 0, 5, 6, 4, 3], [11, 9, 10, 8, 2, 7, 1, 0, 5, 6, 4, 3], [9, 8, 2, 7, 1, 0, 5, 6, 4, 3], [13, 9, 8, 2, 7, 1, 0, 5, 6, 4, 3], [14, 9, 13, 8, 2, 7, 1, 0, 5, 6, 4, 3], [12, 15, 9, 11, 10, 8, 2, 7, 1, 0, 5, 6, 4, 3, 14, 13], [9, 16, 8, 2, 7, 1, 0, 5, 6, 4, 3, 12, 15, 11, 10, 14, 13], [17, 9, 16, 8, 2, 7, 1, 0, 5, 6, 4, 3, 12, 15, 11, 10, 14, 13], [18, 17, 9, 16, 8, 2, 7, 1, 0, 5, 6, 4, 3, 12, 15, 11, 10, 14, 13], [19, 18, 17, 9, 16, 8, 2, 7, 1, 0, 5, 6, 4, 3, 12, 15, 11, 10, 14, 13], [20, 18, 19, 17, 9, 16, 8, 2, 7, 1, 0, 5, 6, 4, 3, 12, 15, 11, 10, 14, 13], [18, 17, 9, 16, 8, 2, 7, 1, 0, 5, 6, 4, 3, 12, 15, 11, 10, 14, 13], [22, 18, 17, 9, 16, 8, 2, 7, 1, 0, 5, 6, 4, 3, 12, 15, 11, 10, 14, 13], [23, 18, 22, 17, 9, 16, 8, 2, 7, 1, 0, 5, 6, 4, 3, 12, 15, 11, 10, 14, 13], [21, 24, 18, 20, 19, 17, 9, 16, 8, 2, 7, 1, 0, 5, 6, 4, 3, 12, 15, 11, 10, 14, 13, 23, 22], [18, 25, 17, 9, 16, 8, 2, 7, 1, 0, 5, 6, 4, 3, 12, 15, 11, 10, 14, 13, 21, 24, 20, 19, 23, 22], [26, 18, 25, 17, 9, 16, 8, 2, 7, 1, 0, 5, 6, 4, 3, 12, 15, 11, 10, 14, 13, 21, 24, 20, 19, 23, 22], [27, 26, 18, 25, 17, 9, 16, 8, 2, 7, 1, 0, 5, 6, 4, 3, 12, 15, 11, 10, 14, 13, 21, 24, 20, 19, 23, 22], [28, 27, 26, 18, 25, 17, 9, 16, 8, 2, 7, 1, 0, 5, 6, 4, 3, 12, 15, 11, 10, 14, 13, 21, 24, 20, 19, 23, 22], [29, 27, 28, 26, 18, 25, 17, 9, 16, 8, 2, 7, 1, 0, 5, 6, 4, 3, 12, 15, 11, 10, 14, 13, 21, 24, 20, 19, 23, 22], [30, 27, 29, 28, 26, 18, 25, 17, 9, 16, 8, 2, 7, 1, 0, 5, 6, 4, 3, 12, 15, 11, 10, 14, 13, 21, 24, 20, 19, 23, 22], [27, 31, 26, 18, 25, 17, 9, 16, 8, 2, 7, 1, 0, 5, 6, 4, 3, 12, 15, 11, 10, 14, 13, 21, 24, 20, 19, 23, 22, 30, 29, 28], [32, 27, 31, 26, 18, 25, 17, 9, 16, 8, 2, 7, 1, 0, 5, 6, 4, 3, 12, 15, 11, 10, 14, 13, 21, 24, 20, 19, 23, 22, 30, 29, 28], [33, 32, 27, 31, 26, 18, 25, 17, 9, 16, 8, 2, 7, 1, 0, 5, 6, 4, 3, 12, 15, 11, 10, 14, 13, 21, 24, 20, 19, 23, 22, 30, 29, 28], [34, 33, 32, 27, 31, 26, 18, 25, 17, 9, 16, 8, 2, 7, 1, 0, 5, 6, 4, 3, 12, 15, 11, 10, 14, 13, 21, 24, 20, 19, 23, 22, 30, 29, 28], [35, 33, 34, 32, 27, 31, 26, 18, 25, 17, 9, 16, 8, 2, 7, 1, 0, 5, 6, 4, 3, 12, 15, 11, 10, 14, 13, 21, 24, 20, 19, 23, 22, 30, 29, 28], [36, 33, 35, 34, 32, 27, 31, 26, 18, 25, 17, 9, 16, 8, 2, 7, 1, 0, 5, 6, 4, 3, 12, 15, 11, 10, 14, 13, 21, 24, 20, 19, 23, 22, 30, 29, 28], [33, 37, 32, 27, 31, 26, 18, 25, 17, 9, 16, 8, 2, 7, 1, 0, 5, 6, 4, 3, 12, 15, 11, 10, 14, 13, 21, 24, 20, 19, 23, 22, 30, 29, 28, 36, 35, 34], [38, 33, 37, 32, 27, 31, 26, 18, 25, 17, 9, 16, 8, 2, 7, 1, 0, 5, 6, 4, 3, 12, 15, 11, 10, 14, 13, 21, 24, 20, 19, 23, 22, 30, 29, 28, 36, 35, 34], [39, 38, 33, 37, 32, 27, 31, 26, 18, 25, 17, 9, 16, 8, 2, 7, 1, 0, 5, 6, 4, 3, 12, 15, 11, 10, 14, 13, 21, 24, 20, 19, 23, 22, 30, 29, 28, 36, 35, 34], [40, 39, 38, 33, 37, 32, 27, 31, 26, 18, 25, 17, 9, 16, 8, 2, 7, 1, 0, 5, 6, 4, 3, 12, 15, 11, 10, 14, 13, 21, 24, 20, 19, 23, 22, 30, 29, 28, 36, 35, 34], [41, 39, 40, 38, 33, 37, 32, 27, 31, 26, 18, 25, 17, 9, 16, 8, 2, 7, 1, 0, 5, 6, 4, 3, 12, 15, 11, 10, 14, 13, 21, 24, 20, 19, 23, 22, 30, 29, 28, 36, 35, 34], [42, 39, 41, 40, 38, 33, 37, 32, 27, 31, 26, 18, 25, 17, 9, 16, 8, 2, 7, 1, 0, 5, 6, 4, 3, 12, 15, 11, 10, 14, 13, 21, 24, 20, 19, 23, 22, 30, 29, 28, 36, 35, 34], [39, 43, 38, 33, 37, 32, 27, 31, 26, 18, 25, 17, 9, 16, 8, 2, 7, 1, 0, 5, 6, 4, 3, 12, 15, 11, 10, 14, 13, 21, 24, 20, 19, 23, 22, 30, 29, 28, 36, 35, 34, 42, 41, 40], [44, 39, 43, 38, 33, 37, 32, 27, 31, 26, 18, 25, 17, 9, 16, 8, 2, 7, 1, 0, 5, 6, 4, 3, 12, 15, 11, 10, 14, 13, 21, 24, 20, 19, 23, 22, 30, 29, 28, 36, 35, 34, 42, 41, 40], [45, 44, 39, 43, 38, 33, 37, 32, 27, 31, 26, 18, 25, 17, 9, 16, 8, 2, 7, 1, 0, 5, 6, 4, 3, 12, 15, 11, 10, 14, 13, 21, 24, 20, 19, 23, 22, 30, 29, 28, 36, 35, 34, 42, 41, 40], [46, 45, 44, 39, 43, 38, 33, 37, 32, 27, 31, 26, 18, 25, 17, 9, 16, 8, 2, 7, 1, 0, 5, 6, 4, 3, 12, 15, 11, 10, 14, 13, 21, 24, 20, 19, 23, 22, 30, 29, 28, 36, 35, 34, 42, 41, 40], [47, 45, 46, 44, 39, 43, 38, 33, 37, 32, 27, 31, 26, 18, 25, 17, 9, 16, 8, 2, 7, 1, 0, 5, 6, 4, 3, 12, 15, 11, 10, 14, 13, 21, 24, 20, 19, 23, 22, 30, 29, 28, 36, 35, 34, 42, 41, 40], [45, 48, 44, 39, 43, 38, 33, 37, 32, 27, 31, 26, 18, 25, 17, 9, 16, 8, 2, 7, 1, 0, 5, 6, 4, 3, 12, 15, 11, 10, 14, 13, 21, 24, 20, 19, 23, 22, 30, 29, 28, 36, 35, 34, 42, 41, 40, 47, 46], [49, 47, 45, 48, 44, 39, 43, 38, 33, 37, 32, 27, 31, 26, 18, 25, 17, 9, 16, 8, 2, 7, 1, 0, 5, 6, 4, 3, 12, 15, 11, 10, 14, 13, 21, 24, 20, 19, 23, 22, 30, 29, 28, 36, 35, 34, 42, 41, 40, 46], [50, 49, 47, 45, 48, 44, 39, 43, 38, 33, 37, 32, 27, 31, 26, 18, 25, 17, 9, 16, 8, 2, 7, 1, 0, 5, 6, 4, 3, 12, 15, 11, 10, 14, 13, 21, 24, 20, 19, 23, 22, 30, 29, 28, 36, 35, 34, 42, 41, 40, 46], [50, 51, 49, 47, 45, 48, 44, 39, 43, 38, 33, 37, 32, 27, 31, 26, 18, 25, 17, 9, 16, 8, 2, 7, 1, 0, 5, 6, 4, 3, 12, 15, 11, 10, 14, 13, 21, 24, 20, 19, 23, 22, 30, 29, 28, 36, 35, 34, 42, 41, 40, 46], [52, 51, 0, 1, 2, 3, 4, 5, 6, 7, 8, 9, 10, 11, 12, 13, 14, 15, 16, 17, 18, 19, 20, 21, 22, 23, 24, 25, 26, 27, 28, 29, 30, 31, 32, 33, 34, 35, 36, 37, 38, 39, 40, 41, 42, 43, 44, 45, 46, 47, 48, 49, 50]] ?_
        | refine Awp.skip ?_
        | refine Awp.block ?_
        | refine Awp.scope ?_
        | refine aCt ?_
        | refine aCf ?_
        | (refine aCond ?_ ?_ <;> intro hsp)
        | (refine Awp.exit ?_; simp only [blockQ, thenQ, scopeQ, ↓reduceIte, Nat.reduceEqDiff])
        | (refine viaK ‹_› ?_; first | refine aKeep [0, 1, 2, 3, 4, 5, 6, 9, 27] ?_ | skip)
        | simp only [thenQ_normal, blockQ_normal])); all_goals (clear XH; clear XG))
    (refine Awp.ret ?_; refine aRet ?_; (simp [-List.getD_eq_getElem?_getD, laxR, laxX, laxC, laxCs, rB, rN, rO, rBy, rSup, supP_len] <;> (intros; omega)))
theorem supZ (a b : Int) (h : (⟨a, b⟩ : Sup) = ⟨0, 0⟩) : a = 0 ∧ b = 0 := by cases h; exact ⟨rfl, rfl⟩
set_option maxHeartbeats 4000000 in
set_option maxRecDepth 10000 in
open X7a9b352 in
theorem k_law06_SuperOnce (l : List Int) (hl : ∀ x ∈ l, isU x) : Con Try.prog 6 [sN .u64 l] [rB true] := by
  refine con_of_awp hmix Try.func6 s6 rfl (by rw [n6]; simp) r6 n6 ?_
  simp only [Eng.start, startFr, inX, sN, vN, List.map_cons, List.map_nil, supA, supC, c6]
  (repeat' (first
    | (refine aCallF 13 ?_; apply aE3; exact k_alive6; exact flatA; refine aPost ?_)
    | refine aOp ?_
    | refine aOff1 ?_
    | refine aOff2 ?_
    | (refine aSplit ?_ ?_ <;> intro hsp)
    | (refine RegA.done ‹_› ?_; first | refine aKeep [0, 2, 3, 4, 5, 6, 9, 17] ?_ | skip)
    | refine awp_seq fun K hK => ?_
    | refine Awp.reg ?_
    | refine Awp.skip ?_
    | refine Awp.block ?_
    | refine Awp.scope ?_
    | refine aCt ?_
    | refine aCf ?_
    | (refine aCond ?_ ?_ <;> intro hsp)
    | (refine Awp.exit ?_; simp only [blockQ, thenQ, scopeQ, ↓reduceIte, Nat.reduceEqDiff])
    | (refine viaK ‹_› ?_; first | refine aKeep [0, 2, 3, 4, 5, 6, 9, 17] ?_ | skip)
    | simp only [thenQ_normal, blockQ_normal]))
  · (refine Awp.ret ?_; refine aRet ?_; (simp [-List.getD_eq_getElem?_getD, laxR, laxX, laxC, laxCs, rB, rN, rO, rBy, rSup, supP_len] <;> (intros; omega)))
  · rcases readE_or l with h | ⟨h, h8⟩ | ⟨h, h8⟩
    · have hi := readE_is h
      have e1 := readV_0 h
      have e2 := supW_yes hi.2.1
      have e3 := hi.2.2
      have e4 := supE_yes hi.2.1
      (have XH := (And.intro (And.intro (And.intro @eq_self.{1} @eqs_sup) (And.intro @sup_eta @hc8)) (And.intro (And.intro @h @e1) (And.intro @e2 (And.intro @e3 @e4)))); have XG := (And.intro (And.intro @h @e1) (And.intro @e2 (And.intro @e3 @e4))); (repeat' (first
          | (refine aCallF 13 ?_; apply aE3; exact k_alive6; exact flatA; refine aPost ?_)
          | (refine aCallF 12 ?_; apply aE3; exact k_super_Read l hl (by omega); exact flatA; refine aPost ?_)
          | (refine aCall 9 ?_; apply aE2; exact k_super_Write (supAt l); refine aPost ?_)
          | (refine aCallF 17 ?_; apply aE3; exact k_ref06_Check (supAt l); exact flatA; refine aPost ?_)
          | (refine aCallF 18 ?_; apply aE3; exact k_ref02_Same _ _ (by first | omega | (simp; omega)) (by first | omega | (simp; omega)); exact flatA; refine aPost ?_)
          | refine aOp ?_
          | refine aOff1 ?_
          | refine aOff2 ?_
          | (refine aSplit ?_ ?_ <;> intro hsp)
          | (refine RegA.done ‹_› ?_; first | refine aKeep [0, 2, 3, 4, 5, 6, 9, 17] ?_ | skip)
          | refine awp_seq fun K hK => ?_
          | refine Awp.reg ?_
          | refine Awp.skip ?_
          | refine Awp.block ?_
          | refine Awp.scope ?_
          | refine aCt ?_
          | refine aCf ?_
          | (refine aCond ?_ ?_ <;> intro hsp)
          | (refine Awp.exit ?_; simp only [blockQ, thenQ, scopeQ, ↓reduceIte, Nat.reduceEqDiff])
          | (refine viaK ‹_› ?_; first | refine aKeep [0, 2, 3, 4, 5, 6, 9, 17] ?_ | skip)
          | simp only [thenQ_normal, blockQ_normal])); all_goals (clear XH; clear XG))
      (refine Awp.ret ?_; refine aRet ?_; (simp [-List.getD_eq_getElem?_getD, laxR, laxX, laxC, laxCs, rB, rN, rO, rBy, rSup, supP_len] <;> (intros; omega)))
    · have e1 := readV_bad h (by omega)
      have e2 : decide ((l.length : Int) = 8) = true := decide_eq_true (by omega)
      (have XH := (And.intro (And.intro (And.intro @eq_self.{1} @eqs_sup) (And.intro @sup_eta (And.intro @hc8 @hd1))) (And.intro (And.intro @hd2 (And.intro @hd3 @hd4)) (And.intro @h (And.intro @e1 @e2)))); have XG := (And.intro (And.intro @hd1 (And.intro @hd2 @hd3)) (And.intro (And.intro @hd4 @h) (And.intro @e1 @e2))); (repeat' (first
          | (refine aCallF 13 ?_; apply aE3; exact k_alive6; exact flatA; refine aPost ?_)
          | (refine aCallF 12 ?_; apply aE3; exact k_super_Read l hl (by omega); exact flatA; refine aPost ?_)
          | refine aOp ?_
          | refine aOff1 ?_
          | refine aOff2 ?_
          | (refine aSplit ?_ ?_ <;> intro hsp)
          | (refine RegA.done ‹_› ?_; first | refine aKeep [0, 2, 3, 4, 5, 6, 9, 17] ?_ | skip)
          | refine awp_seq fun K hK => ?_
          | refine Awp.reg ?_
          | refine Awp.skip ?_
          | refine Awp.block ?_
          | refine Awp.scope ?_
          | refine aCt ?_
          | refine aCf ?_
          | (refine aCond ?_ ?_ <;> intro hsp)
          | (refine Awp.exit ?_; simp only [blockQ, thenQ, scopeQ, ↓reduceIte, Nat.reduceEqDiff])
          | (refine viaK ‹_› ?_; first | refine aKeep [0, 2, 3, 4, 5, 6, 9, 17] ?_ | skip)
          | simp only [thenQ_normal, blockQ_normal])); all_goals (clear XH; clear XG))
      (refine Awp.ret ?_; refine aRet ?_; (simp [-List.getD_eq_getElem?_getD, laxR, laxX, laxC, laxCs, rB, rN, rO, rBy, rSup, supP_len] <;> (intros; omega)))
    · have e1 := readV_bad h (by omega)
      have e2 : decide ((l.length : Int) = 8) = false := decide_eq_false (by omega)
      (have XH := (And.intro (And.intro (And.intro @eq_self.{1} @eqs_sup) (And.intro @sup_eta (And.intro @hc8 @hd1))) (And.intro (And.intro @hd2 (And.intro @hd3 @hd4)) (And.intro @h (And.intro @e1 @e2)))); have XG := (And.intro (And.intro @hd1 (And.intro @hd2 @hd3)) (And.intro (And.intro @hd4 @h) (And.intro @e1 @e2))); (repeat' (first
          | (refine aCallF 13 ?_; apply aE3; exact k_alive6; exact flatA; refine aPost ?_)
          | (refine aCallF 12 ?_; apply aE3; exact k_super_Read l hl (by omega); exact flatA; refine aPost ?_)
          | refine aOp ?_
          | refine aOff1 ?_
          | refine aOff2 ?_
          | (refine aSplit ?_ ?_ <;> intro hsp)
          | (refine RegA.done ‹_› ?_; first | refine aKeep [0, 2, 3, 4, 5, 6, 9, 17] ?_ | skip)
          | refine awp_seq fun K hK => ?_
          | refine Awp.reg ?_
          | refine Awp.skip ?_
          | refine Awp.block ?_
          | refine Awp.scope ?_
          | refine aCt ?_
          | refine aCf ?_
          | (refine aCond ?_ ?_ <;> intro hsp)
          | (refine Awp.exit ?_; simp only [blockQ, thenQ, scopeQ, ↓reduceIte, Nat.reduceEqDiff])
          | (refine viaK ‹_› ?_; first | refine aKeep [0, 2, 3, 4, 5, 6, 9, 17] ?_ | skip)
          | simp only [thenQ_normal, blockQ_normal])); all_goals (clear XH; clear XG))
      (refine Awp.ret ?_; refine aRet ?_; (simp [-List.getD_eq_getElem?_getD, laxR, laxX, laxC, laxCs, rB, rN, rO, rBy, rSup, supP_len] <;> (intros; omega)))
end
end Go.Proofs.Ytnkakhmmlgkbgaa
