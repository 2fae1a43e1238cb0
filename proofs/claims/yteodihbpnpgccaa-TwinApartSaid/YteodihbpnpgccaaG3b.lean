/-
  The contracts of the program's functions, data in, data out. Conditions: those in the statements.
-/
import Derived.Test.YteodihbpnpgccaaG3
namespace Go.Proofs.Yteodihbpnpgccaa
set_option linter.all false
open Go Go.Proofs.Yteodihbpnpgccaa.Eng Go.RowKit
noncomputable section

def tW (a : Int) : Nat → Int | 0 => 0 | 1 => 0 | 2 => 0 | _ => a
def tT (a : Int) : Nat → Int | 0 => 0 | 1 => 0 | 2 => 0 | 3 => 0 | _ => a
theorem tW0 (a : Int) : tW a 0 = 0 := rfl
theorem tT0 (a : Int) : tT a 0 = 0 := rfl
theorem tW1 (a : Int) : tW a 1 = 0 := rfl
theorem tT1 (a : Int) : tT a 1 = 0 := rfl
theorem tW2 (a : Int) : tW a 2 = 0 := rfl
theorem tT2 (a : Int) : tT a 2 = 0 := rfl
theorem tW3 (a : Int) : tW a 3 = a := rfl
theorem tT3 (a : Int) : tT a 3 = 0 := rfl
theorem tW4 (a : Int) : tW a 4 = a := rfl
theorem tT4 (a : Int) : tT a 4 = a := rfl
theorem tW5 (a : Int) : tW a 5 = a := rfl
theorem tT5 (a : Int) : tT a 5 = a := rfl
theorem tW6 (a : Int) : tW a 6 = a := rfl
theorem tT6 (a : Int) : tT a 6 = a := rfl
theorem tW7 (a : Int) : tW a 7 = a := rfl
theorem tT7 (a : Int) : tT a 7 = a := rfl
theorem tW8 (a : Int) : tW a 8 = a := rfl
theorem tT8 (a : Int) : tT a 8 = a := rfl

theorem eqr_w80 (a0 b0 a1 b1 a2 b2 a3 b3 a4 b4 a5 b5 a6 b6 a7 b7 : Int) : eqArr Try.prog 71 [.int .u64 (a0), .int .u64 (a1), .int .u64 (a2), .int .u64 (a3), .int .u64 (a4), .int .u64 (a5), .int .u64 (a6), .int .u64 (a7)] [.int .u64 (b0), .int .u64 (b1), .int .u64 (b2), .int .u64 (b3), .int .u64 (b4), .int .u64 (b5), .int .u64 (b6), .int .u64 (b7)] = some (decide (a0 = b0) && (decide (a1 = b1) && (decide (a2 = b2) && (decide (a3 = b3) && (decide (a4 = b4) && (decide (a5 = b5) && (decide (a6 = b6) && (decide (a7 = b7) && (true))))))))) := by kernel_rfl
theorem eqr_w8 (a0 b0 a1 b1 a2 b2 a3 b3 a4 b4 a5 b5 a6 b6 a7 b7 : Int) : eqArr Try.prog 71 [.int .u64 (a0), .int .u64 (a1), .int .u64 (a2), .int .u64 (a3), .int .u64 (a4), .int .u64 (a5), .int .u64 (a6), .int .u64 (a7)] [.int .u64 (b0), .int .u64 (b1), .int .u64 (b2), .int .u64 (b3), .int .u64 (b4), .int .u64 (b5), .int .u64 (b6), .int .u64 (b7)] = some (decide (([a0, a1, a2, a3, a4, a5, a6, a7] : List Int) = [b0, b1, b2, b3, b4, b5, b6, b7])) := by
  rw [eqr_w80]
  congr 1
  rw [Bool.eq_iff_iff]
  simp

theorem flat_hook1 {s : Sup} {e : Int} : Flat [rWs s, rN .i64 e] := by simp [Flat, RXFlat, RCFlat, DFlat, rN, rWs]
theorem told_a {l : List Int} (h : 2048 < l.getD 2 0) : readV l = ⟨0, 0⟩ := readV_no fun e => by
  have h1 := sup_le (readE_is e).2.1
  simp only [supAt] at h1
  omega
theorem told_b {l : List Int} (h : 8 < l.getD 3 0) : readV l = ⟨0, 0⟩ := readV_no fun e => by
  have h1 := sup_le (readE_is e).2.1
  simp only [supAt] at h1
  omega
theorem told_c {l : List Int} (h : ¬ supE (supAt l) = 0) : readV l = ⟨0, 0⟩ := readV_no fun e => h (supE_yes (readE_is e).2.1)

theorem told_d {l : List Int} (h : ¬ [sw (supAt l) 0, sw (supAt l) 1, sw (supAt l) 2, sw (supAt l) 3, sw (supAt l) 4, sw (supAt l) 5, sw (supAt l) 6, sw (supAt l) 7] = l) : readV l = ⟨0, 0⟩ := readV_no fun e => h (by rw [sw_list (readE_is e).2.1]; exact (readE_is e).2.2)
theorem told_e {l : List Int} (h8 : l.length = 8) (h0 : supE (supAt l) = 0) (h : [sw (supAt l) 0, sw (supAt l) 1, sw (supAt l) 2, sw (supAt l) 3, sw (supAt l) 4, sw (supAt l) 5, sw (supAt l) 6, sw (supAt l) 7] = l) : readV l = supAt l := by
  have h1 := supE_iff.1 h0
  exact readV_0 (readE_0 h8 h1 (by rw [← sw_list h1]; exact h))
theorem told_x {s : Sup} {l : List Int} (h0 : supE s = 0) (h : [sw s 0, sw s 1, sw s 2, sw s 3, sw s 4, sw s 5, sw s 6, sw s 7] = l) (ht : ¬ l.getD 3 0 = s.t) : False := by
  rw [sw_list (supE_iff.1 h0)] at h
  rw [← h] at ht
  exact ht (supL_get s).2
theorem told_z : ¬ supE ⟨0, 0⟩ = 0 := by
  intro h
  have := sup_le (supE_iff.1 h)
  dsimp only at this
  omega
theorem k_super_sealed' (a b : Int) : Con Try.prog 38 [.agg [.v (.int .i64 a), .v (.int .i64 b)]] [rWs ⟨a, b⟩, rN .i64 (supE ⟨a, b⟩)] := k_super_sealed ⟨a, b⟩
namespace X077f05a
def XX := (And.intro (And.intro (And.intro @tdiv8 @tmod8) (And.intro @toNatAddI @toNatSubI)) (And.intro (And.intro @takeAll @takeDropAll) (And.intro @Nat.mul_one @List.cons_append.{0})))
def XN := @Nat.zero_add
def XR := (And.intro (And.intro @rBy.eq_1 @rSup.eq_1) (And.intro @rWs.eq_1 (And.intro @rWd.eq_1 @supP_len)))
def XH := @Nat.zero_add
def XG := @Nat.zero_add
end X077f05a
set_option maxHeartbeats 4000000 in
set_option maxRecDepth 10000 in
open X077f05a in
theorem k_super_told (a0 a1 a2 a3 a4 a5 a6 a7 : Int) (hu : ∀ x ∈ [a0, a1, a2, a3, a4, a5, a6, a7], isU x) : Con Try.prog 36 [(.agg [.v (.int .u64 a0), .v (.int .u64 a1), .v (.int .u64 a2), .v (.int .u64 a3), .v (.int .u64 a4), .v (.int .u64 a5), .v (.int .u64 a6), .v (.int .u64 a7)])] [rSup (readV [a0, a1, a2, a3, a4, a5, a6, a7])] := by
  refine con_of_awp hmix Try.func36 s36 rfl (by rw [n36]; simp) r36 n36 ?_
  simp only [Eng.start, startFr, inX, sN, vN, List.map_cons, List.map_nil, supA, supC, c36]
  (repeat' (first
    | refine aOp ?_
    | refine aOp2 ?_
    | refine aOff1 ?_
    | refine aOff2 ?_
    | (refine aSplit ?_ ?_ <;> intro hsp)
    | (refine RegA.done ‹_› ?_)
    | refine awp_seq fun K hK => ?_
    | refine Awp.reg ?_
    | refine Awp.skip ?_
    | refine Awp.block ?_
    | refine Awp.scope ?_
    | refine aCt ?_
    | refine aCf ?_
    | (refine aCond ?_ ?_ <;> intro hsp)
    | (refine Awp.exit ?_; simp only [blockQ, thenQ, scopeQ, ↓reduceIte, Nat.reduceEqDiff])
    | (refine viaK ‹_› ?_)
    | simp only [thenQ_normal, blockQ_normal]))
  refine Awp.loopK (α := {k : Nat // k ≤ 8 ∧ (2 < k → a2 ≤ 2048) ∧ (3 < k → a3 ≤ 8)}) (fun x => [(9, vv (.int .i64 (x.1 : Int)))]) (fun x => [(2, .box [.d (.v (.int .i64 (tW a2 x.1))), .d (.v (.int .i64 (tT a3 x.1)))])]) [1, 2, 3, 8] [0, 1] (fun x => 8 - x.1) ⟨0, by omega, by omega, by omega⟩ [] (by simp only [List.filterMap_cons, List.filterMap_nil, lk_nil, lk_cons, ↓reduceIte, Nat.reduceEqDiff, Option.map_some, Option.map_none]; rfl) (by simp only [List.filterMap_cons, List.filterMap_nil, lk_nil, lk_cons, ↓reduceIte, Nat.reduceEqDiff, Option.map_some, Option.map_none]; rfl) rfl rfl ?_ ?_
  · simp only [Wk, frIn, hpIn, lk_nil, lk_cons, renV, renX, renC, belV, belX, belC, belL, belB, List.cons_append, List.nil_append, ↓reduceIte, Nat.reduceEqDiff, and_self, and_true, true_and] <;> simp [-List.getD_eq_getElem?_getD, vv, one, renV, renX, renC, belV, belX, belC, belL, belB, rho, renO, belO, lk_nil, lk_cons, tW0, tT0]
  · rintro ⟨k, hk, h2, h3⟩
    simp only [vv, one, List.cons_append, List.nil_append]
    rcases le8 hk with rfl | rfl | rfl | rfl | rfl | rfl | rfl | rfl | rfl <;>
    (have XH := (And.intro (And.intro (And.intro (And.intro @tW0 @tT0) (And.intro @tW1 @tT1)) (And.intro (And.intro @tW2 @tT2) (And.intro @tW3 (And.intro @tT3 @tW4)))) (And.intro (And.intro (And.intro @tT4 @tW5) (And.intro @tT5 (And.intro @tW6 @tT6))) (And.intro (And.intro @tW7 @tT7) (And.intro @tW8 (And.intro @tT8 @eqr_w8))))); have XG := (And.intro (And.intro (And.intro (And.intro @tW0 @tT0) (And.intro @tW1 @tT1)) (And.intro (And.intro @tW2 @tT2) (And.intro @tW3 (And.intro @tT3 @tW4)))) (And.intro (And.intro (And.intro @tT4 @tW5) (And.intro @tT5 @tW6)) (And.intro (And.intro @tT6 @tW7) (And.intro @tT7 (And.intro @tW8 @tT8))))); (repeat' (first
      | (refine aCallF 38 ?_; apply aE3; exact k_super_sealed' _ _; exact flatA; refine aPost ?_)
      | refine aOp ?_
      | refine aOp2 ?_
      | refine aOff1 ?_
      | refine aOff2 ?_
      | (refine aSplit ?_ ?_ <;> intro hsp)
      | (refine RegA.done ‹_› ?_; first | refine aKeep [0, 1, 2, 3, 4, 5, 6, 7, 8, 9, 10, 13, 14, 17, 21, 24, 40] ?_ | skip)
      | refine awp_seq fun K hK => ?_
      | refine Awp.reg ?_
      | refine Awp.skip ?_
      | refine Awp.block ?_
      | refine Awp.scope ?_
      | refine aCt ?_
      | refine aCf ?_
      | (refine aCond ?_ ?_ <;> intro hsp)
      | (refine Awp.exit ?_; simp only [blockQ, thenQ, scopeQ, ↓reduceIte, Nat.reduceEqDiff])
      | (refine viaK ‹_› ?_; first | refine aKeep [0, 1, 2, 3, 4, 5, 6, 7, 8, 9, 10, 13, 14, 17, 21, 24, 40] ?_ | skip)
      | simp only [thenQ_normal, blockQ_normal])); all_goals (clear XH; clear XG))
    · refine RegA.nil ⟨⟨1, by omega, by omega, by omega⟩, [], ?_, ?_⟩
      · simp only [Wk, frIn, hpIn, lk_nil, lk_cons, renV, renX, renC, belV, belX, belC, belL, belB, List.cons_append, List.nil_append, ↓reduceIte, Nat.reduceEqDiff, and_self, and_true, true_and] <;> simp [-List.getD_eq_getElem?_getD, vv, one, renV, renX, renC, belV, belX, belC, belL, belB, rho, renO, belO, lk_nil, lk_cons, tW0, tT0, tW1, tT1]
      · (simp only []; omega)
    · refine RegA.nil ⟨⟨2, by omega, by omega, by omega⟩, [], ?_, ?_⟩
      · simp only [Wk, frIn, hpIn, lk_nil, lk_cons, renV, renX, renC, belV, belX, belC, belL, belB, List.cons_append, List.nil_append, ↓reduceIte, Nat.reduceEqDiff, and_self, and_true, true_and] <;> simp [-List.getD_eq_getElem?_getD, vv, one, renV, renX, renC, belV, belX, belC, belL, belB, rho, renO, belO, lk_nil, lk_cons, tW1, tT1, tW2, tT2]
      · (simp only []; omega)
    · have e := told_a (l := [a0, a1, a2, a3, a4, a5, a6, a7]) ‹2048 < a2›
      (refine Awp.ret ?_; refine aRet ?_; (simp [-List.getD_eq_getElem?_getD, laxR, laxX, laxC, laxCs, rB, rN, rO, rBy, rSup, rWs, rWd, supP_len, e, rSup, supAt]))
    · have e := told_a (l := [a0, a1, a2, a3, a4, a5, a6, a7]) ‹2048 < a2›
      (refine Awp.ret ?_; refine aRet ?_; (simp [-List.getD_eq_getElem?_getD, laxR, laxX, laxC, laxCs, rB, rN, rO, rBy, rSup, rWs, rWd, supP_len, e, rSup, supAt]))
    · exact absurd ‹supE ⟨0, 0⟩ = 0› told_z
  
    · have w2 : IntKind.i64.wrap a2 = a2 := by
        have := hu a2 (by simp)
        unfold isU at this
        exact IntWalk.i64_in _ (by omega)
      refine RegA.nil ⟨⟨3, by omega, by omega, by omega⟩, [], ?_, ?_⟩
      · simp only [Wk, frIn, hpIn, lk_nil, lk_cons, renV, renX, renC, belV, belX, belC, belL, belB, List.cons_append, List.nil_append, ↓reduceIte, Nat.reduceEqDiff, and_self, and_true, true_and] <;> simp [-List.getD_eq_getElem?_getD, vv, one, renV, renX, renC, belV, belX, belC, belL, belB, rho, renO, belO, lk_nil, lk_cons, tW2, tT2, tW3, tT3, w2]
      · (simp only []; omega)
    · have e := told_b (l := [a0, a1, a2, a3, a4, a5, a6, a7]) ‹8 < a3›
      (refine Awp.ret ?_; refine aRet ?_; (simp [-List.getD_eq_getElem?_getD, laxR, laxX, laxC, laxCs, rB, rN, rO, rBy, rSup, rWs, rWd, supP_len, e, rSup, supAt]))
    · have e := told_b (l := [a0, a1, a2, a3, a4, a5, a6, a7]) ‹8 < a3›
      (refine Awp.ret ?_; refine aRet ?_; (simp [-List.getD_eq_getElem?_getD, laxR, laxX, laxC, laxCs, rB, rN, rO, rBy, rSup, rWs, rWd, supP_len, e, rSup, supAt]))
    · exact (told_x (l := [a0, a1, a2, a3, a4, a5, a6, a7]) ‹supE ⟨a2, 0⟩ = 0› (by assumption) (by show ¬ a3 = 0; omega)).elim
  
    · have w3 : IntKind.i64.wrap a3 = a3 := by
        have := hu a3 (by simp)
        unfold isU at this
        exact IntWalk.i64_in _ (by omega)
      refine RegA.nil ⟨⟨4, by omega, by omega, by omega⟩, [], ?_, ?_⟩
      · simp only [Wk, frIn, hpIn, lk_nil, lk_cons, renV, renX, renC, belV, belX, belC, belL, belB, List.cons_append, List.nil_append, ↓reduceIte, Nat.reduceEqDiff, and_self, and_true, true_and] <;> simp [-List.getD_eq_getElem?_getD, vv, one, renV, renX, renC, belV, belX, belC, belL, belB, rho, renO, belO, lk_nil, lk_cons, tW3, tT3, tW4, tT4, w3]
      · (simp only []; omega)
    · refine RegA.nil ⟨⟨5, by omega, by omega, by omega⟩, [], ?_, ?_⟩
      · simp only [Wk, frIn, hpIn, lk_nil, lk_cons, renV, renX, renC, belV, belX, belC, belL, belB, List.cons_append, List.nil_append, ↓reduceIte, Nat.reduceEqDiff, and_self, and_true, true_and] <;> simp [-List.getD_eq_getElem?_getD, vv, one, renV, renX, renC, belV, belX, belC, belL, belB, rho, renO, belO, lk_nil, lk_cons, tW4, tT4, tW5, tT5]
      · (simp only []; omega)
    · refine RegA.nil ⟨⟨6, by omega, by omega, by omega⟩, [], ?_, ?_⟩
      · simp only [Wk, frIn, hpIn, lk_nil, lk_cons, renV, renX, renC, belV, belX, belC, belL, belB, List.cons_append, List.nil_append, ↓reduceIte, Nat.reduceEqDiff, and_self, and_true, true_and] <;> simp [-List.getD_eq_getElem?_getD, vv, one, renV, renX, renC, belV, belX, belC, belL, belB, rho, renO, belO, lk_nil, lk_cons, tW5, tT5, tW6, tT6]
      · (simp only []; omega)
    · refine RegA.nil ⟨⟨7, by omega, by omega, by omega⟩, [], ?_, ?_⟩
      · simp only [Wk, frIn, hpIn, lk_nil, lk_cons, renV, renX, renC, belV, belX, belC, belL, belB, List.cons_append, List.nil_append, ↓reduceIte, Nat.reduceEqDiff, and_self, and_true, true_and] <;> simp [-List.getD_eq_getElem?_getD, vv, one, renV, renX, renC, belV, belX, belC, belL, belB, rho, renO, belO, lk_nil, lk_cons, tW6, tT6, tW7, tT7]
      · (simp only []; omega)
    · refine RegA.nil ⟨⟨8, by omega, by omega, by omega⟩, [], ?_, ?_⟩
      · simp only [Wk, frIn, hpIn, lk_nil, lk_cons, renV, renX, renC, belV, belX, belC, belL, belB, List.cons_append, List.nil_append, ↓reduceIte, Nat.reduceEqDiff, and_self, and_true, true_and] <;> simp [-List.getD_eq_getElem?_getD, vv, one, renV, renX, renC, belV, belX, belC, belL, belB, rho, renO, belO, lk_nil, lk_cons, tW7, tT7, tW8, tT8]
      · (simp only []; omega)
    · have e := told_c (l := [a0, a1, a2, a3, a4, a5, a6, a7]) ‹¬ supE ⟨a2, a3⟩ = 0›
      (refine Awp.ret ?_; refine aRet ?_; (simp [-List.getD_eq_getElem?_getD, laxR, laxX, laxC, laxCs, rB, rN, rO, rBy, rSup, rWs, rWd, supP_len, e, rSup, supAt]))
    · have e := told_d (l := [a0, a1, a2, a3, a4, a5, a6, a7]) (by assumption)
      (refine Awp.ret ?_; refine aRet ?_; (simp [-List.getD_eq_getElem?_getD, laxR, laxX, laxC, laxCs, rB, rN, rO, rBy, rSup, rWs, rWd, supP_len, e, rSup, supAt]))
    · have e : readV [a0, a1, a2, a3, a4, a5, a6, a7] = ⟨a2, a3⟩ := told_e (l := [a0, a1, a2, a3, a4, a5, a6, a7]) rfl ‹supE ⟨a2, a3⟩ = 0› (by assumption)
      (refine Awp.ret ?_; refine aRet ?_; (simp [-List.getD_eq_getElem?_getD, laxR, laxX, laxC, laxCs, rB, rN, rO, rBy, rSup, rWs, rWd, supP_len, e, rSup, supAt]))
theorem rowS {s : Sup} (h : supE s = 0) : [[D.v (.int .u64 (sw s 0))], [D.v (.int .u64 (sw s 1))], [D.v (.int .u64 (sw s 2))], [D.v (.int .u64 (sw s 3))], [D.v (.int .u64 (sw s 4))], [D.v (.int .u64 (sw s 5))], [D.v (.int .u64 (sw s 6))], [D.v (.int .u64 (sw s 7))]] = (supW s).map (numD .u64) := by
  have h1 := supE_iff.1 h
  rw [supW_yes h1, ← sw_list h1]; rfl
set_option maxHeartbeats 4000000 in
set_option maxRecDepth 10000 in
open X077f05a in
theorem k_super_Write (s : Sup) : Con Try.prog 28 [supA s] [rO .u64 (supW s), rN .i64 (supE s)] := by
  refine con_of_awp hmix Try.func28 s28 rfl (by rw [n28]; simp) r28 n28 ?_
  simp only [Eng.start, startFr, inX, sN, vN, List.map_cons, List.map_nil, supA, supC, c28]
  (repeat' (first
    | (refine aCallF 38 ?_; apply aE3; exact k_super_sealed _; exact flatA; refine aPost ?_)
    | refine aArr 4 ?_
    | refine aOp ?_
    | refine aOp2 ?_
    | refine aOff1 ?_
    | refine aOff2 ?_
    | (refine aSplit ?_ ?_ <;> intro hsp)
    | (refine RegA.done ‹_› ?_; first | refine aKeep [0, 1, 2, 3, 4, 5, 12] ?_ | skip)
    | refine awp_seq fun K hK => ?_
    | refine Awp.reg ?_
    | refine Awp.skip ?_
    | refine Awp.block ?_
    | refine Awp.scope ?_
    | refine aCt ?_
    | refine aCf ?_
    | (refine aCond ?_ ?_ <;> intro hsp)
    | (refine Awp.exit ?_; simp only [blockQ, thenQ, scopeQ, ↓reduceIte, Nat.reduceEqDiff])
    | (refine viaK ‹_› ?_; first | refine aKeep [0, 1, 2, 3, 4, 5, 12] ?_ | skip)
    | simp only [thenQ_normal, blockQ_normal]))
  · have e := supW_no (s := s) (fun h => ‹¬ supE s = 0› (supE_iff.2 h))
    (refine Awp.ret ?_; refine aRet ?_; (simp [-List.getD_eq_getElem?_getD, laxR, laxX, laxC, laxCs, rB, rN, rO, rBy, rSup, rWs, rWd, supP_len, e]))
  · have e := rowS ‹supE s = 0›
    have e2 := ‹supE s = 0›
    (refine Awp.ret ?_; refine aRet ?_; (simp [-List.getD_eq_getElem?_getD, laxR, laxX, laxC, laxCs, rB, rN, rO, rBy, rSup, rWs, rWd, supP_len, e, e2]))
theorem len8 {l : List Int} (h : l.length = 8) : ∃ a0 a1 a2 a3 a4 a5 a6 a7, l = [a0, a1, a2, a3, a4, a5, a6, a7] := by
  rcases l with _ | ⟨a0, _ | ⟨a1, _ | ⟨a2, _ | ⟨a3, _ | ⟨a4, _ | ⟨a5, _ | ⟨a6, _ | ⟨a7, _ | ⟨a8, l⟩⟩⟩⟩⟩⟩⟩⟩⟩ <;> simp at h
  exact ⟨a0, a1, a2, a3, a4, a5, a6, a7, rfl⟩
theorem readE_50' {l : List Int} (h : l.length = 8) (h2 : ¬ readE l = 0) : readE l = 50 := by
  rcases readE_or l with h1 | h1 | h1
  · exact absurd h1 h2
  · exact h1.1
  · exact absurd h h1.2
theorem readV_z {l : List Int} (h : readV l = ⟨0, 0⟩) : ¬ readE l = 0 := fun e => by
  have h1 := (readE_is e).2.1
  rw [← readV_0 e, h] at h1
  exact told_z (supE_yes h1)
set_option maxHeartbeats 4000000 in
set_option maxRecDepth 10000 in
open X077f05a in
theorem k_super_Read_n (l : List Int) (h8 : ¬ l.length = 8) (hn : l.length ≤ 1000000) : Con Try.prog 23 [sN .u64 l] [rSup ⟨0, 0⟩, rN .i64 2] := by
  have hd : decide ((l.length : Int) = 8) = false := decide_eq_false (by omega)
  refine con_of_awp hmix Try.func23 s23 rfl (by rw [n23]; simp) r23 n23 ?_
  simp only [Eng.start, startFr, inX, sN, vN, List.map_cons, List.map_nil, supA, supC, c23]
  (have XH := @hd; have XG := @hd; (repeat' (first
    | refine aArr 4 ?_
    | refine aOp ?_
    | refine aOp2 ?_
    | refine aOff1 ?_
    | refine aOff2 ?_
    | (refine aSplit ?_ ?_ <;> intro hsp)
    | (refine RegA.done ‹_› ?_; first | refine aKeep [0, 2, 3, 4, 5, 8, 17] ?_ | skip)
    | refine awp_seq fun K hK => ?_
    | refine Awp.reg ?_
    | refine Awp.skip ?_
    | refine Awp.block ?_
    | refine Awp.scope ?_
    | refine aCt ?_
    | refine aCf ?_
    | (refine aCond ?_ ?_ <;> intro hsp)
    | (refine Awp.exit ?_; simp only [blockQ, thenQ, scopeQ, ↓reduceIte, Nat.reduceEqDiff])
    | (refine viaK ‹_› ?_; first | refine aKeep [0, 2, 3, 4, 5, 8, 17] ?_ | skip)
    | simp only [thenQ_normal, blockQ_normal])); all_goals (clear XH; clear XG))
  all_goals (refine Awp.ret ?_; refine aRet ?_; (simp [-List.getD_eq_getElem?_getD, laxR, laxX, laxC, laxCs, rB, rN, rO, rBy, rSup, rWs, rWd, supP_len, rSup]))
set_option maxHeartbeats 4000000 in
set_option maxRecDepth 10000 in
open X077f05a in
theorem k_super_Read_8 (a0 a1 a2 a3 a4 a5 a6 a7 : Int) (hu : ∀ x ∈ [a0, a1, a2, a3, a4, a5, a6, a7], isU x) : Con Try.prog 23 [sN .u64 [a0, a1, a2, a3, a4, a5, a6, a7]] [rSup (readV [a0, a1, a2, a3, a4, a5, a6, a7]), rN .i64 (readE [a0, a1, a2, a3, a4, a5, a6, a7])] := by
  have hd : decide (((8 : Nat) : Int) = 8) = true := rfl
  refine con_of_awp hmix Try.func23 s23 rfl (by rw [n23]; simp) r23 n23 ?_
  simp only [Eng.start, startFr, inX, sN, vN, List.map_cons, List.map_nil, supA, supC, numD, c23]
  (have XH := (And.intro (And.intro @eq_self.{1} (And.intro @hd @eqs_sup)) (And.intro (And.intro @sup_eta @List.drop_zero.{0}) (And.intro @List.take_succ_cons.{0} @List.take_zero.{0}))); have XG := @hd; (repeat' (first
    | (refine aCallF 36 ?_; apply aE3; exact k_super_told _ _ _ _ _ _ _ _ hu; exact flatA; refine aPost ?_)
    | refine aArr 4 ?_
    | refine aOp ?_
    | refine aOp2 ?_
    | refine aOff1 ?_
    | refine aOff2 ?_
    | (refine aSplit ?_ ?_ <;> intro hsp)
    | (refine RegA.done ‹_› ?_; first | refine aKeep [0, 2, 3, 4, 5, 8, 17] ?_ | skip)
    | refine awp_seq fun K hK => ?_
    | refine Awp.reg ?_
    | refine Awp.skip ?_
    | refine Awp.block ?_
    | refine Awp.scope ?_
    | refine aCt ?_
    | refine aCf ?_
    | (refine aCond ?_ ?_ <;> intro hsp)
    | (refine Awp.exit ?_; simp only [blockQ, thenQ, scopeQ, ↓reduceIte, Nat.reduceEqDiff])
    | (refine viaK ‹_› ?_; first | refine aKeep [0, 2, 3, 4, 5, 8, 17] ?_ | skip)
    | simp only [thenQ_normal, blockQ_normal])); all_goals (clear XH; clear XG))
  · have e := readE_50' rfl (readV_z ‹readV [a0, a1, a2, a3, a4, a5, a6, a7] = ⟨0, 0⟩›)
    have e2 := ‹readV [a0, a1, a2, a3, a4, a5, a6, a7] = ⟨0, 0⟩›
    (refine Awp.ret ?_; refine aRet ?_; (simp [-List.getD_eq_getElem?_getD, laxR, laxX, laxC, laxCs, rB, rN, rO, rBy, rSup, rWs, rWd, supP_len, e, e2, rSup]))
  · have e : readE [a0, a1, a2, a3, a4, a5, a6, a7] = 0 := Decidable.byContradiction fun h => ‹¬ readV [a0, a1, a2, a3, a4, a5, a6, a7] = ⟨0, 0⟩› (readV_no h)
    (refine Awp.ret ?_; refine aRet ?_; (simp [-List.getD_eq_getElem?_getD, laxR, laxX, laxC, laxCs, rB, rN, rO, rBy, rSup, rWs, rWd, supP_len, e, rSup]))
theorem k_super_Read (l : List Int) (hl : ∀ x ∈ l, isU x) (hn : l.length ≤ 1000000) : Con Try.prog 23 [sN .u64 l] [rSup (readV l), rN .i64 (readE l)] := by
  by_cases h : l.length = 8
  · obtain ⟨a0, a1, a2, a3, a4, a5, a6, a7, rfl⟩ := len8 h
    exact k_super_Read_8 _ _ _ _ _ _ _ _ hl
  · have h1 := k_super_Read_n l h hn
    have e := readE_2 h
    rw [e, readV_bad e (by omega)]
    exact h1
end
end Go.Proofs.Yteodihbpnpgccaa
