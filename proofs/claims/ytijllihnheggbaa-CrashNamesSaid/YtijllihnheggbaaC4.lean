/-
  The contracts of the program's functions, data in, data out. Conditions: those in the statements.
-/
import Derived.Test.YtijllihnheggbaaC3
namespace Go.Proofs.Ytijllihnheggbaa
set_option linter.all false
open Go Go.Proofs.Ytijllihnheggbaa.Eng Go.RowKit
noncomputable section
namespace X12ba17e
def XX := (And.intro (And.intro @getD_dty (And.intro @tdiv8 @tmod8)) (And.intro (And.intro @takeAll @takeDropAll) (And.intro @toNatAdd @toNatSub)))
def XN := @Nat.zero_add
def XR := (And.intro @rDev.eq_1 @dtyD.eq_1)
def XH := @Nat.zero_add
def XG := @Nat.zero_add
end X12ba17e
set_option maxHeartbeats 4000000 in
set_option maxRecDepth 10000 in
open X12ba17e in
theorem k_ref03_Check (d : Dev) (hm : d.img.length ≤ 1000000) (hl : d.dirty.length ≤ 1000000) : Con Try.prog 21 [devA d] [rN .i64 (chkD d)] := by
  refine con_of_awp hmix Try.func21 s21 rfl (by rw [n21]; simp) r21 n21 ?_
  simp only [Eng.start, startFr, inX, sN, vN, List.map_cons, List.map_nil, devA, devC, dtyD, sD, c21]
  (repeat' (first
    | (refine aCallF 36 ?_; apply aE3; exact k_ref02_Check _; exact flatA; refine aPost ?_)
    | refine aOp ?_
    | refine aOff1 ?_
    | refine aOff2 ?_
    | (refine aSplit ?_ ?_ <;> intro hsp)
    | (refine RegA.done ‹_› ?_)
    | refine awp_seq fun K hK => ?_
    | refine Awp.reg ?_
    | (refine aNcall (f := 36) ?_; apply aE6; exact k_ref02_Check _; (refine aNr (by simp only [unV', unX, unXs, unC, unL, rN, rB, List.append_nil, List.nil_append, rDev, dtyD]; rfl) rfl rfl); (first | exact .inl rfl | exact .inr flatA); refine aNpost ?_)
    | refine aNop ?_
    | refine aNoff1 ?_
    | refine aNoff2 ?_
    | (refine aNsplit ?_ ?_ <;> intro hsp)
    | refine aNnil ?_
    | refine aDrawN 18 [[], [0], [], [1, 2], [3], [4], [], [5, 6], [7], [8], [9, 8], [8], [10, 11, 8], [12, 8], [13, 8], [8], [15, 8], [16, 8], [14, 17, 8], [8, 18]] [[], [0], [], [1, 2, 0], [3, 1, 2, 0], [4, 3, 1, 2, 0], [], [5, 6, 4, 3, 1, 2, 0], [7, 5, 6, 4, 3, 1, 2, 0], [8, 7, 5, 6, 4, 3, 1, 2, 0], [9, 8, 7, 5, 6, 4, 3, 1, 2, 0], [8, 7, 5, 6, 4, 3, 1, 2, 0], [10, 11, 8, 9, 7, 5, 6, 4, 3, 1, 2, 0], [12, 8, 10, 11, 9, 7, 5, 6, 4, 3, 1, 2, 0], [13, 8, 12, 10, 11, 9, 7, 5, 6, 4, 3, 1, 2, 0], [8, 7, 5, 6, 4, 3, 1, 2, 0], [15, 8, 7, 5, 6, 4, 3, 1, 2, 0], [16, 8, 15, 7, 5, 6, 4, 3, 1, 2, 0], [14, 17, 8, 13, 12, 10, 11, 9, 7, 5, 6, 4, 3, 1, 2, 0, 16, 15], [8, 18, 7, 5, 6, 4, 3, 1, 2, 0, 14, 17, 13, 12, 10, 11, 9, 16, 15]] ?_
    | refine Awp.skip ?_
    | refine Awp.block ?_
    | refine Awp.scope ?_
    | refine aCt ?_
    | refine aCf ?_
    | (refine aCond ?_ ?_ <;> intro hsp)
    | (refine Awp.exit ?_; simp only [blockQ, thenQ, scopeQ, ↓reduceIte, Nat.reduceEqDiff])
    | (refine viaK ‹_› ?_)
    | simp only [thenQ_normal, blockQ_normal]))
  all_goals (try (focus ((refine Awp.ret ?_; refine aRet ?_; (simp [-List.getD_eq_getElem?_getD, laxR, laxX, laxC, laxCs, rB, rN, rO, rDev, dtyD, chkD, devOk, *] <;> (intros; omega))); done)))
  all_goals (
   refine Awp.loopK (α := {i : Nat // i ≤ d.dirty.length ∧ incr d.img.length (-1) d.dirty = incr d.img.length (lastAt d.dirty i) (d.dirty.drop i)}) (fun x => [(4, vv (.int .i64 (x.1 : Int))), (3, vv (.int .i64 (lastAt d.dirty x.1)))]) (fun x => []) [1] [0] (fun x => d.dirty.length - x.1) ⟨0, by omega, by simp [lastAt]⟩ [] (by simp only [List.filterMap_cons, List.filterMap_nil, lk_nil, lk_cons, ↓reduceIte, Nat.reduceEqDiff, Option.map_some, Option.map_none]; rfl) (by simp only [List.filterMap_cons, List.filterMap_nil, lk_nil, lk_cons, ↓reduceIte, Nat.reduceEqDiff, Option.map_some, Option.map_none]; rfl) rfl rfl ?_ ?_
   · simp only [Wk, frIn, hpIn, lk_nil, lk_cons, renV, renX, renC, belV, belX, belC, belL, belB, List.cons_append, List.nil_append, ↓reduceIte, Nat.reduceEqDiff, and_self, and_true, true_and] <;> simp [-List.getD_eq_getElem?_getD, vv, one, renV, renX, renC, belV, belX, belC, belL, belB, rho, renO, belO, lk_nil, lk_cons, lastAt]
   · rintro ⟨i, hi, he⟩
     simp only [vv, one, List.cons_append, List.nil_append]
     cases hq : decide ((d.dirty.getD i default).at_ ≤ lastAt d.dirty i) <;>
     (have XH := @hq; (repeat' (first
       | refine aOp ?_
       | refine aOff1 ?_
       | refine aOff2 ?_
       | (refine aSplit ?_ ?_ <;> intro hsp)
       | (refine RegA.done ‹_› ?_)
       | refine awp_seq fun K hK => ?_
       | refine Awp.reg ?_
       | refine aNop ?_
       | refine aNoff1 ?_
       | refine aNoff2 ?_
       | (refine aNsplit ?_ ?_ <;> intro hsp)
       | refine aNnil ?_
       | refine aDrawN 18 [[], [0], [], [1, 2], [3], [4], [], [5, 6], [7], [8], [9, 8], [8], [10, 11, 8], [12, 8], [13, 8], [8], [15, 8], [16, 8], [14, 17, 8], [8, 18]] [[], [0], [], [1, 2, 0], [3, 1, 2, 0], [4, 3, 1, 2, 0], [], [5, 6, 4, 3, 1, 2, 0], [7, 5, 6, 4, 3, 1, 2, 0], [8, 7, 5, 6, 4, 3, 1, 2, 0], [9, 8, 7, 5, 6, 4, 3, 1, 2, 0], [8, 7, 5, 6, 4, 3, 1, 2, 0], [10, 11, 8, 9, 7, 5, 6, 4, 3, 1, 2, 0], [12, 8, 10, 11, 9, 7, 5, 6, 4, 3, 1, 2, 0], [13, 8, 12, 10, 11, 9, 7, 5, 6, 4, 3, 1, 2, 0], [8, 7, 5, 6, 4, 3, 1, 2, 0], [15, 8, 7, 5, 6, 4, 3, 1, 2, 0], [16, 8, 15, 7, 5, 6, 4, 3, 1, 2, 0], [14, 17, 8, 13, 12, 10, 11, 9, 7, 5, 6, 4, 3, 1, 2, 0, 16, 15], [8, 18, 7, 5, 6, 4, 3, 1, 2, 0, 14, 17, 13, 12, 10, 11, 9, 16, 15]] ?_
       | refine Awp.skip ?_
       | refine Awp.block ?_
       | refine Awp.scope ?_
       | refine aCt ?_
       | refine aCf ?_
       | (refine aCond ?_ ?_ <;> intro hsp)
       | (refine Awp.exit ?_; simp only [blockQ, thenQ, scopeQ, ↓reduceIte, Nat.reduceEqDiff])
       | (refine viaK ‹_› ?_)
       | simp only [thenQ_normal, blockQ_normal])); all_goals (clear XH))
     all_goals (first
       | (focus (have e : incr (d.img.length : Int) (-1) d.dirty = true := by
                   rw [he, show i = d.dirty.length by omega]; simp [incr]
                 (refine Awp.ret ?_; refine aRet ?_; (simp [-List.getD_eq_getElem?_getD, laxR, laxX, laxC, laxCs, rB, rN, rO, rDev, dtyD, chkD, devOk, e, *] <;> (intros; omega)))))
       | (focus (have e : incr (d.img.length : Int) (-1) d.dirty = false := by
                   rw [he, incr_step (by omega)]; simp [-List.getD_eq_getElem?_getD] at hq ⊢; omega
                 (refine Awp.ret ?_; refine aRet ?_; (simp [-List.getD_eq_getElem?_getD, laxR, laxX, laxC, laxCs, rB, rN, rO, rDev, dtyD, chkD, devOk, e, *] <;> (intros; omega)))))
       | (focus (
         refine RegA.nil ⟨⟨i + 1, by omega, by rw [he, incr_step (by omega)]; simp [-List.getD_eq_getElem?_getD] at hq ⊢; omega⟩, [], ?_, ?_⟩
         · simp only [Wk, frIn, hpIn, lk_nil, lk_cons, renV, renX, renC, belV, belX, belC, belL, belB, List.cons_append, List.nil_append, ↓reduceIte, Nat.reduceEqDiff, and_self, and_true, true_and] <;> simp [-List.getD_eq_getElem?_getD, vv, one, renV, renX, renC, belV, belX, belC, belL, belB, rho, renO, belO, lk_nil, lk_cons, lastAt]
         · (simp only []; omega)))))
set_option maxHeartbeats 4000000 in
set_option maxRecDepth 10000 in
open X12ba17e in
theorem k_cmp_isNaN (a : Int) : Con Try.prog 54 [vN .i64 a] [rB false] := by
  refine con_of_awp hmix Try.func54 s54 rfl (by rw [n54]; simp) r54 n54 ?_
  simp only [Eng.start, startFr, inX, sN, vN, List.map_cons, List.map_nil, devA, devC, dtyD, sD, c54]
  (repeat' (first
    | refine aOp ?_
    | refine aOff1 ?_
    | refine aOff2 ?_
    | (refine aSplit ?_ ?_ <;> intro hsp)
    | (refine RegA.done ‹_› ?_)
    | refine awp_seq fun K hK => ?_
    | refine Awp.reg ?_
    | refine Awp.skip ?_
    | refine Awp.block ?_
    | refine Awp.scope ?_
    | refine aCt ?_
    | refine aCf ?_
    | (refine aCond ?_ ?_ <;> intro hsp)
    | (refine Awp.exit ?_; simp only [blockQ, thenQ, scopeQ, ↓reduceIte, Nat.reduceEqDiff])
    | (refine viaK ‹_› ?_)
    | simp only [thenQ_normal, blockQ_normal]))
  all_goals (refine Awp.ret ?_; refine aRet ?_; (simp [-List.getD_eq_getElem?_getD, laxR, laxX, laxC, laxCs, rB, rN, rO, rDev, dtyD, *] <;> (intros; omega)))
set_option maxHeartbeats 4000000 in
set_option maxRecDepth 10000 in
open X12ba17e in
theorem k_cmp_Compare (a b : Int) : Con Try.prog 48 [vN .i64 a, vN .i64 b] [rN .i64 (if a < b then -1 else if b < a then 1 else 0)] := by
  refine con_of_awp hmix Try.func48 s48 rfl (by rw [n48]; simp) r48 n48 ?_
  simp only [Eng.start, startFr, inX, sN, vN, List.map_cons, List.map_nil, devA, devC, dtyD, sD, c48]
  (repeat' (first
    | (refine aCallF 54 ?_; apply aE3; exact k_cmp_isNaN _; exact flatA; refine aPost ?_)
    | refine aOp ?_
    | refine aOff1 ?_
    | refine aOff2 ?_
    | (refine aSplit ?_ ?_ <;> intro hsp)
    | (refine RegA.done ‹_› ?_)
    | refine awp_seq fun K hK => ?_
    | refine Awp.reg ?_
    | refine Awp.skip ?_
    | refine Awp.block ?_
    | refine Awp.scope ?_
    | refine aCt ?_
    | refine aCf ?_
    | (refine aCond ?_ ?_ <;> intro hsp)
    | (refine Awp.exit ?_; simp only [blockQ, thenQ, scopeQ, ↓reduceIte, Nat.reduceEqDiff])
    | (refine viaK ‹_› ?_)
    | simp only [thenQ_normal, blockQ_normal]))
  all_goals (refine Awp.ret ?_; refine aRet ?_; (simp [-List.getD_eq_getElem?_getD, laxR, laxX, laxC, laxCs, rB, rN, rO, rDev, dtyD, *] <;> (intros; omega)))
set_option maxHeartbeats 4000000 in
set_option maxRecDepth 10000 in
open X12ba17e in
theorem k_cache_find_1 (x : Dty) (b : Int) : Con Try.prog 47 [.agg (dtyD x), vN .i64 b] [rN .i64 (if x.at_ < b then -1 else if b < x.at_ then 1 else 0)] := by
  refine con_of_awp hmix Try.func47 s47 rfl (by rw [n47]; simp) r47 n47 ?_
  simp only [Eng.start, startFr, inX, sN, vN, List.map_cons, List.map_nil, devA, devC, dtyD, sD, c47]
  (repeat' (first
    | (refine aCallF 48 ?_; apply aE3; exact k_cmp_Compare _ _; exact flatA; refine aPost ?_)
    | refine aOp ?_
    | refine aOff1 ?_
    | refine aOff2 ?_
    | (refine aSplit ?_ ?_ <;> intro hsp)
    | (refine RegA.done ‹_› ?_)
    | refine awp_seq fun K hK => ?_
    | refine Awp.reg ?_
    | refine Awp.skip ?_
    | refine Awp.block ?_
    | refine Awp.scope ?_
    | refine aCt ?_
    | refine aCf ?_
    | (refine aCond ?_ ?_ <;> intro hsp)
    | (refine Awp.exit ?_; simp only [blockQ, thenQ, scopeQ, ↓reduceIte, Nat.reduceEqDiff])
    | (refine viaK ‹_› ?_)
    | simp only [thenQ_normal, blockQ_normal]))
  all_goals (refine Awp.ret ?_; refine aRet ?_; (simp [-List.getD_eq_getElem?_getD, laxR, laxX, laxC, laxCs, rB, rN, rO, rDev, dtyD, *] <;> (intros; omega)))
end
end Go.Proofs.Ytijllihnheggbaa
