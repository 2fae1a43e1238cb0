/-
  The contracts of the program's functions, data in, data out. Conditions: those in the statements.
-/
import Derived.Test.YtmhnogmbpoeaeaaJ1
namespace Go.Proofs.Ytmhnogmbpoeaeaa
set_option linter.all false
open Go Go.Proofs.Ytmhnogmbpoeaeaa.Eng Go.RowKit
noncomputable section

/-- The words of entries. -/
@[irreducible] def lsI (l : List Ent) (n : Nat) : List Int := (l.take n).flatMap fun e => [IntKind.u64.wrap e.at_, e.v]
@[irreducible] def lsT (l : List Ent) : List Int := lsI l l.length
theorem lsI_zero (l : List Ent) : lsI l 0 = [] := by unfold lsI; rfl
theorem lsI_succ {l : List Ent} {i : Nat} (h : i < l.length) : lsI l i ++ [IntKind.u64.wrap (l.getD i default).at_, (l.getD i default).v] = lsI l (i + 1) := by
  unfold lsI
  have e : l.take (i + 1) = l.take i ++ [l.getD i default] := by
    rw [List.take_add_one, List.getElem?_eq_getElem h]
    simp [List.getD, h]
  rw [e, List.flatMap_append]; rfl
theorem lsI_len {l : List Ent} : ∀ {i : Nat}, i ≤ l.length → (lsI l i).length = 2 * i
  | 0, _ => by rw [lsI_zero]; rfl
  | i + 1, h => by
    rw [← lsI_succ (by omega), List.length_append, lsI_len (by omega)]; rfl
theorem lsT_len (l : List Ent) : (lsT l).length = 2 * l.length := by unfold lsT; exact lsI_len (Nat.le_refl _)
theorem num_snoc2 (l : List Int) (a b : Int) : l.map (numD .u64) ++ [[D.v (.int .u64 a)], [D.v (.int .u64 b)]] = (l ++ [a, b]).map (numD .u64) := by rw [List.map_append]; rfl
theorem rg_snoc2 {α : Type} (k : Nat) (l : List α) (a b : α) : rg k (l ++ [a, b]) = k := by
  unfold rg
  cases l <;> rfl
@[irreducible] def enWs (l : List Ent) (w : Int) : List Int := if enE l w = 0 then lsT l else []
theorem enWs_0 {l : List Ent} {w : Int} (h : enE l w = 0) : enWs l w = lsT l := by unfold enWs; rw [if_pos h]
theorem enWs_no {l : List Ent} {w : Int} (h : ¬ enE l w = 0) : enWs l w = [] := by unfold enWs; rw [if_neg h]
namespace X3b801c9
def XX := (And.intro (And.intro (And.intro @tdiv8 (And.intro @tmod8 @toNatAddI)) (And.intro (And.intro @toNatSubI @takeAll) (And.intro @takeDropAll @getD_entC))) (And.intro (And.intro @List.all_cons.{0} (And.intro @List.all_nil.{0} @List.getElem?_cons_zero.{0})) (And.intro (And.intro @List.getElem?_cons_succ.{0} @Bool.and_self) (And.intro @List.cons_append.{0} @Nat.mul_one))))
def XN := @Nat.zero_add
def XR := (And.intro (And.intro @rBy.eq_1 @rSup.eq_1) (And.intro @supP_len (And.intro @rB2.eq_1 @rEn.eq_1)))
def XH := @Nat.zero_add
def XG := @Nat.zero_add
end X3b801c9
set_option maxHeartbeats 4000000 in
set_option maxRecDepth 10000 in
open X3b801c9 in
theorem k_ref08_Listed (l : List Ent) (hl : l.length ≤ 1000000) : Con Try.prog 38 [sEn l] [rO .u64 (lsT l)] := by
  refine con_of_awp hmix Try.func38 s38 rfl (by rw [n38]; simp) r38 n38 ?_
  simp only [Eng.start, startFr, inX, sN, vN, List.map_cons, List.map_nil, supA, supC, sEn, c38]
  (repeat' (first
    | (refine isR ?_; first | refine aOp ?_ | refine aOff1 ?_ | refine aOff2 ?_ | (refine aSplit ?_ ?_ <;> intro hsp) | (refine RegA.done ‹_› ?_; first | refine aKeep [0, 2, 3, 4, 8] ?_ | skip))
    | (refine isN ?_; first | refine aNop ?_ | refine aNoff1 ?_ | refine aNoff2 ?_ | (refine aNsplit ?_ ?_ <;> intro hsp) | refine aNnil ?_)
    | (refine isA ?_; first | refine awp_seq fun K hK => ?_ | refine Awp.reg ?_ | refine aDrawN 13 [[], [], [], [1, 2], [3], [4], [5], [], [], [7, 8], [9], [10], [6, 11], [0, 12], [13, 13, 0, 1, 2, 3, 4, 5, 6, 7, 8, 9, 10, 11, 12, 13]] [[], [], [], [1, 2], [3, 1, 2], [4, 3, 1, 2], [5, 4, 3, 1, 2], [], [], [7, 8], [9, 7, 8], [10, 9, 7, 8], [6, 11, 5, 4, 3, 1, 2, 10, 9, 7, 8], [0, 12, 6, 11, 5, 4, 3, 1, 2, 10, 9, 7, 8], [13, 0, 1, 2, 3, 4, 5, 6, 7, 8, 9, 10, 11, 12]] ?_ | refine Awp.skip ?_ | refine Awp.block ?_ | refine Awp.scope ?_ | refine aCt ?_ | refine aCf ?_ | (refine aCond ?_ ?_ <;> intro hsp) | (refine Awp.exit ?_; simp only [blockQ, thenQ, scopeQ, ↓reduceIte, Nat.reduceEqDiff]))
    | (refine viaK ‹_› ?_; first | refine aKeep [0, 2, 3, 4, 8] ?_ | skip)
    | simp only [thenQ_normal, blockQ_normal]))
  refine Awp.loopK (α := {i : Nat // i ≤ l.length}) (fun x => [(4, vv (.int .i64 (x.1 : Int))), (3, one (.own 1 (lsI l x.1).length))]) (fun x => [(1, .row (rg 1 (lsI l x.1)) ((lsI l x.1).map (numD .u64)) false)]) [0, 2] [0] (fun x => l.length - x.1) ⟨0, by omega⟩ [] (by simp only [List.filterMap_cons, List.filterMap_nil, lk_nil, lk_cons, ↓reduceIte, Nat.reduceEqDiff, Option.map_some, Option.map_none]; rfl) (by simp only [List.filterMap_cons, List.filterMap_nil, lk_nil, lk_cons, ↓reduceIte, Nat.reduceEqDiff, Option.map_some, Option.map_none]; rfl) rfl rfl ?_ ?_
  · simp only [Wk, frIn, hpIn, lk_nil, lk_cons, renV, renX, renC, belV, belX, belC, belL, belB, List.cons_append, List.nil_append, ↓reduceIte, Nat.reduceEqDiff, and_self, and_true, true_and] <;> simp [-List.getD_eq_getElem?_getD, vv, one, renV, renX, renC, belV, belX, belC, belL, belB, rho, renO, belO, lk_nil, lk_cons, rg_nil, lsI_zero]
  · rintro ⟨i, hi⟩
    have hcl := lsI_len (l := l) hi
    dsimp only
    simp only [vv, one, List.cons_append, List.nil_append]
    (have XH := (And.intro (@rg_or Int) @List.length_append.{0}); have XG := (And.intro (And.intro (And.intro @num_snoc2 @List.take_succ_cons.{0}) (And.intro @List.take_zero.{0} (And.intro @List.take_nil.{0} @List.length_cons.{0}))) (And.intro (And.intro @List.length_nil.{0} @Nat.zero_add) (And.intro @List.drop_succ_cons.{0} (And.intro @List.drop_zero.{0} @List.drop_nil.{0})))); (repeat' (first
      | (refine isR ?_; first | refine aOp ?_ | refine aOff1 ?_ | refine aOff2 ?_ | (refine aSplit ?_ ?_ <;> intro hsp) | (refine RegA.done ‹_› ?_; first | refine aKeep [0, 2, 3, 4, 8] ?_ | skip))
      | (refine isN ?_; first | refine aNop ?_ | refine aNoff1 ?_ | refine aNoff2 ?_ | (refine aNsplit ?_ ?_ <;> intro hsp) | refine aNnil ?_)
      | (refine isA ?_; first | refine awp_seq fun K hK => ?_ | refine Awp.reg ?_ | refine aDrawN 13 [[], [], [], [1, 2], [3], [4], [5], [], [], [7, 8], [9], [10], [6, 11], [0, 12], [13, 13, 0, 1, 2, 3, 4, 5, 6, 7, 8, 9, 10, 11, 12, 13]] [[], [], [], [1, 2], [3, 1, 2], [4, 3, 1, 2], [5, 4, 3, 1, 2], [], [], [7, 8], [9, 7, 8], [10, 9, 7, 8], [6, 11, 5, 4, 3, 1, 2, 10, 9, 7, 8], [0, 12, 6, 11, 5, 4, 3, 1, 2, 10, 9, 7, 8], [13, 0, 1, 2, 3, 4, 5, 6, 7, 8, 9, 10, 11, 12]] ?_ | refine Awp.skip ?_ | refine Awp.block ?_ | refine Awp.scope ?_ | refine aCt ?_ | refine aCf ?_ | (refine aCond ?_ ?_ <;> intro hsp) | (refine Awp.exit ?_; simp only [blockQ, thenQ, scopeQ, ↓reduceIte, Nat.reduceEqDiff]))
      | (refine viaK ‹_› ?_; first | refine aKeep [0, 2, 3, 4, 8] ?_ | skip)
      | simp only [thenQ_normal, blockQ_normal])); all_goals (clear XH; clear XG))
    · have e := lsI_succ (l := l) (i := i) (by omega)
      have e3 := rg_snoc2 1 (lsI l i) (IntKind.u64.wrap (l.getD i default).at_) (l.getD i default).v
      refine RegA.nil ⟨⟨i + 1, by omega⟩, [], ?_, ?_⟩
      · simp only [Wk, frIn, hpIn, lk_nil, lk_cons, renV, renX, renC, belV, belX, belC, belL, belB, List.cons_append, List.nil_append, ↓reduceIte, Nat.reduceEqDiff, and_self, and_true, true_and] <;> simp [-List.getD_eq_getElem?_getD, vv, one, renV, renX, renC, belV, belX, belC, belL, belB, rho, renO, belO, lk_nil, lk_cons, ← e, e3]
      · (simp only []; omega)
    · obtain rfl : i = l.length := by omega
      have e : lsT l = lsI l l.length := by unfold lsT; rfl
      rcases rg_or' 1 (lsI l l.length) with hz | hz
      · (refine Awp.ret ?_; refine aRet ?_; (simp [-List.getD_eq_getElem?_getD, laxR, laxX, laxC, laxCs, rB, rN, rO, rBy, rSup, supP_len, rB2, rEn, e, hz]))
      · (refine Awp.ret ?_; refine aRet ?_; (simp [-List.getD_eq_getElem?_getD, laxR, laxX, laxC, laxCs, rB, rN, rO, rBy, rSup, supP_len, rB2, rEn, e, hz, rg_nil]))
set_option maxHeartbeats 4000000 in
set_option maxRecDepth 10000 in
open X3b801c9 in
theorem k_ref08_Words (l : List Ent) (w : Int) (hl : l.length ≤ 1000000) : Con Try.prog 20 [sEn l, vN .i64 w] [rO .u64 (enWs l w), rN .i64 (enE l w)] := by
  refine con_of_awp hmix Try.func20 s20 rfl (by rw [n20]; simp) r20 n20 ?_
  simp only [Eng.start, startFr, inX, sN, vN, List.map_cons, List.map_nil, supA, supC, sEn, c20]
  (repeat' (first
    | (refine isR ?_; first | (refine isC ?_; first | (refine isF 21 ?_; first | (refine aCallF 21 ?_; apply aE3; exact k_ref08_Check _ _; exact flatA; refine aPost ?_)) | (refine isF 38 ?_; first | (refine aCall 38 ?_; apply aE2; exact k_ref08_Listed _ (by omega); refine aPost ?_))) | refine aOp ?_ | refine aOff1 ?_ | refine aOff2 ?_ | (refine aSplit ?_ ?_ <;> intro hsp) | (refine RegA.done ‹_› ?_; first | refine aKeep [0, 1, 4, 5, 9] ?_ | skip))
    | (refine isA ?_; first | refine awp_seq fun K hK => ?_ | refine Awp.reg ?_ | refine Awp.skip ?_ | refine Awp.block ?_ | refine Awp.scope ?_ | refine aCt ?_ | refine aCf ?_ | (refine aCond ?_ ?_ <;> intro hsp) | (refine Awp.exit ?_; simp only [blockQ, thenQ, scopeQ, ↓reduceIte, Nat.reduceEqDiff]))
    | (refine viaK ‹_› ?_; first | refine aKeep [0, 1, 4, 5, 9] ?_ | skip)
    | simp only [thenQ_normal, blockQ_normal]))
  · have e := enWs_no ‹¬ enE l w = 0›
    (refine Awp.ret ?_; refine aRet ?_; (simp [-List.getD_eq_getElem?_getD, laxR, laxX, laxC, laxCs, rB, rN, rO, rBy, rSup, supP_len, rB2, rEn, e]))
  · have e := enWs_0 ‹enE l w = 0›
    have e2 := ‹enE l w = 0›
    (refine Awp.ret ?_; refine aRet ?_; (simp [-List.getD_eq_getElem?_getD, laxR, laxX, laxC, laxCs, rB, rN, rO, rBy, rSup, supP_len, rB2, rEn, e, e2]))
end
end Go.Proofs.Ytmhnogmbpoeaeaa
