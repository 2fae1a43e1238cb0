/-
  The contracts of the program's functions, data in, data out. Conditions: those in the statements.
-/
import Derived.Test.YtmhnogmbpoeaeaaJ4
namespace Go.Proofs.Ytmhnogmbpoeaeaa
set_option linter.all false
open Go Go.Proofs.Ytmhnogmbpoeaeaa.Eng Go.RowKit
noncomputable section

theorem newE_dec (n : Int) : decide (newE' n = 0) = sz n := by
  unfold newE'
  cases sz n <;> rfl
namespace Xdf36d5a
def XX := (And.intro (And.intro (And.intro @tdiv8 (And.intro @tmod8 @toNatAddI)) (And.intro (And.intro @toNatSubI @takeAll) (And.intro @takeDropAll @getD_entC))) (And.intro (And.intro @List.all_cons.{0} (And.intro @List.all_nil.{0} @List.getElem?_cons_zero.{0})) (And.intro (And.intro @List.getElem?_cons_succ.{0} @Bool.and_self) (And.intro @List.cons_append.{0} @Nat.mul_one))))
def XN := @Nat.zero_add
def XR := (And.intro (And.intro @rBy.eq_1 @rSup.eq_1) (And.intro @supP_len (And.intro @rB2.eq_1 @rEn.eq_1)))
def XH := @Nat.zero_add
def XG := @Nat.zero_add
end Xdf36d5a
set_option maxHeartbeats 4000000 in
set_option maxRecDepth 10000 in
open Xdf36d5a in
theorem k_entry_isDevice (n : Int) : Con Try.prog 31 [vN .i64 n] [rB (sz n)] := by
  refine con_of_awp hmix Try.func31 s31 rfl (by rw [n31]; simp) r31 n31 ?_
  simp only [Eng.start, startFr, inX, sN, vN, List.map_cons, List.map_nil, supA, supC, sEn, c31]
  (repeat' (first
    | (refine isR ?_; first | (refine isC ?_; first | (refine isF 43 ?_; first | (refine aCall 43 ?_; apply aE2; exact k_image_New _; refine aPost ?_))) | refine aOp ?_ | refine aOff1 ?_ | refine aOff2 ?_ | (refine aSplit ?_ ?_ <;> intro hsp) | (refine RegA.done ‹_› ?_; first | refine aKeep [0, 2, 4] ?_ | skip))
    | (refine isA ?_; first | refine awp_seq fun K hK => ?_ | refine Awp.reg ?_ | refine Awp.skip ?_ | refine Awp.block ?_ | refine Awp.scope ?_ | refine aCt ?_ | refine aCf ?_ | (refine aCond ?_ ?_ <;> intro hsp) | (refine Awp.exit ?_; simp only [blockQ, thenQ, scopeQ, ↓reduceIte, Nat.reduceEqDiff]))
    | (refine viaK ‹_› ?_; first | refine aKeep [0, 2, 4] ?_ | skip)
    | simp only [thenQ_normal, blockQ_normal]))
  all_goals (refine Awp.ret ?_; refine aRet ?_; (simp [-List.getD_eq_getElem?_getD, laxR, laxX, laxC, laxCs, rB, rN, rO, rBy, rSup, supP_len, rB2, rEn, newE_dec]))

theorem frB_hi {a w : Int} (h : 24 ≤ a) (h2 : a < w) : frB a w = !decide (a < 96) := by
  cases hb : frB a w with
  | true => have := frB_iff.1 hb; rw [decide_eq_false (by omega)]; rfl
  | false =>
    rcases Decidable.em (a < 96) with h3 | h3
    · rw [decide_eq_true h3]; rfl
    · rw [frB_iff.2 ⟨by omega, h2, .inr (by omega)⟩] at hb; cases hb
theorem frB_no {a w : Int} (h : a < 16 ∨ w ≤ a) : frB a w = false := by
  cases hb : frB a w with
  | true => have := frB_iff.1 hb; omega
  | false => rfl
theorem frB_lo {a w : Int} (h0 : 16 ≤ a) (h : a < 24) (h2 : a < w) : frB a w = true := frB_iff.2 ⟨h0, h2, .inl h⟩
set_option maxHeartbeats 4000000 in
set_option maxRecDepth 10000 in
open Xdf36d5a in
theorem k_entry_may (a w : Int) : Con Try.prog 32 [vN .i64 a, vN .i64 w] [rB (frB a w)] := by
  refine con_of_awp hmix Try.func32 s32 rfl (by rw [n32]; simp) r32 n32 ?_
  simp only [Eng.start, startFr, inX, sN, vN, List.map_cons, List.map_nil, supA, supC, sEn, c32]
  (repeat' (first
    | (refine isR ?_; first | refine aOp ?_ | refine aOff1 ?_ | refine aOff2 ?_ | (refine aSplit ?_ ?_ <;> intro hsp) | (refine RegA.done ‹_› ?_; first | refine aKeep [0, 1, 4, 5] ?_ | skip))
    | (refine isA ?_; first | refine awp_seq fun K hK => ?_ | refine Awp.reg ?_ | refine Awp.skip ?_ | refine Awp.block ?_ | refine Awp.scope ?_ | refine aCt ?_ | refine aCf ?_ | (refine aCond ?_ ?_ <;> intro hsp) | (refine Awp.exit ?_; simp only [blockQ, thenQ, scopeQ, ↓reduceIte, Nat.reduceEqDiff]))
    | (refine viaK ‹_› ?_; first | refine aKeep [0, 1, 4, 5] ?_ | skip)
    | simp only [thenQ_normal, blockQ_normal]))
  all_goals (have e : frB a w = _ := (by first | exact frB_no (by omega) | exact frB_hi (by omega) (by omega) | exact frB_lo (by omega) (by omega) (by omega)); (refine Awp.ret ?_; refine aRet ?_; (simp [-List.getD_eq_getElem?_getD, laxR, laxX, laxC, laxCs, rB, rN, rO, rBy, rSup, supP_len, rB2, rEn, e])))
set_option maxHeartbeats 4000000 in
set_option maxRecDepth 10000 in
open Xdf36d5a in
theorem k_entry_May (a w : Int) : Con Try.prog 10 [vN .i64 a, vN .i64 w] [rB (mayB a w), rN .i64 (mayE w)] := by
  refine con_of_awp hmix Try.func10 s10 rfl (by rw [n10]; simp) r10 n10 ?_
  simp only [Eng.start, startFr, inX, sN, vN, List.map_cons, List.map_nil, supA, supC, sEn, c10]
  (repeat' (first
    | (refine isR ?_; first | (refine isC ?_; first | (refine isF 31 ?_; first | (refine aCallF 31 ?_; apply aE3; exact k_entry_isDevice _; exact flatA; refine aPost ?_)) | (refine isF 32 ?_; first | (refine aCallF 32 ?_; apply aE3; exact k_entry_may _ _; exact flatA; refine aPost ?_))) | refine aOp ?_ | refine aOff1 ?_ | refine aOff2 ?_ | (refine aSplit ?_ ?_ <;> intro hsp) | (refine RegA.done ‹_› ?_; first | refine aKeep [0, 1, 4, 5, 8] ?_ | skip))
    | (refine isA ?_; first | refine awp_seq fun K hK => ?_ | refine Awp.reg ?_ | refine Awp.skip ?_ | refine Awp.block ?_ | refine Awp.scope ?_ | refine aCt ?_ | refine aCf ?_ | (refine aCond ?_ ?_ <;> intro hsp) | (refine Awp.exit ?_; simp only [blockQ, thenQ, scopeQ, ↓reduceIte, Nat.reduceEqDiff]))
    | (refine viaK ‹_› ?_; first | refine aKeep [0, 1, 4, 5, 8] ?_ | skip)
    | simp only [thenQ_normal, blockQ_normal]))
  · obtain ⟨e1, e2⟩ := may_no a ‹sz w = false›
    (refine Awp.ret ?_; refine aRet ?_; (simp [-List.getD_eq_getElem?_getD, laxR, laxX, laxC, laxCs, rB, rN, rO, rBy, rSup, supP_len, rB2, rEn, e1, e2]))
  · obtain ⟨e1, e2⟩ := may_yes a ‹sz w = true›
    (refine Awp.ret ?_; refine aRet ?_; (simp [-List.getD_eq_getElem?_getD, laxR, laxX, laxC, laxCs, rB, rN, rO, rBy, rSup, supP_len, rB2, rEn, e1, e2]))
theorem keyMP : keyK Try.prog 67 = some (.i64, 4) := by kernel_rfl
theorem zMP : (Try.prog.info? 4).bind (·.zero) = some (.bool false) := by kernel_rfl
set_option maxHeartbeats 4000000 in
set_option maxRecDepth 10000 in
open Xdf36d5a in
theorem h_entry_set_add_in {wS : List (Nat × Ob)} {nx b : Nat} {ks : List Int} {a : Int} (hb : lk wS b = some (.mp .i64 (setK (.bool true) ks))) (h : a ∈ ks) : CallH Try.prog 33 wS nx [one (.mpt b), vv (.int .i64 a)] wS nx (vv (.bool false)) := by
  refine callH_of_awp hmix Try.func33 s33 rfl (by rw [n33]; simp) r33 n33 ?_
  simp only [startH, numAV, Nat.zero_add, Nat.reduceAdd, vv, one, c33]
  (have XH := (And.intro (And.intro @hb (And.intro @keyMP @zMP)) (And.intro @setK_bool (And.intro @seeV_bool @h))); (repeat' (first
    | (refine isR ?_; first | refine aOp ?_ | refine aOp2 ?_ | refine aOff1 ?_ | refine aOff2 ?_ | (refine aSplit ?_ ?_ <;> intro hsp) | (refine RegA.done ‹_› ?_))
    | (refine isA ?_; first | refine awp_seq fun K hK => ?_ | refine Awp.reg ?_ | refine Awp.skip ?_ | refine Awp.block ?_ | refine Awp.scope ?_ | refine aCt ?_ | refine aCf ?_ | (refine aCond ?_ ?_ <;> intro hsp) | (refine Awp.exit ?_; simp only [blockQ, thenQ, scopeQ, ↓reduceIte, Nat.reduceEqDiff]))
    | (refine viaK ‹_› ?_)
    | simp only [thenQ_normal, blockQ_normal])); all_goals (clear XH))
  all_goals (refine Awp.ret ?_; refine ⟨.inl rfl, _, (by simp only [resVs, resV, cellsAt_ptr, cellsAt_eptr, cellsAt_cptr, asVal, Option.bind_some, ↓reduceIte, Nat.reduceEqDiff, List.take_succ_cons, List.take_zero, List.take_nil, List.drop_zero, List.drop_succ_cons, List.drop_nil, Nat.reduceLeDiff, Nat.zero_add, Nat.reduceAdd, List.length_cons, List.length_nil, List.length_map, List.cons_append, List.nil_append, List.append_nil, TK.isAgg, spl, one, vv, lk_nil, lk_cons, TI]; rfl), rfl, ?_, rfl⟩; exact fun _ _ h => h)
set_option maxHeartbeats 4000000 in
set_option maxRecDepth 10000 in
open Xdf36d5a in
theorem h_entry_set_add_new {wS : List (Nat × Ob)} {nx b : Nat} {ks : List Int} {a : Int} (hb : lk wS b = some (.mp .i64 (setK (.bool true) ks))) (h : ¬ a ∈ ks) : CallH Try.prog 33 wS nx [one (.mpt b), vv (.int .i64 a)] ((b, .mp .i64 (setK (.bool true) (ks ++ [a]))) :: wS) nx (vv (.bool true)) := by
  refine callH_of_awp hmix Try.func33 s33 rfl (by rw [n33]; simp) r33 n33 ?_
  simp only [startH, numAV, Nat.zero_add, Nat.reduceAdd, vv, one, c33]
  (have XH := (And.intro (And.intro @hb (And.intro @keyMP @zMP)) (And.intro (And.intro @setK_bool @seeV_bool) (And.intro @h (setK_upd (.bool true) h)))); (repeat' (first
    | (refine isR ?_; first | refine aOp ?_ | refine aOp2 ?_ | refine aOff1 ?_ | refine aOff2 ?_ | (refine aSplit ?_ ?_ <;> intro hsp) | (refine RegA.done ‹_› ?_))
    | (refine isA ?_; first | refine awp_seq fun K hK => ?_ | refine Awp.reg ?_ | refine Awp.skip ?_ | refine Awp.block ?_ | refine Awp.scope ?_ | refine aCt ?_ | refine aCf ?_ | (refine aCond ?_ ?_ <;> intro hsp) | (refine Awp.exit ?_; simp only [blockQ, thenQ, scopeQ, ↓reduceIte, Nat.reduceEqDiff]))
    | (refine viaK ‹_› ?_)
    | simp only [thenQ_normal, blockQ_normal])); all_goals (clear XH))
  all_goals (refine Awp.ret ?_; refine ⟨.inl rfl, _, (by simp only [resVs, resV, cellsAt_ptr, cellsAt_eptr, cellsAt_cptr, asVal, Option.bind_some, ↓reduceIte, Nat.reduceEqDiff, List.take_succ_cons, List.take_zero, List.take_nil, List.drop_zero, List.drop_succ_cons, List.drop_nil, Nat.reduceLeDiff, Nat.zero_add, Nat.reduceAdd, List.length_cons, List.length_nil, List.length_map, List.cons_append, List.nil_append, List.append_nil, TK.isAgg, spl, one, vv, lk_nil, lk_cons, TI]; rfl), rfl, ?_, rfl⟩; exact fun _ _ h => h)

/-- The addresses of the first entries. -/
@[irreducible] def atI (l : List Ent) (i : Nat) : List Int := (l.take i).map Ent.at_
theorem atI_zero (l : List Ent) : atI l 0 = [] := by unfold atI; rfl
theorem atI_succ {l : List Ent} {i : Nat} (h : i < l.length) : atI l i ++ [(l.getD i default).at_] = atI l (i + 1) := by
  unfold atI
  have e : l.take (i + 1) = l.take i ++ [l.getD i default] := by
    rw [List.take_add_one, List.getElem?_eq_getElem h]
    simp [List.getD, h]
  rw [e, List.map_append]; rfl
theorem atI_mem {l : List Ent} {x : Int} : ∀ {i : Nat}, i ≤ l.length → (x ∈ atI l i ↔ ∃ k, k < i ∧ (l.getD k default).at_ = x)
  | 0, _ => by rw [atI_zero]; exact ⟨fun h => absurd h List.not_mem_nil, fun ⟨k, hk, _⟩ => absurd hk (Nat.not_lt_zero k)⟩
  | i + 1, h => by
    rw [← atI_succ (by omega), List.mem_append, atI_mem (by omega), List.mem_singleton]
    constructor
    · rintro (⟨k, hk, e⟩ | e)
      · exact ⟨k, by omega, e⟩
      · exact ⟨i, by omega, e.symm⟩
    · rintro ⟨k, hk, e⟩
      rcases Nat.lt_succ_iff_lt_or_eq.1 hk with h1 | rfl
      · exact .inl ⟨k, h1, e⟩
      · exact .inr e.symm
theorem ch_tri {l : List Ent} (w : Int) {i : Nat} (hi : i ≤ l.length) :
    (i < l.length ∧ decide ((i : Int) < (l.length : Int)) = true ∧ frB (l.getD i default).at_ w = false) ∨ (i < l.length ∧ decide ((i : Int) < (l.length : Int)) = true ∧ frB (l.getD i default).at_ w = true ∧ (l.getD i default).at_ ∈ atI l i) ∨
    (i < l.length ∧ decide ((i : Int) < (l.length : Int)) = true ∧ frB (l.getD i default).at_ w = true ∧ ¬ (l.getD i default).at_ ∈ atI l i) ∨ (i = l.length ∧ decide ((i : Int) < (l.length : Int)) = false ∧ True) := by
  rcases Nat.lt_or_ge i l.length with h | h
  · cases hb : frB (l.getD i default).at_ w with
    | false => exact .inl ⟨h, decide_eq_true (by omega), rfl⟩
    | true =>
      by_cases hm : (l.getD i default).at_ ∈ atI l i
      · exact .inr (.inl ⟨h, decide_eq_true (by omega), rfl, hm⟩)
      · exact .inr (.inr (.inl ⟨h, decide_eq_true (by omega), rfl, hm⟩))
  · exact .inr (.inr (.inr ⟨by omega, decide_eq_false (by omega), trivial⟩))
set_option maxHeartbeats 4000000 in
set_option maxRecDepth 10000 in
open Xdf36d5a in
theorem k_entry_Check0 (l : List Ent) (w : Int) : Con Try.prog 12 [sEn l, vN .i64 w] [rN .i64 (enE l w)] := by
  refine con_of_awp hmix Try.func12 s12 rfl (by rw [n12]; simp) r12 n12 ?_
  simp only [Eng.start, startFr, inX, sN, vN, List.map_cons, List.map_nil, supA, supC, sEn, c12]
  (have XH := (And.intro @keyMP @zMP); (repeat' (first
    | (refine isR ?_; first | (refine isC ?_; first | (refine isF 31 ?_; first | (refine aCallF 31 ?_; apply aE3; exact k_entry_isDevice _; exact flatA; refine aPost ?_))) | refine aOp ?_ | refine aOp2 ?_ | refine aOff1 ?_ | refine aOff2 ?_ | (refine aSplit ?_ ?_ <;> intro hsp) | (refine RegA.done ‹_› ?_; first | refine aKeep [0, 1, 4, 5, 7, 10, 13, 15, 16, 17, 18, 32] ?_ | skip))
    | (refine isA ?_; first | refine awp_seq fun K hK => ?_ | refine Awp.reg ?_ | refine Awp.skip ?_ | refine Awp.block ?_ | refine Awp.scope ?_ | refine aCt ?_ | refine aCf ?_ | (refine aCond ?_ ?_ <;> intro hsp) | (refine Awp.exit ?_; simp only [blockQ, thenQ, scopeQ, ↓reduceIte, Nat.reduceEqDiff]))
    | (refine viaK ‹_› ?_; first | refine aKeep [0, 1, 4, 5, 7, 10, 13, 15, 16, 17, 18, 32] ?_ | skip)
    | simp only [thenQ_normal, blockQ_normal])); all_goals (clear XH))
  · have e := enE_2 (l := l) ‹sz w = false›
    (refine Awp.ret ?_; refine aRet ?_; (simp [-List.getD_eq_getElem?_getD, laxR, laxX, laxC, laxCs, rB, rN, rO, rBy, rSup, supP_len, rB2, rEn, e]))
  · have e := enE_4 (l := l) ‹sz w = true› (by omega)
    (refine Awp.ret ?_; refine aRet ?_; (simp [-List.getD_eq_getElem?_getD, laxR, laxX, laxC, laxCs, rB, rN, rO, rBy, rSup, supP_len, rB2, rEn, e]))
  · refine Awp.loopK (α := {i : Nat // i ≤ l.length ∧ okTo l w i}) (fun x => [(17, vv (.int .i64 (x.1 : Int)))]) (fun x => [(0, .mp .i64 (setK (.bool true) (atI l x.1)))]) [1, 5, 15, 16] [] (fun x => l.length - x.1) ⟨0, by omega, fun j hj => absurd hj (by omega)⟩ [] (by simp only [List.filterMap_cons, List.filterMap_nil, lk_nil, lk_cons, ↓reduceIte, Nat.reduceEqDiff, Option.map_some, Option.map_none]; rfl) (by simp only [List.filterMap_cons, List.filterMap_nil, lk_nil, lk_cons, ↓reduceIte, Nat.reduceEqDiff, Option.map_some, Option.map_none]; rfl) rfl rfl ?_ ?_
    · simp only [Wk, frIn, hpIn, lk_nil, lk_cons, renV, renX, renC, belV, belX, belC, belL, belB, List.cons_append, List.nil_append, ↓reduceIte, Nat.reduceEqDiff, and_self, and_true, true_and] <;> simp [-List.getD_eq_getElem?_getD, vv, one, renV, renX, renC, belV, belX, belC, belL, belB, rho, renO, belO, lk_nil, lk_cons, atI_zero, setK_nil]
    · rintro ⟨i, hi, ho⟩
      simp only [vv, one, List.cons_append, List.nil_append]
      rcases ch_tri w hi with ⟨hi1, e0, hf⟩ | ⟨hi1, e0, hf, hm⟩ | ⟨hi1, e0, hf, hm⟩ | ⟨hi1, e0, hf⟩ <;>
      (have XH := (And.intro (And.intro @e0 @hf) (And.intro @keyMP @zMP)); have XG := (And.intro @e0 @hf); (repeat' (first
        | (refine isR ?_; first | (refine isC ?_; first | (refine isF 32 ?_; first | (refine aCallF 32 ?_; apply aE3; exact k_entry_may _ _; exact flatA; refine aPost ?_))) | (refine aCallH 33 ?_; apply aE5; exact h_entry_set_add_in rfl hm; refine aPost2 ?_) | (refine aCallH 33 ?_; apply aE5; exact h_entry_set_add_new rfl hm; refine aPost2 ?_) | refine aOp ?_ | refine aOp2 ?_ | refine aOff1 ?_ | refine aOff2 ?_ | (refine aSplit ?_ ?_ <;> intro hsp) | (refine RegA.done ‹_› ?_; first | refine aKeep [0, 1, 4, 5, 7, 10, 13, 15, 16, 17, 18, 32] ?_ | skip))
        | (refine isA ?_; first | refine awp_seq fun K hK => ?_ | refine Awp.reg ?_ | refine Awp.skip ?_ | refine Awp.block ?_ | refine Awp.scope ?_ | refine aCt ?_ | refine aCf ?_ | (refine aCond ?_ ?_ <;> intro hsp) | (refine Awp.exit ?_; simp only [blockQ, thenQ, scopeQ, ↓reduceIte, Nat.reduceEqDiff]))
        | (refine viaK ‹_› ?_; first | refine aKeep [0, 1, 4, 5, 7, 10, 13, 15, 16, 17, 18, 32] ?_ | skip)
        | simp only [thenQ_normal, blockQ_normal])); all_goals (clear XH; clear XG))
      · have e := enE_8a (l := l) ‹sz w = true› (by omega) (i := i) hi1 hf
        (refine Awp.ret ?_; refine aRet ?_; (simp [-List.getD_eq_getElem?_getD, laxR, laxX, laxC, laxCs, rB, rN, rO, rBy, rSup, supP_len, rB2, rEn, e]))
      · obtain ⟨k, hk, hke⟩ := (atI_mem hi).1 hm
        have e := enE_8b (l := l) (w := w) ‹sz w = true› (by omega) (i := i) (k := k) hi1 hk hke
        (refine Awp.ret ?_; refine aRet ?_; (simp [-List.getD_eq_getElem?_getD, laxR, laxX, laxC, laxCs, rB, rN, rO, rBy, rSup, supP_len, rB2, rEn, e]))
      · refine RegA.nil ⟨⟨i + 1, by omega, fun j hj => by rcases Nat.lt_succ_iff_lt_or_eq.1 hj with h | rfl; exact ho j h; exact ⟨hf, fun k hk hke => hm ((atI_mem hi).2 ⟨k, hk, hke⟩)⟩⟩, [], ?_, ?_⟩
        · simp only [Wk, frIn, hpIn, lk_nil, lk_cons, renV, renX, renC, belV, belX, belC, belL, belB, List.cons_append, List.nil_append, ↓reduceIte, Nat.reduceEqDiff, and_self, and_true, true_and] <;> simp [-List.getD_eq_getElem?_getD, vv, one, renV, renX, renC, belV, belX, belC, belL, belB, rho, renO, belO, lk_nil, lk_cons, atI_succ hi1]
        · (simp only []; omega)
      · subst hi1
        have e := enE_0 (l := l) ‹sz w = true› (by omega) ho
        (refine Awp.ret ?_; refine aRet ?_; (simp [-List.getD_eq_getElem?_getD, laxR, laxX, laxC, laxCs, rB, rN, rO, rBy, rSup, supP_len, rB2, rEn, e]))
theorem k_entry_Check (l : List Ent) (w : Int) (hl : l.length ≤ 1000000) : Con Try.prog 12 [sEn l, vN .i64 w] [rN .i64 (enE l w)] := k_entry_Check0 l w
set_option maxHeartbeats 4000000 in
set_option maxRecDepth 10000 in
open Xdf36d5a in
theorem k_entry_Words (l : List Ent) (w : Int) (hl : l.length ≤ 1000000) : Con Try.prog 11 [sEn l, vN .i64 w] [rO .u64 (enWs l w), rN .i64 (enE l w)] := by
  refine con_of_awp hmix Try.func11 s11 rfl (by rw [n11]; simp) r11 n11 ?_
  simp only [Eng.start, startFr, inX, sN, vN, List.map_cons, List.map_nil, supA, supC, sEn, c11]
  (repeat' (first
    | (refine isR ?_; first | (refine isC ?_; first | (refine isF 12 ?_; first | (refine aCallF 12 ?_; apply aE3; exact k_entry_Check0 _ _; exact flatA; refine aPost ?_))) | refine aOp ?_ | refine aOff1 ?_ | refine aOff2 ?_ | (refine aSplit ?_ ?_ <;> intro hsp) | (refine RegA.done ‹_› ?_; first | refine aKeep [0, 1, 4, 5, 6, 7, 9, 14, 16, 17, 18, 19] ?_ | skip))
    | (refine isA ?_; first | refine awp_seq fun K hK => ?_ | refine Awp.reg ?_ | refine Awp.skip ?_ | refine Awp.block ?_ | refine Awp.scope ?_ | refine aCt ?_ | refine aCf ?_ | (refine aCond ?_ ?_ <;> intro hsp) | (refine Awp.exit ?_; simp only [blockQ, thenQ, scopeQ, ↓reduceIte, Nat.reduceEqDiff]))
    | (refine viaK ‹_› ?_; first | refine aKeep [0, 1, 4, 5, 6, 7, 9, 14, 16, 17, 18, 19] ?_ | skip)
    | simp only [thenQ_normal, blockQ_normal]))
  · have e := enWs_no ‹¬ enE l w = 0›
    (refine Awp.ret ?_; refine aRet ?_; (simp [-List.getD_eq_getElem?_getD, laxR, laxX, laxC, laxCs, rB, rN, rO, rBy, rSup, supP_len, rB2, rEn, e]))
  · refine Awp.loopK (α := {i : Nat // i ≤ l.length}) (fun x => [(18, vv (.int .i64 (x.1 : Int))), (7, one (.own 1 (lsI l x.1).length))]) (fun x => [(1, .row (rg 1 (lsI l x.1)) ((lsI l x.1).map (numD .u64)) false)]) [4, 5, 16, 17] [0] (fun x => l.length - x.1) ⟨0, by omega⟩ [] (by simp only [List.filterMap_cons, List.filterMap_nil, lk_nil, lk_cons, ↓reduceIte, Nat.reduceEqDiff, Option.map_some, Option.map_none]; rfl) (by simp only [List.filterMap_cons, List.filterMap_nil, lk_nil, lk_cons, ↓reduceIte, Nat.reduceEqDiff, Option.map_some, Option.map_none]; rfl) rfl rfl ?_ ?_
    · simp only [Wk, frIn, hpIn, lk_nil, lk_cons, renV, renX, renC, belV, belX, belC, belL, belB, List.cons_append, List.nil_append, ↓reduceIte, Nat.reduceEqDiff, and_self, and_true, true_and] <;> simp [-List.getD_eq_getElem?_getD, vv, one, renV, renX, renC, belV, belX, belC, belL, belB, rho, renO, belO, lk_nil, lk_cons, rg_nil, lsI_zero]
    · rintro ⟨i, hi⟩
      have hcl := lsI_len (l := l) hi
      dsimp only
      simp only [vv, one, List.cons_append, List.nil_append]
      (have XH := (And.intro (@rg_or Int) @List.length_append.{0}); have XG := (And.intro (And.intro (And.intro @num_snoc2 @List.take_succ_cons.{0}) (And.intro @List.take_zero.{0} (And.intro @List.take_nil.{0} @List.length_cons.{0}))) (And.intro (And.intro @List.length_nil.{0} @Nat.zero_add) (And.intro @List.drop_succ_cons.{0} (And.intro @List.drop_zero.{0} @List.drop_nil.{0})))); (repeat' (first
        | (refine isR ?_; first | refine aOp ?_ | refine aOff1 ?_ | refine aOff2 ?_ | (refine aSplit ?_ ?_ <;> intro hsp) | (refine RegA.done ‹_› ?_; first | refine aKeep [0, 1, 4, 5, 6, 7, 9, 14, 16, 17, 18, 19] ?_ | skip))
        | (refine isA ?_; first | refine awp_seq fun K hK => ?_ | refine Awp.reg ?_ | refine Awp.skip ?_ | refine Awp.block ?_ | refine Awp.scope ?_ | refine aCt ?_ | refine aCf ?_ | (refine aCond ?_ ?_ <;> intro hsp) | (refine Awp.exit ?_; simp only [blockQ, thenQ, scopeQ, ↓reduceIte, Nat.reduceEqDiff]))
        | (refine viaK ‹_› ?_; first | refine aKeep [0, 1, 4, 5, 6, 7, 9, 14, 16, 17, 18, 19] ?_ | skip)
        | simp only [thenQ_normal, blockQ_normal])); all_goals (clear XH; clear XG))
      · have e := lsI_succ (l := l) (i := i) (by omega)
        have e3 := rg_snoc2 1 (lsI l i) (IntKind.u64.wrap (l.getD i default).at_) (l.getD i default).v
        refine RegA.nil ⟨⟨i + 1, by omega⟩, [], ?_, ?_⟩
        · simp only [Wk, frIn, hpIn, lk_nil, lk_cons, renV, renX, renC, belV, belX, belC, belL, belB, List.cons_append, List.nil_append, ↓reduceIte, Nat.reduceEqDiff, and_self, and_true, true_and] <;> simp [-List.getD_eq_getElem?_getD, vv, one, renV, renX, renC, belV, belX, belC, belL, belB, rho, renO, belO, lk_nil, lk_cons, ← e, e3]
        · (simp only []; omega)
      · obtain rfl : i = l.length := by omega
        have e0 := ‹enE l w = 0›
        have e2 := enWs_0 ‹enE l w = 0›
        have e : lsT l = lsI l l.length := by unfold lsT; rfl
        rcases rg_or' 1 (lsI l l.length) with hz | hz
        · (refine Awp.ret ?_; refine aRet ?_; (simp [-List.getD_eq_getElem?_getD, laxR, laxX, laxC, laxCs, rB, rN, rO, rBy, rSup, supP_len, rB2, rEn, e0, e2, e, hz]))
        · (refine Awp.ret ?_; refine aRet ?_; (simp [-List.getD_eq_getElem?_getD, laxR, laxX, laxC, laxCs, rB, rN, rO, rBy, rSup, supP_len, rB2, rEn, e0, e2, e, hz, rg_nil]))
theorem get_all {m : List Int} : getL m 0 (m.length : Int) = (if chk m.length = 0 then m else []) ∧ getE m.length 0 m.length = (if chk m.length = 0 then 0 else 8) := by
  by_cases h : chk m.length = 0
  · have e := getE_0 (w := m.length) (a := 0) (n := m.length) h (by omega) (by omega) (by omega)
    rw [if_pos h, if_pos h, getL_0 e]
    exact ⟨by simp, e⟩
  · have e := getE_8 (w := m.length) (a := 0) (n := m.length) h
    rw [if_neg h, if_neg h, getL_no (by omega)]
    exact ⟨rfl, e⟩
theorem k_image_Get_all (m : List Int) (hm : m.length ≤ 1000000) (h : chk m.length = 0) : Con Try.prog 30 [sN .u64 m, vN .i64 0, vN .i64 (m.length : Int)] [rO .u64 m, rN .i64 0] := by
  have h1 := k_image_Get m 0 m.length hm (by omega)
  rwa [get_all.1, get_all.2, if_pos h, if_pos h] at h1
theorem k_image_Get_non (m : List Int) (hm : m.length ≤ 1000000) (h : ¬ chk m.length = 0) : Con Try.prog 30 [sN .u64 m, vN .i64 0, vN .i64 (m.length : Int)] [rO .u64 [], rN .i64 8] := by
  have h1 := k_image_Get m 0 m.length hm (by omega)
  rwa [get_all.1, get_all.2, if_neg h, if_neg h] at h1
theorem hd80 : decide ((8 : Int) = 0) = false := rfl
theorem hd00 : decide ((0 : Int) = 0) = true := rfl
set_option maxHeartbeats 4000000 in
set_option maxRecDepth 10000 in
open Xdf36d5a in
theorem k_entry_Apply_non (m : List Int) (l : List Ent) (hl : l.length ≤ 1000000) (hn : m.length ≤ 1000000) (h : ¬ chk m.length = 0) : Con Try.prog 13 [sN .u64 m, sEn l] [rO .u64 (apV m l), rN .i64 (apE m l)] := by
  refine con_of_awp hmix Try.func13 s13 rfl (by rw [n13]; simp) r13 n13 ?_
  simp only [Eng.start, startFr, inX, sN, vN, List.map_cons, List.map_nil, supA, supC, sEn, c13]
  (have XH := @hd80; have XG := @hd80; (repeat' (first
    | (refine isR ?_; first | (refine isC ?_; first | (refine isF 30 ?_; first | (refine aCall 30 ?_; apply aE2; exact k_image_Get_non _ (by omega) h; refine aPost ?_))) | refine aOp ?_ | refine aOff1 ?_ | refine aOff2 ?_ | (refine aSplit ?_ ?_ <;> intro hsp) | (refine RegA.done ‹_› ?_; first | refine aKeep [0, 1, 4, 5, 6, 7, 8, 10, 19, 26, 28, 29, 30, 31] ?_ | skip))
    | (refine isA ?_; first | refine awp_seq fun K hK => ?_ | refine Awp.reg ?_ | refine Awp.skip ?_ | refine Awp.block ?_ | refine Awp.scope ?_ | refine aCt ?_ | refine aCf ?_ | (refine aCond ?_ ?_ <;> intro hsp) | (refine Awp.exit ?_; simp only [blockQ, thenQ, scopeQ, ↓reduceIte, Nat.reduceEqDiff]))
    | (refine viaK ‹_› ?_; first | refine aKeep [0, 1, 4, 5, 6, 7, 8, 10, 19, 26, 28, 29, 30, 31] ?_ | skip)
    | simp only [thenQ_normal, blockQ_normal])); all_goals (clear XH; clear XG))
  all_goals
    have e := apE_8 l h
    have e2 := apV_no (m := m) (l := l) (by omega)
    (refine Awp.ret ?_; refine aRet ?_; (simp [-List.getD_eq_getElem?_getD, laxR, laxX, laxC, laxCs, rB, rN, rO, rBy, rSup, supP_len, rB2, rEn, e, e2]))
set_option maxHeartbeats 4000000 in
set_option maxRecDepth 10000 in
open Xdf36d5a in
theorem k_entry_Apply_chk (m : List Int) (l : List Ent) (hl : l.length ≤ 1000000) (hn : m.length ≤ 1000000) (h : chk m.length = 0) : Con Try.prog 13 [sN .u64 m, sEn l] [rO .u64 (apV m l), rN .i64 (apE m l)] := by
  refine con_of_awp hmix Try.func13 s13 rfl (by rw [n13]; simp) r13 n13 ?_
  simp only [Eng.start, startFr, inX, sN, vN, List.map_cons, List.map_nil, supA, supC, sEn, c13]
  (have XH := @hd00; have XG := @hd00; (repeat' (first
    | (refine isR ?_; first | (refine isC ?_; first | (refine isF 30 ?_; first | (refine aCall 30 ?_; apply aE2; exact k_image_Get_all _ (by omega) h; refine aPost ?_)) | (refine isF 12 ?_; first | (refine aCallF 12 ?_; apply aE3; exact k_entry_Check0 _ _; exact flatA; refine aPost ?_))) | refine aOp ?_ | refine aOff1 ?_ | refine aOff2 ?_ | (refine aSplit ?_ ?_ <;> intro hsp) | (refine RegA.done ‹_› ?_; first | refine aKeep [0, 1, 4, 5, 6, 7, 8, 10, 19, 26, 28, 29, 30, 31] ?_ | skip))
    | (refine isA ?_; first | refine awp_seq fun K hK => ?_ | refine Awp.reg ?_ | refine Awp.skip ?_ | refine Awp.block ?_ | refine Awp.scope ?_ | refine aCt ?_ | refine aCf ?_ | (refine aCond ?_ ?_ <;> intro hsp) | (refine Awp.exit ?_; simp only [blockQ, thenQ, scopeQ, ↓reduceIte, Nat.reduceEqDiff]))
    | (refine viaK ‹_› ?_; first | refine aKeep [0, 1, 4, 5, 6, 7, 8, 10, 19, 26, 28, 29, 30, 31] ?_ | skip)
    | simp only [thenQ_normal, blockQ_normal])); all_goals (clear XH; clear XG))
  · have e := apE_y l ‹chk m.length = 0›
    have e2 := apV_no (m := m) (l := l) (by rw [e]; assumption)
    (refine Awp.ret ?_; refine aRet ?_; (simp [-List.getD_eq_getElem?_getD, laxR, laxX, laxC, laxCs, rB, rN, rO, rBy, rSup, supP_len, rB2, rEn, e, e2]))
  · have ho := (enE_is ‹enE l m.length = 0›).2.2
    refine Awp.loopK (α := {i : Nat // i ≤ l.length}) (fun x => [(30, vv (.int .i64 (x.1 : Int)))]) (fun x => [(1, .row 1 ((apI m l x.1).map (numD .u64)) false)]) [4, 5, 6, 28, 29] [0] (fun x => l.length - x.1) ⟨0, by omega⟩ [] (by simp only [List.filterMap_cons, List.filterMap_nil, lk_nil, lk_cons, ↓reduceIte, Nat.reduceEqDiff, Option.map_some, Option.map_none]; rfl) (by simp only [List.filterMap_cons, List.filterMap_nil, lk_nil, lk_cons, ↓reduceIte, Nat.reduceEqDiff, Option.map_some, Option.map_none]; rfl) rfl rfl ?_ ?_
    · simp only [Wk, frIn, hpIn, lk_nil, lk_cons, renV, renX, renC, belV, belX, belC, belL, belB, List.cons_append, List.nil_append, ↓reduceIte, Nat.reduceEqDiff, and_self, and_true, true_and] <;> simp [-List.getD_eq_getElem?_getD, vv, one, renV, renX, renC, belV, belX, belC, belL, belB, rho, renO, belO, lk_nil, lk_cons, apI_zero]
    · rintro ⟨i, hi⟩
      have hal := apI_len m hi
      dsimp only
      simp only [vv, one, List.cons_append, List.nil_append]
      rcases ap_tri ho hi with ⟨hi1, e0, hf⟩ | ⟨hi1, e0, hf⟩ <;>
      (have XH := (And.intro @e0 @hal); have XG := @e0; (repeat' (first
        | (refine isR ?_; first | refine aOp ?_ | refine aOff1 ?_ | refine aOff2 ?_ | (refine aSplit ?_ ?_ <;> intro hsp) | (refine RegA.done ‹_› ?_; first | refine aKeep [0, 1, 4, 5, 6, 7, 8, 10, 19, 26, 28, 29, 30, 31] ?_ | skip))
        | (refine isA ?_; first | refine awp_seq fun K hK => ?_ | refine Awp.reg ?_ | refine Awp.skip ?_ | refine Awp.block ?_ | refine Awp.scope ?_ | refine aCt ?_ | refine aCf ?_ | (refine aCond ?_ ?_ <;> intro hsp) | (refine Awp.exit ?_; simp only [blockQ, thenQ, scopeQ, ↓reduceIte, Nat.reduceEqDiff]))
        | (refine viaK ‹_› ?_; first | refine aKeep [0, 1, 4, 5, 6, 7, 8, 10, 19, 26, 28, 29, 30, 31] ?_ | skip)
        | simp only [thenQ_normal, blockQ_normal])); all_goals (clear XH; clear XG))
      · refine RegA.nil ⟨⟨i + 1, by omega⟩, [], ?_, ?_⟩
        · simp only [Wk, frIn, hpIn, lk_nil, lk_cons, renV, renX, renC, belV, belX, belC, belL, belB, List.cons_append, List.nil_append, ↓reduceIte, Nat.reduceEqDiff, and_self, and_true, true_and] <;> simp [-List.getD_eq_getElem?_getD, vv, one, renV, renX, renC, belV, belX, belC, belL, belB, rho, renO, belO, lk_nil, lk_cons, num_set, apI_succ m hi1]
        · (simp only []; omega)
      · subst hi1
        have q := apE_y l ‹chk m.length = 0›
        have q1 := ‹enE l m.length = 0›
        have q2 := apV_0 (m := m) (l := l) (by rw [q]; assumption)
        have e : apT m l = apI m l l.length := by unfold apT; rfl
        (refine Awp.ret ?_; refine aRet ?_; (simp [-List.getD_eq_getElem?_getD, laxR, laxX, laxC, laxCs, rB, rN, rO, rBy, rSup, supP_len, rB2, rEn, q, q1, q2, e]))
theorem k_entry_Apply (m : List Int) (l : List Ent) (hl : l.length ≤ 1000000) (hn : m.length ≤ 1000000) : Con Try.prog 13 [sN .u64 m, sEn l] [rO .u64 (apV m l), rN .i64 (apE m l)] := by
  by_cases h : chk m.length = 0
  · exact k_entry_Apply_chk m l hl hn h
  · exact k_entry_Apply_non m l hl hn h

/-- The words of a list, two by two. -/
def prD (l : List Int) (j : Nat) : List D := [D.sl 1 [numD .u64 (l.getD (2 * j) 0), numD .u64 (l.getD (2 * j + 1) 0)]]
@[irreducible] def prI (l : List Int) (n : Nat) : List (List D) := (List.range n).map (prD l)
theorem prI_zero (l : List Int) : prI l 0 = [] := by unfold prI; rfl
theorem prI_len (l : List Int) (n : Nat) : (prI l n).length = n := by unfold prI; rw [List.length_map, List.length_range]
theorem prI_succ (l : List Int) (n : Nat) : prI l n ++ [prD l n] = prI l (n + 1) := by
  unfold prI
  rw [List.range_succ, List.map_append]; rfl
theorem prI_at (l : List Int) {n i : Nat} (h : i < n) : (prI l n).getD i [] = prD l i := by
  unfold prI
  simp [List.getD, h]
theorem pr_cut {l : List Int} {i : Nat} (h : 2 * i + 1 < l.length) : [D.sl 1 (List.map (numD .u64) (List.take (2 * i + 2 - 2 * i) (List.drop (2 * i) l)))] = prD l i := by
  have h1 : l.drop (2 * i) = l.getD (2 * i) 0 :: l.getD (2 * i + 1) 0 :: l.drop (2 * i + 2) := by
    rw [List.drop_eq_getElem_cons (show 2 * i < l.length by omega), List.drop_eq_getElem_cons (show 2 * i + 1 < l.length by omega)]
    simp [List.getD, show 2 * i < l.length by omega, h]
  unfold prD
  rw [h1, show 2 * i + 2 - 2 * i = 2 by omega]; rfl
theorem pr_cut2 {l : List Int} {i : Nat} (h : 2 * i + 1 < l.length) : [D.sl 1 (List.take 2 (List.drop (2 * i) (List.map (numD .u64) l)))] = prD l i := by
  rw [← pr_cut h, show 2 * i + 2 - 2 * i = 2 by omega, List.map_take, List.map_drop]
theorem pr_tri {l : List Int} {n i : Nat} (hn : l.length = 2 * n) (hi : i ≤ n) :
    (i < n ∧ decide (2 * (i : Int) < (l.length : Int)) = true ∧ 2 * i + 1 < l.length) ∨ (i = n ∧ decide (2 * (i : Int) < (l.length : Int)) = false ∧ True) := by
  rcases Nat.lt_or_ge i n with h | h
  · exact .inl ⟨h, decide_eq_true (by omega), by omega⟩
  · exact .inr ⟨by omega, decide_eq_false (by omega), trivial⟩
theorem tn2 (i : Nat) : (2 * (i : Int)).toNat = 2 * i := by omega
theorem tn2b (i : Nat) : (2 * (i : Int) + 2).toNat - 2 * i = 2 := by omega
theorem tn2c (i : Nat) : 2 * (i : Int) + 2 = 2 * ((i : Int) + 1) := by omega
set_option maxHeartbeats 4000000 in
set_option maxRecDepth 10000 in
open Xdf36d5a in
theorem k_entry_pairs (l : List Int) (n : Nat) (hn : l.length = 2 * n) (hl : n ≤ 1000000) : Con Try.prog 35 [sN .u64 l] [RX.one (.o 1 (prI l n))] := by
  refine con_of_awp hmix Try.func35 s35 rfl (by rw [n35]; simp) r35 n35 ?_
  simp only [Eng.start, startFr, inX, sN, vN, List.map_cons, List.map_nil, supA, supC, sEn, c35]
  (repeat' (first
    | (refine isR ?_; first | refine aOp ?_ | refine aOff1 ?_ | refine aOff2 ?_ | (refine aSplit ?_ ?_ <;> intro hsp) | (refine RegA.done ‹_› ?_; first | refine aKeep [0, 2, 3, 4, 5, 9] ?_ | skip))
    | (refine isA ?_; first | refine awp_seq fun K hK => ?_ | refine Awp.reg ?_ | refine Awp.skip ?_ | refine Awp.block ?_ | refine Awp.scope ?_ | refine aCt ?_ | refine aCf ?_ | (refine aCond ?_ ?_ <;> intro hsp) | (refine Awp.exit ?_; simp only [blockQ, thenQ, scopeQ, ↓reduceIte, Nat.reduceEqDiff]))
    | (refine viaK ‹_› ?_; first | refine aKeep [0, 2, 3, 4, 5, 9] ?_ | skip)
    | simp only [thenQ_normal, blockQ_normal]))
  refine Awp.loopK (α := {i : Nat // i ≤ n}) (fun x => [(4, vv (.int .i64 (2 * (x.1 : Int)))), (3, one (.own 1 x.1))]) (fun x => [(1, .row (rg 1 (prI l x.1)) (prI l x.1) false)]) [0, 2] [0] (fun x => n - x.1) ⟨0, by omega⟩ [] (by simp only [List.filterMap_cons, List.filterMap_nil, lk_nil, lk_cons, ↓reduceIte, Nat.reduceEqDiff, Option.map_some, Option.map_none]; rfl) (by simp only [List.filterMap_cons, List.filterMap_nil, lk_nil, lk_cons, ↓reduceIte, Nat.reduceEqDiff, Option.map_some, Option.map_none]; rfl) rfl rfl ?_ ?_
  · simp only [Wk, frIn, hpIn, lk_nil, lk_cons, renV, renX, renC, belV, belX, belC, belL, belB, List.cons_append, List.nil_append, ↓reduceIte, Nat.reduceEqDiff, and_self, and_true, true_and] <;> simp [-List.getD_eq_getElem?_getD, vv, one, renV, renX, renC, belV, belX, belC, belL, belB, rho, renO, belO, lk_nil, lk_cons, prI_zero, rg_nil]
  · rintro ⟨i, hi⟩
    have hcl := prI_len l i
    dsimp only
    simp only [vv, one, List.cons_append, List.nil_append]
    rcases pr_tri hn hi with ⟨hi1, e0, hf⟩ | ⟨hi1, e0, hf⟩ <;>
    (have XH := (And.intro (And.intro @e0 (And.intro @hcl @tn2)) (And.intro @tn2b (And.intro (@rg_or (List D)) @List.length_append.{0}))); have XG := (And.intro @e0 (And.intro @tn2 @tn2b)); (repeat' (first
      | (refine isR ?_; first | refine aOp ?_ | refine aOff1 ?_ | refine aOff2 ?_ | (refine aSplit ?_ ?_ <;> intro hsp) | (refine RegA.done ‹_› ?_; first | refine aKeep [0, 2, 3, 4, 5, 9] ?_ | skip))
      | (refine isA ?_; first | refine awp_seq fun K hK => ?_ | refine Awp.reg ?_ | refine Awp.skip ?_ | refine Awp.block ?_ | refine Awp.scope ?_ | refine aCt ?_ | refine aCf ?_ | (refine aCond ?_ ?_ <;> intro hsp) | (refine Awp.exit ?_; simp only [blockQ, thenQ, scopeQ, ↓reduceIte, Nat.reduceEqDiff]))
      | (refine viaK ‹_› ?_; first | refine aKeep [0, 2, 3, 4, 5, 9] ?_ | skip)
      | simp only [thenQ_normal, blockQ_normal])); all_goals (clear XH; clear XG))
    · have e3 := rg_snoc 1 (prI l i) (prD l i)
      have e4 := prI_succ l i
      refine RegA.nil ⟨⟨i + 1, by omega⟩, [], ?_, ?_⟩
      · simp only [Wk, frIn, hpIn, lk_nil, lk_cons, renV, renX, renC, belV, belX, belC, belL, belB, List.cons_append, List.nil_append, ↓reduceIte, Nat.reduceEqDiff, and_self, and_true, true_and] <;> simp [-List.getD_eq_getElem?_getD, vv, one, renV, renX, renC, belV, belX, belC, belL, belB, rho, renO, belO, lk_nil, lk_cons, pr_cut2 hf, ← e4, e3, tn2c]
      · (simp only []; omega)
    · subst hi1
      rcases rg_or' 1 (prI l i) with hz | hz
      · (refine Awp.ret ?_; refine aRet ?_; (simp [-List.getD_eq_getElem?_getD, laxR, laxX, laxC, laxCs, rB, rN, rO, rBy, rSup, supP_len, rB2, rEn, hz, prI_len]))
      · (refine Awp.ret ?_; refine aRet ?_; (simp [-List.getD_eq_getElem?_getD, laxR, laxX, laxC, laxCs, rB, rN, rO, rBy, rSup, supP_len, rB2, rEn, hz, prI_len, rg_nil]))

/-- The words of the first entries of the journal. -/
@[irreducible] def gwL (m : List Int) (n : Nat) : List Int := (m.drop 32).take (2 * n)
theorem gwL_len {m : List Int} {n : Nat} (hm : chk m.length = 0) (hn : n ≤ 32) : (gwL m n).length = 2 * n := by
  have := chk_le hm
  unfold gwL
  rw [List.length_take, List.length_drop]; omega
theorem gwL_at {m : List Int} {n i : Nat} (hi : i < n) : (gwL m n).getD (2 * i) 0 = m.getD (32 + 2 * i) 0 ∧ (gwL m n).getD (2 * i + 1) 0 = m.getD (33 + 2 * i) 0 := by
  have key : ∀ k, k < 2 * n → (gwL m n).getD k 0 = m.getD (32 + k) 0 := fun k hk => by
    unfold gwL
    simp only [List.getD, List.getElem?_take, List.getElem?_drop, if_pos hk]
  exact ⟨key _ (by omega), by rw [key _ (by omega), show 32 + (2 * i + 1) = 33 + 2 * i by omega]⟩
theorem gw_pr {m : List Int} {n i : Nat} (hi : i < n) : (prI (gwL m n) n).getD i [] = [D.sl 1 [numD .u64 (m.getD (32 + 2 * i) 0), numD .u64 (m.getD (33 + 2 * i) 0)]] := by
  rw [prI_at _ hi]
  unfold prD
  rw [(gwL_at hi).1, (gwL_at hi).2]
theorem jr_tri2 {m : List Int} {n i : Nat} (h : i ≤ n) :
    (i < n ∧ decide ((i : Int) < (n : Int)) = true ∧ decide ((m.length : Int) ≤ m.getD (32 + 2 * i) 0) = true ∧ (prI (gwL m n) n).getD i [] = [D.sl 1 [numD .u64 (m.getD (32 + 2 * i) 0), numD .u64 (m.getD (33 + 2 * i) 0)]]) ∨
    (i < n ∧ decide ((i : Int) < (n : Int)) = true ∧ decide ((m.length : Int) ≤ m.getD (32 + 2 * i) 0) = false ∧ (prI (gwL m n) n).getD i [] = [D.sl 1 [numD .u64 (m.getD (32 + 2 * i) 0), numD .u64 (m.getD (33 + 2 * i) 0)]]) ∨
    (i = n ∧ decide ((i : Int) < (n : Int)) = false ∧ rg 2 (jrI m i) = 2 ∧ (0 : Nat) + 0 = 0) ∨ (i = n ∧ decide ((i : Int) < (n : Int)) = false ∧ jrI m i = [] ∧ (0 : Nat) + 0 = 0) := by
  rcases jr_tri (m := m) h with ⟨h1, h2, h3⟩ | ⟨h1, h2, h3⟩ | ⟨h1, h2, h3⟩ | ⟨h1, h2, h3⟩
  · exact .inl ⟨h1, h2, h3, gw_pr h1⟩
  · exact .inr (.inl ⟨h1, h2, h3, gw_pr h1⟩)
  · exact .inr (.inr (.inl ⟨h1, h2, h3, rfl⟩))
  · exact .inr (.inr (.inr ⟨h1, h2, h3, rfl⟩))
theorem k_image_Get_jr (m : List Int) (n : Nat) (hn : n ≤ 32) (h : chk m.length = 0) : Con Try.prog 30 [sN .u64 m, vN .i64 32, vN .i64 (2 * (n : Int))] [rO .u64 (gwL m n), rN .i64 0] := by
  have hl := chk_le h
  have hg := chk_le h
  have h1 := k_image_Get m 32 (2 * (n : Int)) (by omega) (by omega)
  have e := getE_0 (w := m.length) (a := 32) (n := 2 * (n : Int)) h (by omega) (by omega) (by omega)
  rw [getL_0 e, e] at h1
  have e2 : ((m.drop (32 : Int).toNat).take (2 * (n : Int)).toNat) = gwL m n := by unfold gwL; rw [show (2 * (n : Int)).toNat = 2 * n by omega]; rfl
  rwa [e2] at h1
theorem k_image_Check_ok (m : List Int) (h : chk m.length = 0) : Con Try.prog 34 [sN .u64 m] [rN .i64 0] := by
  have h1 := k_image_Check m
  rwa [h] at h1
theorem k_image_Check_no (m : List Int) (h : ¬ chk m.length = 0) : Con Try.prog 34 [sN .u64 m] [rN .i64 8] := by
  have h1 := k_image_Check m
  rwa [chk8 h] at h1
set_option maxHeartbeats 4000000 in
set_option maxRecDepth 10000 in
open Xdf36d5a in
theorem k_entry_Read_in (m : List Int) (n : Nat) (hn : n ≤ 32) (hm : chk m.length = 0) : Con Try.prog 14 [sN .u64 m, vN .i64 (n : Int)] [rEn (rdL m n), rN .i64 (rdE m n)] := by
  have hl := chk_le hm
  have dn0 : decide ((n : Int) < 0) = false := decide_eq_false (by omega)
  have dn32 : decide (32 < (n : Int)) = false := decide_eq_false (by omega)
  have hgl := gwL_len hm hn
  have hpl := prI_len (gwL m n) n
  refine con_of_awp hmix Try.func14 s14 rfl (by rw [n14]; simp) r14 n14 ?_
  simp only [Eng.start, startFr, inX, sN, vN, List.map_cons, List.map_nil, supA, supC, sEn, c14]
  (have XH := (And.intro (And.intro @hd00 @dn0) (And.intro @dn32 @hpl)); have XG := (And.intro @hd00 @hpl); (repeat' (first
    | (refine isR ?_; first | (refine isC ?_; first | (refine isF 34 ?_; first | (refine aCallF 34 ?_; apply aE3; exact k_image_Check_ok _ hm; exact flatA; refine aPost ?_)) | (refine isF 30 ?_; first | (refine aCall 30 ?_; apply aE2; exact k_image_Get_jr _ _ hn hm; refine aPost ?_)) | (refine isF 35 ?_; first | (refine aCall 35 ?_; apply aE2; exact k_entry_pairs _ n (gwL_len hm hn) (by omega); refine aPost ?_))) | refine aOp ?_ | refine aOff1 ?_ | refine aOff2 ?_ | (refine aSplit ?_ ?_ <;> intro hsp) | (refine RegA.done ‹_› ?_; first | refine aKeep [0, 1, 4, 5, 6, 7, 8, 9, 11, 15, 22, 31, 34, 35, 36, 37, 46, 63] ?_ | skip))
    | (refine isN ?_; first | (refine aNcall (f := 34) ?_; apply aE6; exact k_image_Check_ok _ hm; (refine aNr (by simp only [unV', unX, unXs, unC, unL, rN, rB, List.append_nil, List.nil_append, rBy, rSup, supP_len, rB2, rEn]; rfl) rfl rfl); (first | exact .inl rfl | exact .inr flatA); refine aNpost ?_) | refine aNop ?_ | refine aNoff1 ?_ | refine aNoff2 ?_ | (refine aNsplit ?_ ?_ <;> intro hsp) | refine aNnil ?_)
    | (refine isA ?_; first | refine awp_seq fun K hK => ?_ | refine Awp.reg ?_ | refine aDrawN 10 [[], [], [1], [2], [3], [], [5], [6], [4, 7], [8], [0, 9], [10, 10, 0, 1, 2, 3, 4, 5, 6, 7, 8, 9, 10]] [[], [], [1], [2, 1], [3, 2, 1], [], [5], [6, 5], [4, 7, 3, 2, 1, 6, 5], [8, 4, 7, 3, 2, 1, 6, 5], [0, 9, 8, 4, 7, 3, 2, 1, 6, 5], [10, 0, 1, 2, 3, 4, 5, 6, 7, 8, 9]] ?_ | refine Awp.skip ?_ | refine Awp.block ?_ | refine Awp.scope ?_ | refine aCt ?_ | refine aCf ?_ | (refine aCond ?_ ?_ <;> intro hsp) | (refine Awp.exit ?_; simp only [blockQ, thenQ, scopeQ, ↓reduceIte, Nat.reduceEqDiff]))
    | (refine viaK ‹_› ?_; first | refine aKeep [0, 1, 4, 5, 6, 7, 8, 9, 11, 15, 22, 31, 34, 35, 36, 37, 46, 63] ?_ | skip)
    | simp only [thenQ_normal, blockQ_normal])); all_goals (clear XH; clear XG))
  refine Awp.loopK (α := {i : Nat // i ≤ n ∧ jrTo m i}) (fun x => [(36, vv (.int .i64 (x.1 : Int))), (9, one (.own 2 (jrI m x.1).length))]) (fun x => [(2, .row (rg 2 (jrI m x.1)) ((jrI m x.1).map entC) false)]) [0, 34, 35] [0, 3] (fun x => n - x.1) ⟨0, by omega, fun j hj => absurd hj (by omega)⟩ [] (by simp only [List.filterMap_cons, List.filterMap_nil, lk_nil, lk_cons, ↓reduceIte, Nat.reduceEqDiff, Option.map_some, Option.map_none]; rfl) (by simp only [List.filterMap_cons, List.filterMap_nil, lk_nil, lk_cons, ↓reduceIte, Nat.reduceEqDiff, Option.map_some, Option.map_none]; rfl) rfl rfl ?_ ?_
  · simp only [Wk, frIn, hpIn, lk_nil, lk_cons, renV, renX, renC, belV, belX, belC, belL, belB, List.cons_append, List.nil_append, ↓reduceIte, Nat.reduceEqDiff, and_self, and_true, true_and] <;> simp [-List.getD_eq_getElem?_getD, vv, one, renV, renX, renC, belV, belX, belC, belL, belB, rho, renO, belO, lk_nil, lk_cons, rg_nil, jrI_zero]
  · rintro ⟨i, hi, ho⟩
    have hcl := jrI_len m i
    dsimp only
    simp only [vv, one, List.cons_append, List.nil_append]
    rcases jr_tri2 (m := m) hi with ⟨hi1, e0, hf, hp⟩ | ⟨hi1, e0, hf, hp⟩ | ⟨hi1, e0, hf, hp⟩ | ⟨hi1, e0, hf, hp⟩ <;>
    (have XH := (And.intro (And.intro (And.intro @e0 @hf) (And.intro @hp @hpl)) (And.intro (And.intro @rg_nil (@rg_or Ent)) (And.intro @List.length_append.{0} (u64_len m (by omega))))); have XG := (And.intro (And.intro (And.intro (And.intro @ent_snoc @e0) (And.intro @tn32 (And.intro @tn33 @hp))) (And.intro (And.intro @hpl @List.take_succ_cons.{0}) (And.intro @List.take_zero.{0} (And.intro @List.take_nil.{0} @List.length_cons.{0})))) (And.intro (And.intro (And.intro @List.length_nil.{0} @Nat.zero_add) (And.intro @List.drop_succ_cons.{0} (And.intro @List.drop_zero.{0} @List.drop_nil.{0}))) (And.intro (And.intro @Nat.zero_mul @Nat.mul_one) (And.intro @List.nil_append.{0} (And.intro @List.cons_append.{0} @List.append_nil.{0}))))); (repeat' (first
      | (refine isR ?_; first | (refine isC ?_; first | (refine isF 12 ?_; first | (refine aCallF 12 ?_; apply aE3; exact k_entry_Check0 _ _; exact flatA; refine aPost ?_) | (refine aCallL 12 false ?_; apply aE4; exact k_entry_Check0 [] (m.length : Int); (focus (first | exact laxAs_refl _ | (simp [laxAs, laxA, laxDs, laxD, emptyD, vN, sN, supA, supC, sEn]; done))); (exact .inr flatA); refine aPost ?_))) | refine aOp ?_ | refine aOff1 ?_ | refine aOff2 ?_ | (refine aSplit ?_ ?_ <;> intro hsp) | (refine RegA.done ‹_› ?_; first | refine aKeep [0, 1, 4, 5, 6, 7, 8, 9, 11, 15, 22, 31, 34, 35, 36, 37, 46, 63] ?_ | skip))
      | (refine isN ?_; first | (refine aNcall (f := 12) ?_; apply aE6; exact k_entry_Check0 _ _; (refine aNr (by simp only [unV', unX, unXs, unC, unL, rN, rB, List.append_nil, List.nil_append, rBy, rSup, supP_len, rB2, rEn]; rfl) rfl rfl); (first | exact .inl rfl | exact .inr flatA); refine aNpost ?_) | refine aNop ?_ | refine aNoff1 ?_ | refine aNoff2 ?_ | (refine aNsplit ?_ ?_ <;> intro hsp) | refine aNnil ?_)
      | (refine isA ?_; first | refine awp_seq fun K hK => ?_ | refine Awp.reg ?_ | refine aDrawN 10 [[], [], [1], [2], [3], [], [5], [6], [4, 7], [8], [0, 9], [10, 10, 0, 1, 2, 3, 4, 5, 6, 7, 8, 9, 10]] [[], [], [1], [2, 1], [3, 2, 1], [], [5], [6, 5], [4, 7, 3, 2, 1, 6, 5], [8, 4, 7, 3, 2, 1, 6, 5], [0, 9, 8, 4, 7, 3, 2, 1, 6, 5], [10, 0, 1, 2, 3, 4, 5, 6, 7, 8, 9]] ?_ | refine Awp.skip ?_ | refine Awp.block ?_ | refine Awp.scope ?_ | refine aCt ?_ | refine aCf ?_ | (refine aCond ?_ ?_ <;> intro hsp) | (refine Awp.exit ?_; simp only [blockQ, thenQ, scopeQ, ↓reduceIte, Nat.reduceEqDiff]))
      | (refine viaK ‹_› ?_; first | refine aKeep [0, 1, 4, 5, 6, 7, 8, 9, 11, 15, 22, 31, 34, 35, 36, 37, 46, 63] ?_ | skip)
      | simp only [thenQ_normal, blockQ_normal])); all_goals (clear XH; clear XG))
    · obtain ⟨_, e2⟩ := jr_bad hi1 (of_decide_eq_true hf)
      have e := rdE_50 (m := m) (n := (n : Int)) hm (by omega) (by rw [Int.toNat_natCast]; exact e2)
      have e3 := rdL_no (m := m) (n := (n : Int)) (by omega)
      (refine Awp.ret ?_; refine aRet ?_; (simp [-List.getD_eq_getElem?_getD, laxR, laxX, laxC, laxCs, rB, rN, rO, rBy, rSup, supP_len, rB2, rEn, e, e3, rEn]))
    · have hx := of_decide_eq_false hf
      have e3 := jrI_succ m i
      have e4 := rg_snoc 2 (jrI m i) ⟨IntKind.i64.wrap (m.getD (32 + 2 * i) 0), m.getD (33 + 2 * i) 0⟩
      refine RegA.nil ⟨⟨i + 1, by omega, jrTo_succ ho (by omega)⟩, [], ?_, ?_⟩
      · simp only [Wk, frIn, hpIn, lk_nil, lk_cons, renV, renX, renC, belV, belX, belC, belL, belB, List.cons_append, List.nil_append, ↓reduceIte, Nat.reduceEqDiff, and_self, and_true, true_and] <;> simp [-List.getD_eq_getElem?_getD, vv, one, renV, renX, renC, belV, belX, belC, belL, belB, rho, renO, belO, lk_nil, lk_cons, ← e3, e4]
      · (simp only []; omega)
    · subst hi1
      have e2 : jrB m i = false := by rw [(jr_good ho).2]; exact decide_eq_false ‹_›
      have e := rdE_50 (m := m) (n := (i : Int)) hm (by omega) (by rw [Int.toNat_natCast]; exact e2)
      have e3 := rdL_no (m := m) (n := (i : Int)) (by omega)
      (refine Awp.ret ?_; refine aRet ?_; (simp [-List.getD_eq_getElem?_getD, laxR, laxX, laxC, laxCs, rB, rN, rO, rBy, rSup, supP_len, rB2, rEn, e, e3, rEn]))
    · subst hi1
      have e1 := (jr_good ho).1
      have e2 : jrB m i = true := by rw [(jr_good ho).2]; exact decide_eq_true ‹_›
      have e := rdE_0 (m := m) (n := (i : Int)) hm (by omega) (by rw [Int.toNat_natCast]; exact e2)
      have e3 := rdL_0 (m := m) (n := (i : Int)) (by omega)
      rw [Int.toNat_natCast] at e3
      (refine Awp.ret ?_; refine aRet ?_; (simp [-List.getD_eq_getElem?_getD, laxR, laxX, laxC, laxCs, rB, rN, rO, rBy, rSup, supP_len, rB2, rEn, e, e3, e1, hf, rEn]))
    · subst hi1
      have e2 : jrB m i = false := by rw [(jr_good ho).2, hf]; exact decide_eq_false ‹_›
      have e := rdE_50 (m := m) (n := (i : Int)) hm (by omega) (by rw [Int.toNat_natCast]; exact e2)
      have e3 := rdL_no (m := m) (n := (i : Int)) (by omega)
      (refine Awp.ret ?_; refine aRet ?_; (simp [-List.getD_eq_getElem?_getD, laxR, laxX, laxC, laxCs, rB, rN, rO, rBy, rSup, supP_len, rB2, rEn, e, e3, rEn]))
    · subst hi1
      have e1 := (jr_good ho).1
      have e2 : jrB m i = true := by rw [(jr_good ho).2, hf]; exact decide_eq_true ‹_›
      simp only [hf, rg_nil, List.map_nil, List.length_nil]
      have e := rdE_0 (m := m) (n := (i : Int)) hm (by omega) (by rw [Int.toNat_natCast]; exact e2)
      have e3 := rdL_0 (m := m) (n := (i : Int)) (by omega)
      rw [Int.toNat_natCast] at e3
      (refine Awp.ret ?_; refine aRet ?_; (simp [-List.getD_eq_getElem?_getD, laxR, laxX, laxC, laxCs, rB, rN, rO, rBy, rSup, supP_len, rB2, rEn, e, e3, e1, hf, rg_nil, rEn]))
set_option maxHeartbeats 4000000 in
set_option maxRecDepth 10000 in
open Xdf36d5a in
theorem k_entry_Read_no (m : List Int) (n : Int) (hn : m.length ≤ 1000000) (hm : ¬ chk m.length = 0) : Con Try.prog 14 [sN .u64 m, vN .i64 n] [rEn (rdL m n), rN .i64 (rdE m n)] := by
  refine con_of_awp hmix Try.func14 s14 rfl (by rw [n14]; simp) r14 n14 ?_
  simp only [Eng.start, startFr, inX, sN, vN, List.map_cons, List.map_nil, supA, supC, sEn, c14]
  (have XH := @hd80; have XG := @hd80; (repeat' (first
    | (refine isR ?_; first | (refine isC ?_; first | (refine isF 34 ?_; first | (refine aCallF 34 ?_; apply aE3; exact k_image_Check_no _ hm; exact flatA; refine aPost ?_))) | refine aOp ?_ | refine aOff1 ?_ | refine aOff2 ?_ | (refine aSplit ?_ ?_ <;> intro hsp) | (refine RegA.done ‹_› ?_; first | refine aKeep [0, 1, 4, 5, 6, 7, 8, 9, 11, 15, 22, 31, 34, 35, 36, 37, 46, 63] ?_ | skip))
    | (refine isN ?_; first | (refine aNcall (f := 34) ?_; apply aE6; exact k_image_Check_no _ hm; (refine aNr (by simp only [unV', unX, unXs, unC, unL, rN, rB, List.append_nil, List.nil_append, rBy, rSup, supP_len, rB2, rEn]; rfl) rfl rfl); (first | exact .inl rfl | exact .inr flatA); refine aNpost ?_) | refine aNop ?_ | refine aNoff1 ?_ | refine aNoff2 ?_ | (refine aNsplit ?_ ?_ <;> intro hsp) | refine aNnil ?_)
    | (refine isA ?_; first | refine awp_seq fun K hK => ?_ | refine Awp.reg ?_ | refine aDrawN 10 [[], [], [1], [2], [3], [], [5], [6], [4, 7], [8], [0, 9], [10, 10, 0, 1, 2, 3, 4, 5, 6, 7, 8, 9, 10]] [[], [], [1], [2, 1], [3, 2, 1], [], [5], [6, 5], [4, 7, 3, 2, 1, 6, 5], [8, 4, 7, 3, 2, 1, 6, 5], [0, 9, 8, 4, 7, 3, 2, 1, 6, 5], [10, 0, 1, 2, 3, 4, 5, 6, 7, 8, 9]] ?_ | refine Awp.skip ?_ | refine Awp.block ?_ | refine Awp.scope ?_ | refine aCt ?_ | refine aCf ?_ | (refine aCond ?_ ?_ <;> intro hsp) | (refine Awp.exit ?_; simp only [blockQ, thenQ, scopeQ, ↓reduceIte, Nat.reduceEqDiff]))
    | (refine viaK ‹_› ?_; first | refine aKeep [0, 1, 4, 5, 6, 7, 8, 9, 11, 15, 22, 31, 34, 35, 36, 37, 46, 63] ?_ | skip)
    | simp only [thenQ_normal, blockQ_normal])); all_goals (clear XH; clear XG))
  all_goals
    have e := rdE_8 (m := m) n hm
    have e2 := rdL_no (m := m) (n := n) (by omega)
    (refine Awp.ret ?_; refine aRet ?_; (simp [-List.getD_eq_getElem?_getD, laxR, laxX, laxC, laxCs, rB, rN, rO, rBy, rSup, supP_len, rB2, rEn, e, e2, rEn]))
set_option maxHeartbeats 4000000 in
set_option maxRecDepth 10000 in
open Xdf36d5a in
theorem k_entry_Read_out (m : List Int) (n : Int) (hn : m.length ≤ 1000000) (hm : chk m.length = 0) (h : ¬ (0 ≤ n ∧ n ≤ 32)) : Con Try.prog 14 [sN .u64 m, vN .i64 n] [rEn (rdL m n), rN .i64 (rdE m n)] := by
  have dn : (decide (n < 0) || decide (32 < n)) = true := by rcases Decidable.em (n < 0) with h1 | h1; rw [decide_eq_true h1]; rfl; rw [decide_eq_true (show 32 < n by omega), Bool.or_true]
  refine con_of_awp hmix Try.func14 s14 rfl (by rw [n14]; simp) r14 n14 ?_
  simp only [Eng.start, startFr, inX, sN, vN, List.map_cons, List.map_nil, supA, supC, sEn, c14]
  (have XH := (And.intro @hd00 @dn); have XG := @hd00; (repeat' (first
    | (refine isR ?_; first | (refine isC ?_; first | (refine isF 34 ?_; first | (refine aCallF 34 ?_; apply aE3; exact k_image_Check_ok _ hm; exact flatA; refine aPost ?_)) | (refine isF 30 ?_; first | (refine aCall 30 ?_; apply aE2; exact k_image_Get _ _ _ (by omega) (by omega); refine aPost ?_))) | refine aOp ?_ | refine aOff1 ?_ | refine aOff2 ?_ | (refine aSplit ?_ ?_ <;> intro hsp) | (refine RegA.done ‹_› ?_; first | refine aKeep [0, 1, 4, 5, 6, 7, 8, 9, 11, 15, 22, 31, 34, 35, 36, 37, 46, 63] ?_ | skip))
    | (refine isN ?_; first | (refine aNcall (f := 34) ?_; apply aE6; exact k_image_Check_ok _ hm; (refine aNr (by simp only [unV', unX, unXs, unC, unL, rN, rB, List.append_nil, List.nil_append, rBy, rSup, supP_len, rB2, rEn]; rfl) rfl rfl); (first | exact .inl rfl | exact .inr flatA); refine aNpost ?_) | refine aNop ?_ | refine aNoff1 ?_ | refine aNoff2 ?_ | (refine aNsplit ?_ ?_ <;> intro hsp) | refine aNnil ?_)
    | (refine isA ?_; first | refine awp_seq fun K hK => ?_ | refine Awp.reg ?_ | refine aDrawN 10 [[], [], [1], [2], [3], [], [5], [6], [4, 7], [8], [0, 9], [10, 10, 0, 1, 2, 3, 4, 5, 6, 7, 8, 9, 10]] [[], [], [1], [2, 1], [3, 2, 1], [], [5], [6, 5], [4, 7, 3, 2, 1, 6, 5], [8, 4, 7, 3, 2, 1, 6, 5], [0, 9, 8, 4, 7, 3, 2, 1, 6, 5], [10, 0, 1, 2, 3, 4, 5, 6, 7, 8, 9]] ?_ | refine Awp.skip ?_ | refine Awp.block ?_ | refine Awp.scope ?_ | refine aCt ?_ | refine aCf ?_ | (refine aCond ?_ ?_ <;> intro hsp) | (refine Awp.exit ?_; simp only [blockQ, thenQ, scopeQ, ↓reduceIte, Nat.reduceEqDiff]))
    | (refine viaK ‹_› ?_; first | refine aKeep [0, 1, 4, 5, 6, 7, 8, 9, 11, 15, 22, 31, 34, 35, 36, 37, 46, 63] ?_ | skip)
    | simp only [thenQ_normal, blockQ_normal])); all_goals (clear XH; clear XG))
  all_goals first | (exfalso; omega) | skip
  all_goals
    have e := rdE_2 hm h
    have e2 := rdL_no (m := m) (n := n) (by omega)
    (refine Awp.ret ?_; refine aRet ?_; (simp [-List.getD_eq_getElem?_getD, laxR, laxX, laxC, laxCs, rB, rN, rO, rBy, rSup, supP_len, rB2, rEn, e, e2, rEn]))
theorem k_entry_Read (m : List Int) (hm : ∀ x ∈ m, isU x) (n : Int) (hn : m.length ≤ 1000000) : Con Try.prog 14 [sN .u64 m, vN .i64 n] [rEn (rdL m n), rN .i64 (rdE m n)] := by
  by_cases h : chk m.length = 0
  · by_cases h2 : 0 ≤ n ∧ n ≤ 32
    · have h3 := k_entry_Read_in m n.toNat (by omega) h
      rwa [show ((n.toNat : Nat) : Int) = n by omega] at h3
    · exact k_entry_Read_out m n hn h h2
  · exact k_entry_Read_no m n hn h
end
end Go.Proofs.Ytmhnogmbpoeaeaa
