/-
  The contracts of the program's functions, data in, data out. Conditions: those in the statements.
-/
import Derived.Test.YteodihbpnpgccaaG2
namespace Go.Proofs.Yteodihbpnpgccaa
set_option linter.all false
open Go Go.Proofs.Yteodihbpnpgccaa.Eng Go.RowKit
noncomputable section

structure Ent where
  at_ : Int
  v : Int
  deriving DecidableEq
instance : Inhabited Ent := ⟨⟨0, 0⟩⟩
def entC (e : Ent) : List D := [.v (.int .i64 e.at_), .v (.int .u64 e.v)]
def sEn (l : List Ent) : DA := .one (.sl 2 (l.map entC))
def rEn (l : List Ent) : RX := .one (.o 2 (l.map entC))
def rB2 (a b : Bool) : RX := .agg [.c (.v (.bool a)), .c (.v (.bool b))]
theorem getD_entC (l : List Ent) (i : Nat) (h : i < l.length) : (l.map entC).getD i [] = [.v (.int .i64 (l.getD i default).at_), .v (.int .u64 (l.getD i default).v)] := getD_map entC l i default h
theorem ent_snoc (l : List Ent) (a v : Int) : l.map entC ++ [[.v (.int .i64 a), .v (.int .u64 v)]] = (l ++ [(⟨a, v⟩ : Ent)]).map entC := by rw [List.map_append]; rfl
theorem ent_eta (x : Ent) : (⟨x.at_, x.v⟩ : Ent) = x := rfl
theorem ent_ext0 {a b : List Ent} (hl : a.length = b.length) (h : ∀ j < a.length, a.getD j default = b.getD j default) : a = b := by
  refine List.ext_getElem hl fun j h1 h2 => ?_
  have := h j h1
  simpa [List.getD, h1, h2] using this
/-! The copies. -/
@[irreducible] def cpL (m : List Int) (k : Nat) : List Int := (m.drop (8 * k)).take 8
@[irreducible] def cpOk (m : List Int) (k : Nat) : Bool := decide (readE (cpL m k) = 0) && decide ((readV (cpL m k)).w = m.length)
@[irreducible] def cpS (m : List Int) (k : Nat) : Sup := if cpOk m k then readV (cpL m k) else ⟨0, 0⟩
@[irreducible] def twE (m : List Int) : Int := if chk m.length = 0 then (if cpOk m 0 || cpOk m 1 then 0 else 50) else 8
@[irreducible] def twS (m : List Int) : Sup := if twE m = 0 then (if cpOk m 0 then cpS m 0 else cpS m 1) else ⟨0, 0⟩
@[irreducible] def twA (m : List Int) : Bool := decide (twE m = 0) && cpOk m 0
@[irreducible] def twB (m : List Int) : Bool := decide (twE m = 0) && cpOk m 1
@[irreducible] def twV (m : List Int) : List Int := if twE m = 0 then supL (twS m) ++ (supL (twS m) ++ m.drop 16) else []
theorem cpL_len {m : List Int} {k : Nat} (h : 16 ≤ m.length) (hk : k ≤ 1) : (cpL m k).length = 8 := by unfold cpL; simp; omega
theorem cpL_U {m : List Int} (hm : ∀ x ∈ m, isU x) (k : Nat) : ∀ x ∈ cpL m k, isU x := by
  unfold cpL
  exact fun x hx => hm x (List.mem_of_mem_drop (List.mem_of_mem_take hx))
theorem cp_yes {m : List Int} {k : Nat} (h : readE (cpL m k) = 0) (h2 : (readV (cpL m k)).w = m.length) : cpOk m k = true ∧ cpS m k = readV (cpL m k) := by
  have e : cpOk m k = true := by unfold cpOk; rw [decide_eq_true h, decide_eq_true h2]; rfl
  exact ⟨e, by unfold cpS; rw [if_pos e]⟩
theorem cp_no {m : List Int} {k : Nat} (h : ¬ (readE (cpL m k) = 0 ∧ (readV (cpL m k)).w = m.length)) : cpOk m k = false ∧ cpS m k = ⟨0, 0⟩ := by
  have e : cpOk m k = false := by
    unfold cpOk
    rw [Bool.eq_false_iff]
    intro h2
    simp only [Bool.and_eq_true, decide_eq_true_eq] at h2
    exact h h2
  exact ⟨e, by unfold cpS; rw [e]; rfl⟩
theorem cpOk_is {m : List Int} {k : Nat} (h : cpOk m k = true) : readE (cpL m k) = 0 ∧ (readV (cpL m k)).w = m.length := by
  unfold cpOk at h
  simpa only [Bool.and_eq_true, decide_eq_true_eq] using h
theorem cpS_ok {m : List Int} {k : Nat} (h : cpOk m k = true) : cpS m k = readV (cpL m k) ∧ supOk (cpS m k) = true ∧ (cpS m k).w = m.length := by
  have h1 := cpOk_is h
  have e : cpS m k = readV (cpL m k) := by unfold cpS; rw [if_pos h]
  refine ⟨e, ?_, by rw [e]; exact h1.2⟩
  rw [e, readV_0 h1.1]
  exact (readE_is h1.1).2.1
theorem twE_8 {m : List Int} (h : ¬ chk m.length = 0) : twE m = 8 := by unfold twE; rw [if_neg h]
theorem twE_50 {m : List Int} (h : chk m.length = 0) (h1 : cpOk m 0 = false) (h2 : cpOk m 1 = false) : twE m = 50 := by unfold twE; rw [if_pos h, h1, h2]; rfl
theorem twE_0a {m : List Int} (h : chk m.length = 0) (h1 : cpOk m 0 = true) : twE m = 0 := by unfold twE; rw [if_pos h, h1]; rfl
theorem twE_0b {m : List Int} (h : chk m.length = 0) (h1 : cpOk m 1 = true) : twE m = 0 := by unfold twE; rw [if_pos h, h1, Bool.or_true]; rfl
theorem twE_is {m : List Int} (h : twE m = 0) : chk m.length = 0 ∧ (cpOk m 0 = true ∨ cpOk m 1 = true) := by
  unfold twE at h
  split at h
  · rename_i h0
    split at h
    · rename_i h1; exact ⟨h0, by simpa using h1⟩
    · omega
  · omega
theorem tw_no {m : List Int} (h : ¬ twE m = 0) : twS m = ⟨0, 0⟩ ∧ twA m = false ∧ twB m = false ∧ twV m = [] := by
  refine ⟨by unfold twS; rw [if_neg h], by unfold twA; rw [decide_eq_false h]; rfl, by unfold twB; rw [decide_eq_false h]; rfl, by unfold twV; rw [if_neg h]⟩
theorem tw_AB {m : List Int} (h : twE m = 0) : twA m = cpOk m 0 ∧ twB m = cpOk m 1 := by
  refine ⟨by unfold twA; rw [decide_eq_true h]; rfl, by unfold twB; rw [decide_eq_true h]; rfl⟩
theorem twS_a {m : List Int} (h : twE m = 0) (h1 : cpOk m 0 = true) : twS m = cpS m 0 := by unfold twS; rw [if_pos h, if_pos h1]
theorem twS_b {m : List Int} (h : twE m = 0) (h1 : cpOk m 0 = false) : twS m = cpS m 1 := by unfold twS; rw [if_pos h, h1]; rfl
theorem twS_ok {m : List Int} (h : twE m = 0) : supOk (twS m) = true ∧ (twS m).w = m.length := by
  have h2 := (twE_is h).2
  cases h1 : cpOk m 0 with
  | true => rw [twS_a h h1]; exact (cpS_ok h1).2
  | false =>
    rw [twS_b h h1]
    rcases h2 with h2 | h2
    · rw [h1] at h2; cases h2
    · exact (cpS_ok h2).2
theorem twV_0 {m : List Int} (h : twE m = 0) : twV m = supL (twS m) ++ (supL (twS m) ++ m.drop 16) := by unfold twV; rw [if_pos h]
theorem twV_len {m : List Int} (h : twE m = 0) : (twV m).length = m.length := by
  have := chk_le (twE_is h).1
  rw [twV_0 h]
  simp only [List.length_append, supL_len, List.length_drop]
  omega
/-! Where the view differs. -/
@[irreducible] def heN (m v : List Int) (n : Nat) : List Ent := (difN v m n).map fun (k : Nat) => ⟨(k : Int), v.getD k 0⟩
theorem heN_zero (m v : List Int) : heN m v 0 = [] := by unfold heN difN; rfl
theorem heN_t {m v : List Int} {i : Nat} (h : ¬ v.getD i 0 = m.getD i 0) : heN m v i ++ [⟨(i : Int), v.getD i 0⟩] = heN m v (i + 1) := by
  unfold heN difN
  rw [List.range_succ, List.filter_append]
  simp only [List.filter_cons, List.filter_nil, h, decide_false, Bool.not_false, if_true, List.map_append, List.map_cons, List.map_nil]
theorem heN_f {m v : List Int} {i : Nat} (h : v.getD i 0 = m.getD i 0) : heN m v i = heN m v (i + 1) := by
  unfold heN difN
  rw [List.range_succ, List.filter_append]
  simp only [List.filter_cons, List.filter_nil, h, decide_true, Bool.not_true, Bool.false_eq_true, if_false, List.append_nil]
theorem heN_le (m v : List Int) (i : Nat) : (heN m v i).length ≤ i := by
  unfold heN difN
  rw [List.length_map]
  exact Nat.le_trans (List.length_filter_le _ _) (by simp)
@[irreducible] def twH (m : List Int) : List Ent := if twE m = 0 then heN m (twV m) m.length else []
theorem twH_0 {m : List Int} (h : twE m = 0) : twH m = heN m (twV m) m.length := by unfold twH; rw [if_pos h]
theorem twH_no {m : List Int} (h : ¬ twE m = 0) : twH m = [] := by unfold twH; rw [if_neg h]
theorem cp_row (m : List Int) (k : Nat) : List.take ((8 * (k : Int)).toNat + 8 - (8 * (k : Int)).toNat) (List.drop (8 * (k : Int)).toNat m) = cpL m k := by
  have e : (8 * (k : Int)).toNat = 8 * k := by omega
  rw [e, Nat.add_sub_cancel_left]
  unfold cpL
  rfl
namespace Xb4f4670
def XX := (And.intro (And.intro @tdiv8 (And.intro @tmod8 @toNatAddI)) (And.intro (And.intro @toNatSubI @takeAll) (And.intro @takeDropAll @getD_entC)))
def XN := @Nat.zero_add
def XR := (And.intro (And.intro @rBy.eq_1 @rSup.eq_1) (And.intro @supP_len (And.intro @rB2.eq_1 @rEn.eq_1)))
def XH := @Nat.zero_add
def XG := @Nat.zero_add
end Xb4f4670
set_option maxHeartbeats 4000000 in
set_option maxRecDepth 10000 in
open Xb4f4670 in
theorem k_ref07_Copy (m : List Int) (k : Nat) (hk : k ≤ 1) (hm : ∀ x ∈ m, isU x) (hl : 16 ≤ m.length) (hn : m.length ≤ 1000000) : Con Try.prog 31 [sN .u64 m, vN .i64 k] [rSup (cpS m k), rB (cpOk m k)] := by
  have hc := cpL_len hl hk
  refine con_of_awp hmix Try.func31 s31 rfl (by rw [n31]; simp) r31 n31 ?_
  simp only [Eng.start, startFr, inX, sN, vN, List.map_cons, List.map_nil, supA, supC, sEn, c31]
  (have XG := @cp_row; (repeat' (first
    | (refine aCallF 39 ?_; apply aE3; exact k_ref06_Read (cpL m k) (cpL_U hm k) (by omega); exact flatA; refine aPost ?_)
    | refine aOp ?_
    | refine aOff1 ?_
    | refine aOff2 ?_
    | (refine aSplit ?_ ?_ <;> intro hsp)
    | (refine RegA.done ‹_› ?_; first | refine aKeep [0, 1, 4, 5, 6, 7, 27] ?_ | skip)
    | refine awp_seq fun K hK => ?_
    | refine Awp.reg ?_
    | refine Awp.skip ?_
    | refine Awp.block ?_
    | refine Awp.scope ?_
    | refine aCt ?_
    | refine aCf ?_
    | (refine aCond ?_ ?_ <;> intro hsp)
    | (refine Awp.exit ?_; simp only [blockQ, thenQ, scopeQ, ↓reduceIte, Nat.reduceEqDiff])
    | (refine viaK ‹_› ?_; first | refine aKeep [0, 1, 4, 5, 6, 7, 27] ?_ | skip)
    | simp only [thenQ_normal, blockQ_normal])); all_goals (clear XG))
  · obtain ⟨e1, e2⟩ := cp_no (m := m) (k := k) fun h => ‹¬ readE (cpL m k) = 0› h.1
    (refine Awp.ret ?_; refine aRet ?_; (simp [-List.getD_eq_getElem?_getD, laxR, laxX, laxC, laxCs, rB, rN, rO, rBy, rSup, supP_len, rB2, rEn, e1, e2, rSup]))
  · obtain ⟨e1, e2⟩ := cp_no (m := m) (k := k) fun h => ‹¬ (readV (cpL m k)).w = m.length› h.2
    (refine Awp.ret ?_; refine aRet ?_; (simp [-List.getD_eq_getElem?_getD, laxR, laxX, laxC, laxCs, rB, rN, rO, rBy, rSup, supP_len, rB2, rEn, e1, e2, rSup]))
  · obtain ⟨e1, e2⟩ := cp_yes (m := m) (k := k) ‹_› ‹_›
    (refine Awp.ret ?_; refine aRet ?_; (simp [-List.getD_eq_getElem?_getD, laxR, laxX, laxC, laxCs, rB, rN, rO, rBy, rSup, supP_len, rB2, rEn, e1, e2, rSup]))
set_option maxHeartbeats 4000000 in
set_option maxRecDepth 10000 in
open Xb4f4670 in
theorem k_ref07_Read (m : List Int) (hm : ∀ x ∈ m, isU x) (hn : m.length ≤ 1000000) : Con Try.prog 17 [sN .u64 m] [rSup (twS m), rB2 (twA m) (twB m), rN .i64 (twE m)] := by
  refine con_of_awp hmix Try.func17 s17 rfl (by rw [n17]; simp) r17 n17 ?_
  simp only [Eng.start, startFr, inX, sN, vN, List.map_cons, List.map_nil, supA, supC, sEn, c17]
  (have XG := (And.intro (And.intro (And.intro @List.take_succ_cons.{0} (And.intro @List.take_zero.{0} @List.take_nil.{0})) (And.intro (And.intro @List.length_cons.{0} @List.length_nil.{0}) (And.intro @Nat.zero_add @List.drop_succ_cons.{0}))) (And.intro (And.intro @List.drop_zero.{0} (And.intro @List.drop_nil.{0} @Nat.zero_mul)) (And.intro (And.intro @Nat.mul_one @List.nil_append.{0}) (And.intro @List.cons_append.{0} @List.append_nil.{0})))); (repeat' (first
    | (refine aCallF 25 ?_; apply aE3; exact k_ref02_Check _; exact flatA; refine aPost ?_)
    | (refine aCallF 31 ?_; apply aE3; exact k_ref07_Copy m 0 (by omega) hm (by have := chk_le ‹chk m.length = 0›; omega) (by omega); exact flatA; refine aPost ?_)
    | (refine aCallF 31 ?_; apply aE3; exact k_ref07_Copy m 1 (by omega) hm (by have := chk_le ‹chk m.length = 0›; omega) (by omega); exact flatA; refine aPost ?_)
    | refine aOp ?_
    | refine aOff1 ?_
    | refine aOff2 ?_
    | (refine aSplit ?_ ?_ <;> intro hsp)
    | (refine RegA.done ‹_› ?_; first | refine aKeep [0, 2, 3, 4, 5, 6, 7, 8, 11, 29, 32] ?_ | skip)
    | refine awp_seq fun K hK => ?_
    | refine Awp.reg ?_
    | refine Awp.skip ?_
    | refine Awp.block ?_
    | refine Awp.scope ?_
    | refine aCt ?_
    | refine aCf ?_
    | (refine aCond ?_ ?_ <;> intro hsp)
    | (refine Awp.exit ?_; simp only [blockQ, thenQ, scopeQ, ↓reduceIte, Nat.reduceEqDiff])
    | (refine viaK ‹_› ?_; first | refine aKeep [0, 2, 3, 4, 5, 6, 7, 8, 11, 29, 32] ?_ | skip)
    | simp only [thenQ_normal, blockQ_normal])); all_goals (clear XG))
  all_goals first
  | (focus (
    exact absurd ‹cpOk m 0 = true› (by rw [‹cpOk m 0 = false›]; decide)))
  | (focus (
    have e := twE_8 ‹¬ chk m.length = 0›
    obtain ⟨e1, e2, e3, _⟩ := tw_no (m := m) (by omega)
    (refine Awp.ret ?_; refine aRet ?_; (simp [-List.getD_eq_getElem?_getD, laxR, laxX, laxC, laxCs, rB, rN, rO, rBy, rSup, supP_len, rB2, rEn, e, e1, e2, e3, rSup, rB2]))))
  | (focus (
    have e := twE_50 ‹chk m.length = 0› ‹cpOk m 0 = false› ‹cpOk m 1 = false›
    obtain ⟨e1, e2, e3, _⟩ := tw_no (m := m) (by omega)
    (refine Awp.ret ?_; refine aRet ?_; (simp [-List.getD_eq_getElem?_getD, laxR, laxX, laxC, laxCs, rB, rN, rO, rBy, rSup, supP_len, rB2, rEn, e, e1, e2, e3, rSup, rB2]))))
  | (focus (
    have e := twE_0a ‹chk m.length = 0› ‹cpOk m 0 = true›
    have e1 := twS_a e ‹cpOk m 0 = true›
    obtain ⟨e2, e3⟩ := tw_AB e
    (refine Awp.ret ?_; refine aRet ?_; (simp [-List.getD_eq_getElem?_getD, laxR, laxX, laxC, laxCs, rB, rN, rO, rBy, rSup, supP_len, rB2, rEn, e, e1, e2, e3, rSup, rB2]))))
  | (focus (
    have e := twE_0b ‹chk m.length = 0› ‹cpOk m 1 = true›
    have e1 := twS_b e ‹cpOk m 0 = false›
    obtain ⟨e2, e3⟩ := tw_AB e
    (refine Awp.ret ?_; refine aRet ?_; (simp [-List.getD_eq_getElem?_getD, laxR, laxX, laxC, laxCs, rB, rN, rO, rBy, rSup, supP_len, rB2, rEn, e, e1, e2, e3, rSup, rB2]))))
set_option maxHeartbeats 4000000 in
set_option maxRecDepth 10000 in
open Xb4f4670 in
theorem k_ref07_View (m : List Int) (hm : ∀ x ∈ m, isU x) (hn : m.length ≤ 1000000) : Con Try.prog 18 [sN .u64 m] [rO .u64 (twV m), rN .i64 (twE m)] := by
  refine con_of_awp hmix Try.func18 s18 rfl (by rw [n18]; simp) r18 n18 ?_
  simp only [Eng.start, startFr, inX, sN, vN, List.map_cons, List.map_nil, supA, supC, sEn, c18]
  (have XH := @supL_len; have XG := (And.intro (And.intro (And.intro @List.take_succ_cons.{0} (And.intro @List.take_zero.{0} @List.take_nil.{0})) (And.intro (And.intro @List.length_cons.{0} @List.length_nil.{0}) (And.intro @Nat.zero_add @List.drop_succ_cons.{0}))) (And.intro (And.intro @List.drop_zero.{0} (And.intro @List.drop_nil.{0} @Nat.zero_mul)) (And.intro (And.intro @Nat.mul_one @List.nil_append.{0}) (And.intro @List.cons_append.{0} @List.append_nil.{0})))); (repeat' (first
    | (refine aCall 17 ?_; apply aE2; exact k_ref07_Read _ hm (by omega); refine aPost ?_)
    | (refine aCall 32 ?_; apply aE2; exact k_ref06_Written (twS m) (twS_ok ‹twE m = 0›).1; refine aPost ?_)
    | refine aOp ?_
    | refine aOff1 ?_
    | refine aOff2 ?_
    | (refine aSplit ?_ ?_ <;> intro hsp)
    | (refine RegA.done ‹_› ?_; first | refine aKeep [0, 2, 3, 4, 6, 7, 8, 16] ?_ | skip)
    | refine awp_seq fun K hK => ?_
    | refine Awp.reg ?_
    | refine Awp.skip ?_
    | refine Awp.block ?_
    | refine Awp.scope ?_
    | refine aCt ?_
    | refine aCf ?_
    | (refine aCond ?_ ?_ <;> intro hsp)
    | (refine Awp.exit ?_; simp only [blockQ, thenQ, scopeQ, ↓reduceIte, Nat.reduceEqDiff])
    | (refine viaK ‹_› ?_; first | refine aKeep [0, 2, 3, 4, 6, 7, 8, 16] ?_ | skip)
    | simp only [thenQ_normal, blockQ_normal])); all_goals (clear XH; clear XG))
  · have e := (tw_no ‹¬ twE m = 0›).2.2.2
    (refine Awp.ret ?_; refine aRet ?_; (simp [-List.getD_eq_getElem?_getD, laxR, laxX, laxC, laxCs, rB, rN, rO, rBy, rSup, supP_len, rB2, rEn, e]))
  · have e0 := ‹twE m = 0›
    have hl := chk_le (twE_is ‹twE m = 0›).1
    have e := twV_0 ‹twE m = 0›
    (have XH := @supL_len; have XG := (And.intro (And.intro (And.intro @List.take_succ_cons.{0} (And.intro @List.take_zero.{0} @List.take_nil.{0})) (And.intro (And.intro @List.length_cons.{0} @List.length_nil.{0}) (And.intro @Nat.zero_add @List.drop_succ_cons.{0}))) (And.intro (And.intro @List.drop_zero.{0} (And.intro @List.drop_nil.{0} @Nat.zero_mul)) (And.intro (And.intro @Nat.mul_one @List.nil_append.{0}) (And.intro @List.cons_append.{0} @List.append_nil.{0})))); (repeat' (first
        | refine aOp ?_
        | refine aOff1 ?_
        | refine aOff2 ?_
        | (refine aSplit ?_ ?_ <;> intro hsp)
        | (refine RegA.done ‹_› ?_; first | refine aKeep [0, 2, 3, 4, 6, 7, 8, 16] ?_ | skip)
        | refine awp_seq fun K hK => ?_
        | refine Awp.reg ?_
        | refine Awp.skip ?_
        | refine Awp.block ?_
        | refine Awp.scope ?_
        | refine aCt ?_
        | refine aCf ?_
        | (refine aCond ?_ ?_ <;> intro hsp)
        | (refine Awp.exit ?_; simp only [blockQ, thenQ, scopeQ, ↓reduceIte, Nat.reduceEqDiff])
        | (refine viaK ‹_› ?_; first | refine aKeep [0, 2, 3, 4, 6, 7, 8, 16] ?_ | skip)
        | simp only [thenQ_normal, blockQ_normal])); all_goals (clear XH; clear XG))
    (refine Awp.ret ?_; refine aRetO ?_; apply aE2; (simp (disch := omega) only [outXs, outX, outC, outL, lk_nil, lk_cons, ↓reduceIte, Nat.reduceEqDiff, List.length_map, List.length_nil, List.length_replicate, List.length_cons, List.length_take, List.length_drop, List.length_append, List.length_set, ite_eq, Option.map_some, Bool.false_eq_true, supL_len]; rfl); (simp [-List.getD_eq_getElem?_getD, laxR, laxX, laxC, laxCs, rB, rN, rO, rBy, rSup, supP_len, rB2, rEn, e, e0, List.map_append, List.append_assoc]))
set_option maxHeartbeats 4000000 in
set_option maxRecDepth 10000 in
open Xb4f4670 in
theorem k_ref07_Heal (m : List Int) (hm : ∀ x ∈ m, isU x) (hn : m.length ≤ 1000000) : Con Try.prog 19 [sN .u64 m] [rEn (twH m), rN .i64 (twE m)] := by
  refine con_of_awp hmix Try.func19 s19 rfl (by rw [n19]; simp) r19 n19 ?_
  simp only [Eng.start, startFr, inX, sN, vN, List.map_cons, List.map_nil, supA, supC, sEn, c19]
  (have XG := (And.intro (And.intro (And.intro @List.take_succ_cons.{0} (And.intro @List.take_zero.{0} @List.take_nil.{0})) (And.intro (And.intro @List.length_cons.{0} @List.length_nil.{0}) (And.intro @Nat.zero_add @List.drop_succ_cons.{0}))) (And.intro (And.intro @List.drop_zero.{0} (And.intro @List.drop_nil.{0} @Nat.zero_mul)) (And.intro (And.intro @Nat.mul_one @List.nil_append.{0}) (And.intro @List.cons_append.{0} @List.append_nil.{0})))); (repeat' (first
    | (refine aCall 18 ?_; apply aE2; exact k_ref07_View _ hm (by omega); refine aPost ?_)
    | refine aOp ?_
    | refine aOff1 ?_
    | refine aOff2 ?_
    | (refine aSplit ?_ ?_ <;> intro hsp)
    | (refine RegA.done ‹_› ?_; first | refine aKeep [0, 2, 3, 4, 5, 6, 7, 14, 19, 30] ?_ | skip)
    | refine awp_seq fun K hK => ?_
    | refine Awp.reg ?_
    | refine aNop ?_
    | refine aNoff1 ?_
    | refine aNoff2 ?_
    | (refine aNsplit ?_ ?_ <;> intro hsp)
    | refine aNnil ?_
    | refine aDrawN 8 [[], [], [0, 1], [2], [], [], [4, 5], [6], [3, 7]] [[], [], [0, 1], [2, 0, 1], [], [], [4, 5], [6, 4, 5], [3, 7, 2, 0, 1, 6, 4, 5]] ?_
    | refine Awp.skip ?_
    | refine Awp.block ?_
    | refine Awp.scope ?_
    | refine aCt ?_
    | refine aCf ?_
    | (refine aCond ?_ ?_ <;> intro hsp)
    | (refine Awp.exit ?_; simp only [blockQ, thenQ, scopeQ, ↓reduceIte, Nat.reduceEqDiff])
    | (refine viaK ‹_› ?_; first | refine aKeep [0, 2, 3, 4, 5, 6, 7, 14, 19, 30] ?_ | skip)
    | simp only [thenQ_normal, blockQ_normal])); all_goals (clear XG))
  · have e := twH_no ‹¬ twE m = 0›
    (refine Awp.ret ?_; refine aRet ?_; (simp [-List.getD_eq_getElem?_getD, laxR, laxX, laxC, laxCs, rB, rN, rO, rBy, rSup, supP_len, rB2, rEn, e, rEn]))
  · have e0 := ‹twE m = 0›
    have hl := chk_le (twE_is ‹twE m = 0›).1
    have e := twH_0 ‹twE m = 0›
    have hv := twV_len ‹twE m = 0›
    refine Awp.loopK (α := {i : Nat // i ≤ m.length}) (fun x => [(7, vv (.int .i64 (x.1 : Int))), (6, one (.own 2 (heN m (twV m) x.1).length))]) (fun x => [(2, .row (rg 2 (heN m (twV m) x.1)) ((heN m (twV m) x.1).map entC) false)]) [0, 2, 3, 4] [0, 1] (fun x => m.length - x.1) ⟨0, by omega⟩ [] (by simp only [List.filterMap_cons, List.filterMap_nil, lk_nil, lk_cons, ↓reduceIte, Nat.reduceEqDiff, Option.map_some, Option.map_none]; rfl) (by simp only [List.filterMap_cons, List.filterMap_nil, lk_nil, lk_cons, ↓reduceIte, Nat.reduceEqDiff, Option.map_some, Option.map_none]; rfl) rfl rfl ?_ ?_
    · simp only [Wk, frIn, hpIn, lk_nil, lk_cons, renV, renX, renC, belV, belX, belC, belL, belB, List.cons_append, List.nil_append, ↓reduceIte, Nat.reduceEqDiff, and_self, and_true, true_and] <;> simp [-List.getD_eq_getElem?_getD, vv, one, renV, renX, renC, belV, belX, belC, belL, belB, rho, renO, belO, lk_nil, lk_cons, rg_nil, heN_zero]
    · rintro ⟨i, hi⟩
      have hcl := heN_le m (twV m) i
      dsimp only
      simp only [vv, one, List.cons_append, List.nil_append]
      (have XH := (And.intro (@rg_or Ent) (And.intro @List.length_append.{0} @hv)); have XG := (And.intro (And.intro (And.intro @ent_snoc (And.intro @List.take_succ_cons.{0} @List.take_zero.{0})) (And.intro (And.intro @List.take_nil.{0} @List.length_cons.{0}) (And.intro @List.length_nil.{0} @Nat.zero_add))) (And.intro (And.intro (And.intro @List.drop_succ_cons.{0} @List.drop_zero.{0}) (And.intro @List.drop_nil.{0} @Nat.zero_mul)) (And.intro (And.intro @Nat.mul_one @List.nil_append.{0}) (And.intro @List.cons_append.{0} @List.append_nil.{0})))); (repeat' (first
        | refine aOp ?_
        | refine aOff1 ?_
        | refine aOff2 ?_
        | (refine aSplit ?_ ?_ <;> intro hsp)
        | (refine RegA.done ‹_› ?_; first | refine aKeep [0, 2, 3, 4, 5, 6, 7, 14, 19, 30] ?_ | skip)
        | refine awp_seq fun K hK => ?_
        | refine Awp.reg ?_
        | refine aNop ?_
        | refine aNoff1 ?_
        | refine aNoff2 ?_
        | (refine aNsplit ?_ ?_ <;> intro hsp)
        | refine aNnil ?_
        | refine aDrawN 8 [[], [], [0, 1], [2], [], [], [4, 5], [6], [3, 7]] [[], [], [0, 1], [2, 0, 1], [], [], [4, 5], [6, 4, 5], [3, 7, 2, 0, 1, 6, 4, 5]] ?_
        | refine Awp.skip ?_
        | refine Awp.block ?_
        | refine Awp.scope ?_
        | refine aCt ?_
        | refine aCf ?_
        | (refine aCond ?_ ?_ <;> intro hsp)
        | (refine Awp.exit ?_; simp only [blockQ, thenQ, scopeQ, ↓reduceIte, Nat.reduceEqDiff])
        | (refine viaK ‹_› ?_; first | refine aKeep [0, 2, 3, 4, 5, 6, 7, 14, 19, 30] ?_ | skip)
        | simp only [thenQ_normal, blockQ_normal])); all_goals (clear XH; clear XG))
      · have e3 := heN_t (m := m) (v := twV m) (i := i) ‹¬ (twV m).getD i 0 = m.getD i 0›
        have e4 := rg_snoc 2 (heN m (twV m) i) ⟨(i : Int), (twV m).getD i 0⟩
        refine RegA.nil ⟨⟨i + 1, by omega⟩, [], ?_, ?_⟩
        · simp only [Wk, frIn, hpIn, lk_nil, lk_cons, renV, renX, renC, belV, belX, belC, belL, belB, List.cons_append, List.nil_append, ↓reduceIte, Nat.reduceEqDiff, and_self, and_true, true_and] <;> simp [-List.getD_eq_getElem?_getD, vv, one, renV, renX, renC, belV, belX, belC, belL, belB, rho, renO, belO, lk_nil, lk_cons, ← e3, e4]
        · (simp only []; omega)
      · have e3 := heN_f (m := m) (v := twV m) (i := i) ‹(twV m).getD i 0 = m.getD i 0›
        refine RegA.nil ⟨⟨i + 1, by omega⟩, [], ?_, ?_⟩
        · simp only [Wk, frIn, hpIn, lk_nil, lk_cons, renV, renX, renC, belV, belX, belC, belL, belB, List.cons_append, List.nil_append, ↓reduceIte, Nat.reduceEqDiff, and_self, and_true, true_and] <;> simp [-List.getD_eq_getElem?_getD, vv, one, renV, renX, renC, belV, belX, belC, belL, belB, rho, renO, belO, lk_nil, lk_cons, ← e3]
        · (simp only []; omega)
      · obtain rfl : i = m.length := by omega
        rcases rg_or' 2 (heN m (twV m) m.length) with hz | hz
        · (refine Awp.ret ?_; refine aRet ?_; (simp [-List.getD_eq_getElem?_getD, laxR, laxX, laxC, laxCs, rB, rN, rO, rBy, rSup, supP_len, rB2, rEn, e, e0, hz, rEn]))
        · (refine Awp.ret ?_; refine aRet ?_; (simp [-List.getD_eq_getElem?_getD, laxR, laxX, laxC, laxCs, rB, rN, rO, rBy, rSup, supP_len, rB2, rEn, e, e0, hz, rg_nil, rEn]))
theorem eqs_ent0 (a b a' b' : Int) : eqS Try.prog 57 [.int .i64 a, .int .u64 b] [.int .i64 a', .int .u64 b'] = some (decide (a = a') && (decide (b = b') && true)) := by kernel_rfl
theorem eqs_ent (a b a' b' : Int) : eqS Try.prog 57 [.int .i64 a, .int .u64 b] [.int .i64 a', .int .u64 b'] = some (decide ((⟨a, b⟩ : Ent) = ⟨a', b'⟩)) := by
  rw [eqs_ent0]
  congr 1
  rw [Bool.eq_iff_iff]
  simp
set_option maxHeartbeats 4000000 in
set_option maxRecDepth 10000 in
open Xb4f4670 in
theorem k_ref07_Same (a b : List Ent) (ha : a.length ≤ 1000000) (hb : b.length ≤ 1000000) : Con Try.prog 20 [sEn a, sEn b] [rB (decide (a = b))] := by
  refine con_of_awp hmix Try.func20 s20 rfl (by rw [n20]; simp) r20 n20 ?_
  simp only [Eng.start, startFr, inX, sN, vN, List.map_cons, List.map_nil, supA, supC, sEn, c20]
  (repeat' (first
    | refine aOp ?_
    | refine aOff1 ?_
    | refine aOff2 ?_
    | (refine aSplit ?_ ?_ <;> intro hsp)
    | (refine RegA.done ‹_› ?_)
    | refine awp_seq fun K hK => ?_
    | refine Awp.reg ?_
    | refine aNop ?_
    | refine aNoff1 ?_
    | refine aNoff2 ?_
    | (refine aNsplit ?_ ?_ <;> intro hsp)
    | refine aNnil ?_
    | refine aDrawN 8 [[], [], [0, 1], [2], [], [], [4, 5], [6], [3, 7]] [[], [], [0, 1], [2, 0, 1], [], [], [4, 5], [6, 4, 5], [3, 7, 2, 0, 1, 6, 4, 5]] ?_
    | refine Awp.skip ?_
    | refine Awp.block ?_
    | refine Awp.scope ?_
    | refine aCt ?_
    | refine aCf ?_
    | (refine aCond ?_ ?_ <;> intro hsp)
    | (refine Awp.exit ?_; simp only [blockQ, thenQ, scopeQ, ↓reduceIte, Nat.reduceEqDiff])
    | (refine viaK ‹_› ?_)
    | simp only [thenQ_normal, blockQ_normal]))
  · have e : decide (a = b) = false := decide_eq_false fun h => by have := congrArg List.length h; omega
    (refine Awp.ret ?_; refine aRet ?_; (simp [-List.getD_eq_getElem?_getD, laxR, laxX, laxC, laxCs, rB, rN, rO, rBy, rSup, supP_len, rB2, rEn, e] <;> (intros; omega)))
  · refine Awp.loopK (α := {i : Nat // i ≤ a.length ∧ ∀ j < i, a.getD j default = b.getD j default}) (fun x => [(5, vv (.int .i64 (x.1 : Int)))]) (fun x => []) [0, 1] [] (fun x => a.length - x.1) ⟨0, by omega, by simp⟩ [] (by simp only [List.filterMap_cons, List.filterMap_nil, lk_nil, lk_cons, ↓reduceIte, Nat.reduceEqDiff, Option.map_some, Option.map_none]; rfl) (by simp only [List.filterMap_cons, List.filterMap_nil, lk_nil, lk_cons, ↓reduceIte, Nat.reduceEqDiff, Option.map_some, Option.map_none]; rfl) rfl rfl ?_ ?_
    · simp only [Wk, frIn, hpIn, lk_nil, lk_cons, renV, renX, renC, belV, belX, belC, belL, belB, List.cons_append, List.nil_append, ↓reduceIte, Nat.reduceEqDiff, and_self, and_true, true_and] <;> simp [-List.getD_eq_getElem?_getD, vv, one, renV, renX, renC, belV, belX, belC, belL, belB, rho, renO, belO, lk_nil, lk_cons]
    · rintro ⟨i, hi, hj⟩
      simp only [vv, one, List.cons_append, List.nil_append]
      (have XH := (And.intro @eqs_ent @ent_eta); (repeat' (first
        | refine aOp ?_
        | refine aOff1 ?_
        | refine aOff2 ?_
        | (refine aSplit ?_ ?_ <;> intro hsp)
        | (refine RegA.done ‹_› ?_)
        | refine awp_seq fun K hK => ?_
        | refine Awp.reg ?_
        | refine aNop ?_
        | refine aNoff1 ?_
        | refine aNoff2 ?_
        | (refine aNsplit ?_ ?_ <;> intro hsp)
        | refine aNnil ?_
        | refine aDrawN 8 [[], [], [0, 1], [2], [], [], [4, 5], [6], [3, 7]] [[], [], [0, 1], [2, 0, 1], [], [], [4, 5], [6, 4, 5], [3, 7, 2, 0, 1, 6, 4, 5]] ?_
        | refine Awp.skip ?_
        | refine Awp.block ?_
        | refine Awp.scope ?_
        | refine aCt ?_
        | refine aCf ?_
        | (refine aCond ?_ ?_ <;> intro hsp)
        | (refine Awp.exit ?_; simp only [blockQ, thenQ, scopeQ, ↓reduceIte, Nat.reduceEqDiff])
        | (refine viaK ‹_› ?_)
        | simp only [thenQ_normal, blockQ_normal])); all_goals (clear XH))
      · have e : decide (a = b) = false := decide_eq_false fun h => hsp (by rw [h])
        (refine Awp.ret ?_; refine aRet ?_; (simp [-List.getD_eq_getElem?_getD, laxR, laxX, laxC, laxCs, rB, rN, rO, rBy, rSup, supP_len, rB2, rEn, e] <;> (intros; omega)))
      · refine RegA.nil ⟨⟨i + 1, by omega, fun j hj' => by rcases Nat.lt_succ_iff_lt_or_eq.1 hj' with h | rfl; exact hj j h; exact hsp⟩, [], ?_, ?_⟩
        · simp only [Wk, frIn, hpIn, lk_nil, lk_cons, renV, renX, renC, belV, belX, belC, belL, belB, List.cons_append, List.nil_append, ↓reduceIte, Nat.reduceEqDiff, and_self, and_true, true_and] <;> simp [-List.getD_eq_getElem?_getD, vv, one, renV, renX, renC, belV, belX, belC, belL, belB, rho, renO, belO, lk_nil, lk_cons]
        · (simp only []; omega)
      · have e : decide (a = b) = true := decide_eq_true (ent_ext0 (by omega) fun j hj' => hj j (by omega))
        (refine Awp.ret ?_; refine aRet ?_; (simp [-List.getD_eq_getElem?_getD, laxR, laxX, laxC, laxCs, rB, rN, rO, rBy, rSup, supP_len, rB2, rEn, e] <;> (intros; omega)))
end
end Go.Proofs.Yteodihbpnpgccaa
