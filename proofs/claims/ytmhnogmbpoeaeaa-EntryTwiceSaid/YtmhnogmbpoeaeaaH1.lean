/-
  The contracts of the program's functions, data in, data out. Conditions: those in the statements.
-/
import Derived.Test.YtmhnogmbpoeaeaaG2
namespace Go.Proofs.Ytmhnogmbpoeaeaa
set_option linter.all false
open Go Go.Proofs.Ytmhnogmbpoeaeaa.Eng Go.RowKit
noncomputable section

structure Ent where
  at_ : Int
  v : Int
  deriving DecidableEq
instance : Inhabited Ent := ⟨⟨0, 0⟩⟩
def entC (e : Ent) : List D := [.v (.int .i64 e.at_), .v (.int .u64 e.v)]
def sEn (l : List Ent) : DA := .one (.sl 2 (l.map entC))
def rEn (l : List Ent) : RX := .one (.o 2 (l.map entC))
def rB2 (a b : Bool) : RX := .agg [.c (.v (.bool a)), .c (.v (.bool b))]
theorem getD_entC (l : List Ent) (i : Nat) (h : i < l.length) : (l.map entC).getD i [] = [.v (.int .i64 (l.getD i default).at_), .v (.int .u64 (l.getD i default).v)] := getD_map entC l i default h
theorem ent_snoc (l : List Ent) (a v : Int) : l.map entC ++ [[.v (.int .i64 a), .v (.int .u64 v)]] = (l ++ [(⟨a, v⟩ : Ent)]).map entC := by rw [List.map_append]; rfl
theorem ent_eta (x : Ent) : (⟨x.at_, x.v⟩ : Ent) = x := rfl
theorem ent_ext0 {a b : List Ent} (hl : a.length = b.length) (h : ∀ j < a.length, a.getD j default = b.getD j default) : a = b := by
  refine List.ext_getElem hl fun j h1 h2 => ?_
  have := h j h1
  simpa [List.getD, h1, h2] using this
/-! The copies. -/
@[irreducible] def cpL (m : List Int) (k : Nat) : List Int := (m.drop (8 * k)).take 8
@[irreducible] def cpOk (m : List Int) (k : Nat) : Bool := decide (readE (cpL m k) = 0) && decide ((readV (cpL m k)).w = m.length)
@[irreducible] def cpS (m : List Int) (k : Nat) : Sup := if cpOk m k then readV (cpL m k) else ⟨0, 0⟩
@[irreducible] def twE (m : List Int) : Int := if chk m.length = 0 then (if cpOk m 0 || cpOk m 1 then 0 else 50) else 8
@[irreducible] def twS (m : List Int) : Sup := if twE m = 0 then (if cpOk m 0 then cpS m 0 else cpS m 1) else ⟨0, 0⟩
@[irreducible] def twA (m : List Int) : Bool := decide (twE m = 0) && cpOk m 0
@[irreducible] def twB (m : List Int) : Bool := decide (twE m = 0) && cpOk m 1
@[irreducible] def twV (m : List Int) : List Int := if twE m = 0 then supL (twS m) ++ (supL (twS m) ++ m.drop 16) else []
theorem cpL_len {m : List Int} {k : Nat} (h : 16 ≤ m.length) (hk : k ≤ 1) : (cpL m k).length = 8 := by unfold cpL; simp; omega
theorem cpL_U {m : List Int} (hm : ∀ x ∈ m, isU x) (k : Nat) : ∀ x ∈ cpL m k, isU x := by
  unfold cpL
  exact fun x hx => hm x (List.mem_of_mem_drop (List.mem_of_mem_take hx))
theorem cp_yes {m : List Int} {k : Nat} (h : readE (cpL m k) = 0) (h2 : (readV (cpL m k)).w = m.length) : cpOk m k = true ∧ cpS m k = readV (cpL m k) := by
  have e : cpOk m k = true := by unfold cpOk; rw [decide_eq_true h, decide_eq_true h2]; rfl
  exact ⟨e, by unfold cpS; rw [if_pos e]⟩
theorem cp_no {m : List Int} {k : Nat} (h : ¬ (readE (cpL m k) = 0 ∧ (readV (cpL m k)).w = m.length)) : cpOk m k = false ∧ cpS m k = ⟨0, 0⟩ := by
  have e : cpOk m k = false := by
    unfold cpOk
    rw [Bool.eq_false_iff]
    intro h2
    simp only [Bool.and_eq_true, decide_eq_true_eq] at h2
    exact h h2
  exact ⟨e, by unfold cpS; rw [e]; rfl⟩
theorem cpOk_is {m : List Int} {k : Nat} (h : cpOk m k = true) : readE (cpL m k) = 0 ∧ (readV (cpL m k)).w = m.length := by
  unfold cpOk at h
  simpa only [Bool.and_eq_true, decide_eq_true_eq] using h
theorem cpS_ok {m : List Int} {k : Nat} (h : cpOk m k = true) : cpS m k = readV (cpL m k) ∧ supOk (cpS m k) = true ∧ (cpS m k).w = m.length := by
  have h1 := cpOk_is h
  have e : cpS m k = readV (cpL m k) := by unfold cpS; rw [if_pos h]
  refine ⟨e, ?_, by rw [e]; exact h1.2⟩
  rw [e, readV_0 h1.1]
  exact (readE_is h1.1).2.1
theorem twE_8 {m : List Int} (h : ¬ chk m.length = 0) : twE m = 8 := by unfold twE; rw [if_neg h]
theorem twE_50 {m : List Int} (h : chk m.length = 0) (h1 : cpOk m 0 = false) (h2 : cpOk m 1 = false) : twE m = 50 := by unfold twE; rw [if_pos h, h1, h2]; rfl
theorem twE_0a {m : List Int} (h : chk m.length = 0) (h1 : cpOk m 0 = true) : twE m = 0 := by unfold twE; rw [if_pos h, h1]; rfl
theorem twE_0b {m : List Int} (h : chk m.length = 0) (h1 : cpOk m 1 = true) : twE m = 0 := by unfold twE; rw [if_pos h, h1, Bool.or_true]; rfl
theorem twE_is {m : List Int} (h : twE m = 0) : chk m.length = 0 ∧ (cpOk m 0 = true ∨ cpOk m 1 = true) := by
  unfold twE at h
  split at h
  · rename_i h0
    split at h
    · rename_i h1; exact ⟨h0, by simpa using h1⟩
    · omega
  · omega
theorem tw_no {m : List Int} (h : ¬ twE m = 0) : twS m = ⟨0, 0⟩ ∧ twA m = false ∧ twB m = false ∧ twV m = [] := by
  refine ⟨by unfold twS; rw [if_neg h], by unfold twA; rw [decide_eq_false h]; rfl, by unfold twB; rw [decide_eq_false h]; rfl, by unfold twV; rw [if_neg h]⟩
theorem tw_AB {m : List Int} (h : twE m = 0) : twA m = cpOk m 0 ∧ twB m = cpOk m 1 := by
  refine ⟨by unfold twA; rw [decide_eq_true h]; rfl, by unfold twB; rw [decide_eq_true h]; rfl⟩
theorem twS_a {m : List Int} (h : twE m = 0) (h1 : cpOk m 0 = true) : twS m = cpS m 0 := by unfold twS; rw [if_pos h, if_pos h1]
theorem twS_b {m : List Int} (h : twE m = 0) (h1 : cpOk m 0 = false) : twS m = cpS m 1 := by unfold twS; rw [if_pos h, h1]; rfl
theorem twS_ok {m : List Int} (h : twE m = 0) : supOk (twS m) = true ∧ (twS m).w = m.length := by
  have h2 := (twE_is h).2
  cases h1 : cpOk m 0 with
  | true => rw [twS_a h h1]; exact (cpS_ok h1).2
  | false =>
    rw [twS_b h h1]
    rcases h2 with h2 | h2
    · rw [h1] at h2; cases h2
    · exact (cpS_ok h2).2
theorem twV_0 {m : List Int} (h : twE m = 0) : twV m = supL (twS m) ++ (supL (twS m) ++ m.drop 16) := by unfold twV; rw [if_pos h]
theorem twV_len {m : List Int} (h : twE m = 0) : (twV m).length = m.length := by
  have := chk_le (twE_is h).1
  rw [twV_0 h]
  simp only [List.length_append, supL_len, List.length_drop]
  omega
/-! Where the view differs. -/
@[irreducible] def heN (m v : List Int) (n : Nat) : List Ent := (difN v m n).map fun (k : Nat) => ⟨(k : Int), v.getD k 0⟩
theorem heN_zero (m v : List Int) : heN m v 0 = [] := by unfold heN difN; rfl
theorem heN_t {m v : List Int} {i : Nat} (h : ¬ v.getD i 0 = m.getD i 0) : heN m v i ++ [⟨(i : Int), v.getD i 0⟩] = heN m v (i + 1) := by
  unfold heN difN
  rw [List.range_succ, List.filter_append]
  simp only [List.filter_cons, List.filter_nil, h, decide_false, Bool.not_false, if_true, List.map_append, List.map_cons, List.map_nil]
theorem heN_f {m v : List Int} {i : Nat} (h : v.getD i 0 = m.getD i 0) : heN m v i = heN m v (i + 1) := by
  unfold heN difN
  rw [List.range_succ, List.filter_append]
  simp only [List.filter_cons, List.filter_nil, h, decide_true, Bool.not_true, Bool.false_eq_true, if_false, List.append_nil]
theorem heN_le (m v : List Int) (i : Nat) : (heN m v i).length ≤ i := by
  unfold heN difN
  rw [List.length_map]
  exact Nat.le_trans (List.length_filter_le _ _) (by simp)
@[irreducible] def twH (m : List Int) : List Ent := if twE m = 0 then heN m (twV m) m.length else []
theorem twH_0 {m : List Int} (h : twE m = 0) : twH m = heN m (twV m) m.length := by unfold twH; rw [if_pos h]
theorem twH_no {m : List Int} (h : ¬ twE m = 0) : twH m = [] := by unfold twH; rw [if_neg h]
theorem cp_row (m : List Int) (k : Nat) : List.take ((8 * (k : Int)).toNat + 8 - (8 * (k : Int)).toNat) (List.drop (8 * (k : Int)).toNat m) = cpL m k := by
  have e : (8 * (k : Int)).toNat = 8 * k := by omega
  rw [e, Nat.add_sub_cancel_left]
  unfold cpL
  rfl
theorem eqs_ent0 (a b a' b' : Int) : eqS Try.prog 25 [.int .i64 a, .int .u64 b] [.int .i64 a', .int .u64 b'] = some (decide (a = a') && (decide (b = b') && true)) := by kernel_rfl
theorem eqs_ent (a b a' b' : Int) : eqS Try.prog 25 [.int .i64 a, .int .u64 b] [.int .i64 a', .int .u64 b'] = some (decide ((⟨a, b⟩ : Ent) = ⟨a', b'⟩)) := by
  rw [eqs_ent0]
  congr 1
  rw [Bool.eq_iff_iff]
  simp
namespace Xb4f4670
def XX := (And.intro (And.intro @tdiv8 (And.intro @tmod8 @toNatAddI)) (And.intro (And.intro @toNatSubI @takeAll) (And.intro @takeDropAll @getD_entC)))
def XN := @Nat.zero_add
def XR := (And.intro (And.intro @rBy.eq_1 @rSup.eq_1) (And.intro @supP_len (And.intro @rB2.eq_1 @rEn.eq_1)))
def XH := @Nat.zero_add
def XG := @Nat.zero_add
end Xb4f4670
set_option maxHeartbeats 4000000 in
set_option maxRecDepth 10000 in
open Xb4f4670 in
theorem k_ref07_Same (a b : List Ent) (ha : a.length ≤ 1000000) (hb : b.length ≤ 1000000) : Con Try.prog 15 [sEn a, sEn b] [rB (decide (a = b))] := by
  refine con_of_awp hmix Try.func15 s15 rfl (by rw [n15]; simp) r15 n15 ?_
  simp only [Eng.start, startFr, inX, sN, vN, List.map_cons, List.map_nil, supA, supC, sEn, c15]
  (repeat' (first
    | (refine isR ?_; first | refine aOp ?_ | refine aOff1 ?_ | refine aOff2 ?_ | (refine aSplit ?_ ?_ <;> intro hsp) | (refine RegA.done ‹_› ?_))
    | (refine isN ?_; first | refine aNop ?_ | refine aNoff1 ?_ | refine aNoff2 ?_ | (refine aNsplit ?_ ?_ <;> intro hsp) | refine aNnil ?_)
    | (refine isA ?_; first | refine awp_seq fun K hK => ?_ | refine Awp.reg ?_ | refine aDrawN 8 [[], [], [0, 1], [2], [], [], [4, 5], [6], [3, 7]] [[], [], [0, 1], [2, 0, 1], [], [], [4, 5], [6, 4, 5], [3, 7, 2, 0, 1, 6, 4, 5]] ?_ | refine Awp.skip ?_ | refine Awp.block ?_ | refine Awp.scope ?_ | refine aCt ?_ | refine aCf ?_ | (refine aCond ?_ ?_ <;> intro hsp) | (refine Awp.exit ?_; simp only [blockQ, thenQ, scopeQ, ↓reduceIte, Nat.reduceEqDiff]))
    | (refine viaK ‹_› ?_)
    | simp only [thenQ_normal, blockQ_normal]))
  · have e : decide (a = b) = false := decide_eq_false fun h => by have := congrArg List.length h; omega
    (refine Awp.ret ?_; refine aRet ?_; (simp [-List.getD_eq_getElem?_getD, laxR, laxX, laxC, laxCs, rB, rN, rO, rBy, rSup, supP_len, rB2, rEn, e] <;> (intros; omega)))
  · refine Awp.loopK (α := {i : Nat // i ≤ a.length ∧ ∀ j < i, a.getD j default = b.getD j default}) (fun x => [(5, vv (.int .i64 (x.1 : Int)))]) (fun x => []) [0, 1] [] (fun x => a.length - x.1) ⟨0, by omega, by simp⟩ [] (by simp only [List.filterMap_cons, List.filterMap_nil, lk_nil, lk_cons, ↓reduceIte, Nat.reduceEqDiff, Option.map_some, Option.map_none]; rfl) (by simp only [List.filterMap_cons, List.filterMap_nil, lk_nil, lk_cons, ↓reduceIte, Nat.reduceEqDiff, Option.map_some, Option.map_none]; rfl) rfl rfl ?_ ?_
    · simp only [Wk, frIn, hpIn, lk_nil, lk_cons, renV, renX, renC, belV, belX, belC, belL, belB, List.cons_append, List.nil_append, ↓reduceIte, Nat.reduceEqDiff, and_self, and_true, true_and] <;> simp [-List.getD_eq_getElem?_getD, vv, one, renV, renX, renC, belV, belX, belC, belL, belB, rho, renO, belO, lk_nil, lk_cons]
    · rintro ⟨i, hi, hj⟩
      simp only [vv, one, List.cons_append, List.nil_append]
      (have XH := (And.intro @eqs_ent @ent_eta); (repeat' (first
        | (refine isR ?_; first | refine aOp ?_ | refine aOff1 ?_ | refine aOff2 ?_ | (refine aSplit ?_ ?_ <;> intro hsp) | (refine RegA.done ‹_› ?_))
        | (refine isN ?_; first | refine aNop ?_ | refine aNoff1 ?_ | refine aNoff2 ?_ | (refine aNsplit ?_ ?_ <;> intro hsp) | refine aNnil ?_)
        | (refine isA ?_; first | refine awp_seq fun K hK => ?_ | refine Awp.reg ?_ | refine aDrawN 8 [[], [], [0, 1], [2], [], [], [4, 5], [6], [3, 7]] [[], [], [0, 1], [2, 0, 1], [], [], [4, 5], [6, 4, 5], [3, 7, 2, 0, 1, 6, 4, 5]] ?_ | refine Awp.skip ?_ | refine Awp.block ?_ | refine Awp.scope ?_ | refine aCt ?_ | refine aCf ?_ | (refine aCond ?_ ?_ <;> intro hsp) | (refine Awp.exit ?_; simp only [blockQ, thenQ, scopeQ, ↓reduceIte, Nat.reduceEqDiff]))
        | (refine viaK ‹_› ?_)
        | simp only [thenQ_normal, blockQ_normal])); all_goals (clear XH))
      · have e : decide (a = b) = false := decide_eq_false fun h => hsp (by rw [h])
        (refine Awp.ret ?_; refine aRet ?_; (simp [-List.getD_eq_getElem?_getD, laxR, laxX, laxC, laxCs, rB, rN, rO, rBy, rSup, supP_len, rB2, rEn, e] <;> (intros; omega)))
      · refine RegA.nil ⟨⟨i + 1, by omega, fun j hj' => by rcases Nat.lt_succ_iff_lt_or_eq.1 hj' with h | rfl; exact hj j h; exact hsp⟩, [], ?_, ?_⟩
        · simp only [Wk, frIn, hpIn, lk_nil, lk_cons, renV, renX, renC, belV, belX, belC, belL, belB, List.cons_append, List.nil_append, ↓reduceIte, Nat.reduceEqDiff, and_self, and_true, true_and] <;> simp [-List.getD_eq_getElem?_getD, vv, one, renV, renX, renC, belV, belX, belC, belL, belB, rho, renO, belO, lk_nil, lk_cons]
        · (simp only []; omega)
      · have e : decide (a = b) = true := decide_eq_true (ent_ext0 (by omega) fun j hj' => hj j (by omega))
        (refine Awp.ret ?_; refine aRet ?_; (simp [-List.getD_eq_getElem?_getD, laxR, laxX, laxC, laxCs, rB, rN, rO, rBy, rSup, supP_len, rB2, rEn, e] <;> (intros; omega)))
end
end Go.Proofs.Ytmhnogmbpoeaeaa
