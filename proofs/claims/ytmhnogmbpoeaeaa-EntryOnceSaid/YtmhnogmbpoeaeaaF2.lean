/-
  The contracts of the program's functions, data in, data out. Conditions: those in the statements.
-/
import Derived.Test.YtmhnogmbpoeaeaaF1
namespace Go.Proofs.Ytmhnogmbpoeaeaa
set_option linter.all false
open Go Go.Proofs.Ytmhnogmbpoeaeaa.Eng Go.RowKit
noncomputable section
theorem num_app (k : IntKind) (a b : List Int) : a.map (numD k) ++ b.map (numD k) = (a ++ b).map (numD k) := (List.map_append ..).symm
theorem num_set (k : IntKind) (a : List Int) (i : Nat) (v : Int) : (a.map (numD k)).set i [.v (.int k v)] = (a.set i v).map (numD k) := by rw [List.map_set]; rfl
theorem num_rep (k : IntKind) (n : Nat) (v : Int) : List.replicate n [D.v (.int k v)] = (List.replicate n v).map (numD k) := by rw [List.map_replicate]; rfl
/-- How wide the rows of a list are that is collected: 0 at the beginning. -/
@[irreducible] def rg {α : Type} (k : Nat) (l : List α) : Nat := if l.isEmpty then 0 else k
theorem rg_nil {α : Type} (k : Nat) : rg k ([] : List α) = 0 := by unfold rg; rfl
theorem rg_snoc {α : Type} (k : Nat) (l : List α) (x : α) : rg k (l ++ [x]) = k := by unfold rg; simp
theorem rg_or {α : Type} (k : Nat) (l : List α) : (rg k l = k ∨ rg k l = 0) = True := by unfold rg; cases l <;> simp
theorem rg_or' {α : Type} (k : Nat) (l : List α) : rg k l = k ∨ l = [] := by unfold rg; cases l <;> simp
theorem num_snoc (k : IntKind) (l : List Int) (a : Int) : l.map (numD k) ++ [[.v (.int k a)]] = (l ++ [a]).map (numD k) := by rw [List.map_append]; rfl
theorem toNatAddI {a b : Int} (ha : 0 ≤ a) (hb : 0 ≤ b) : (a + b).toNat = a.toNat + b.toNat := by omega
theorem toNatSubI {a b : Int} (h : 0 ≤ b) (h2 : b ≤ a) : (a - b).toNat = a.toNat - b.toNat := by omega
def rBy (w : Int) : RX := .agg [.c (.v (.int .u8 (byt w 0))), .c (.v (.int .u8 (byt w 1))), .c (.v (.int .u8 (byt w 2))), .c (.v (.int .u8 (byt w 3))), .c (.v (.int .u8 (byt w 4))), .c (.v (.int .u8 (byt w 5))), .c (.v (.int .u8 (byt w 6))), .c (.v (.int .u8 (byt w 7)))]
namespace X1e8ad63
def XX := (And.intro (And.intro @tdiv8 (And.intro @tmod8 @toNatAddI)) (And.intro @toNatSubI (And.intro @takeAll @takeDropAll)))
def XN := @Nat.zero_add
def XR := @rBy.eq_1
def XH := @Nat.zero_add
def XG := @Nat.zero_add
end X1e8ad63
set_option maxHeartbeats 4000000 in
set_option maxRecDepth 10000 in
open X1e8ad63 in
theorem k_ref02_Twin (l : List Int) (hw : l.length ≤ 1000000) : Con Try.prog 24 [sN .u64 l] [rO .u64 l] := by
  refine con_of_awp hmix Try.func24 s24 rfl (by rw [n24]; simp) r24 n24 ?_
  simp only [Eng.start, startFr, inX, sN, vN, List.map_cons, List.map_nil, c24]
  (repeat' (first
    | (refine isR ?_; first | refine aOp ?_ | refine aOff1 ?_ | refine aOff2 ?_ | (refine aSplit ?_ ?_ <;> intro hsp) | (refine RegA.done ‹_› ?_))
    | (refine isA ?_; first | refine awp_seq fun K hK => ?_ | refine Awp.reg ?_ | refine Awp.skip ?_ | refine Awp.block ?_ | refine Awp.scope ?_ | refine aCt ?_ | refine aCf ?_ | (refine aCond ?_ ?_ <;> intro hsp) | (refine Awp.exit ?_; simp only [blockQ, thenQ, scopeQ, ↓reduceIte, Nat.reduceEqDiff]))
    | (refine viaK ‹_› ?_)
    | simp only [thenQ_normal, blockQ_normal]))
  all_goals (refine Awp.ret ?_; refine aRet ?_; (simp [-List.getD_eq_getElem?_getD, laxR, laxX, laxC, laxCs, rB, rN, rO, rBy] <;> (intros; omega)))
set_option maxHeartbeats 4000000 in
set_option maxRecDepth 10000 in
open X1e8ad63 in
theorem k_ref02_Same (a b : List Int) (ha : a.length ≤ 1000000) (hb : b.length ≤ 1000000) : Con Try.prog 22 [sN .u64 a, sN .u64 b] [rB (decide (a = b))] := by
  refine con_of_awp hmix Try.func22 s22 rfl (by rw [n22]; simp) r22 n22 ?_
  simp only [Eng.start, startFr, inX, sN, vN, List.map_cons, List.map_nil, c22]
  (repeat' (first
    | (refine isR ?_; first | refine aOp ?_ | refine aOff1 ?_ | refine aOff2 ?_ | (refine aSplit ?_ ?_ <;> intro hsp) | (refine RegA.done ‹_› ?_))
    | (refine isN ?_; first | refine aNop ?_ | refine aNoff1 ?_ | refine aNoff2 ?_ | (refine aNsplit ?_ ?_ <;> intro hsp) | refine aNnil ?_)
    | (refine isA ?_; first | refine awp_seq fun K hK => ?_ | refine Awp.reg ?_ | refine aDrawN 8 [[], [], [0, 1], [2], [], [], [4, 5], [6], [3, 7]] [[], [], [0, 1], [2, 0, 1], [], [], [4, 5], [6, 4, 5], [3, 7, 2, 0, 1, 6, 4, 5]] ?_ | refine Awp.skip ?_ | refine Awp.block ?_ | refine Awp.scope ?_ | refine aCt ?_ | refine aCf ?_ | (refine aCond ?_ ?_ <;> intro hsp) | (refine Awp.exit ?_; simp only [blockQ, thenQ, scopeQ, ↓reduceIte, Nat.reduceEqDiff]))
    | (refine viaK ‹_› ?_)
    | simp only [thenQ_normal, blockQ_normal]))
  · have e : decide (a = b) = false := decide_eq_false fun h => by have := congrArg List.length h; omega
    (refine Awp.ret ?_; refine aRet ?_; (simp [-List.getD_eq_getElem?_getD, laxR, laxX, laxC, laxCs, rB, rN, rO, rBy, e] <;> (intros; omega)))
  · refine Awp.loopK (α := {i : Nat // i ≤ a.length ∧ ∀ j < i, a.getD j 0 = b.getD j 0}) (fun x => [(5, vv (.int .i64 (x.1 : Int)))]) (fun x => []) [0, 1] [] (fun x => a.length - x.1) ⟨0, by omega, by simp⟩ [] (by simp only [List.filterMap_cons, List.filterMap_nil, lk_nil, lk_cons, ↓reduceIte, Nat.reduceEqDiff, Option.map_some, Option.map_none]; rfl) (by simp only [List.filterMap_cons, List.filterMap_nil, lk_nil, lk_cons, ↓reduceIte, Nat.reduceEqDiff, Option.map_some, Option.map_none]; rfl) rfl rfl ?_ ?_
    · simp only [Wk, frIn, hpIn, lk_nil, lk_cons, renV, renX, renC, belV, belX, belC, belL, belB, List.cons_append, List.nil_append, ↓reduceIte, Nat.reduceEqDiff, and_self, and_true, true_and] <;> simp [-List.getD_eq_getElem?_getD, vv, one, renV, renX, renC, belV, belX, belC, belL, belB, rho, renO, belO, lk_nil, lk_cons]
    · rintro ⟨i, hi, hj⟩
      simp only [vv, one, List.cons_append, List.nil_append]
      (repeat' (first
        | (refine isR ?_; first | refine aOp ?_ | refine aOff1 ?_ | refine aOff2 ?_ | (refine aSplit ?_ ?_ <;> intro hsp) | (refine RegA.done ‹_› ?_))
        | (refine isN ?_; first | refine aNop ?_ | refine aNoff1 ?_ | refine aNoff2 ?_ | (refine aNsplit ?_ ?_ <;> intro hsp) | refine aNnil ?_)
        | (refine isA ?_; first | refine awp_seq fun K hK => ?_ | refine Awp.reg ?_ | refine aDrawN 8 [[], [], [0, 1], [2], [], [], [4, 5], [6], [3, 7]] [[], [], [0, 1], [2, 0, 1], [], [], [4, 5], [6, 4, 5], [3, 7, 2, 0, 1, 6, 4, 5]] ?_ | refine Awp.skip ?_ | refine Awp.block ?_ | refine Awp.scope ?_ | refine aCt ?_ | refine aCf ?_ | (refine aCond ?_ ?_ <;> intro hsp) | (refine Awp.exit ?_; simp only [blockQ, thenQ, scopeQ, ↓reduceIte, Nat.reduceEqDiff]))
        | (refine viaK ‹_› ?_)
        | simp only [thenQ_normal, blockQ_normal]))
      · have e : decide (a = b) = false := decide_eq_false fun h => hsp (by rw [h])
        (refine Awp.ret ?_; refine aRet ?_; (simp [-List.getD_eq_getElem?_getD, laxR, laxX, laxC, laxCs, rB, rN, rO, rBy, e] <;> (intros; omega)))
      · refine RegA.nil ⟨⟨i + 1, by omega, fun j hj' => by rcases Nat.lt_succ_iff_lt_or_eq.1 hj' with h | rfl; exact hj j h; exact hsp⟩, [], ?_, ?_⟩
        · simp only [Wk, frIn, hpIn, lk_nil, lk_cons, renV, renX, renC, belV, belX, belC, belL, belB, List.cons_append, List.nil_append, ↓reduceIte, Nat.reduceEqDiff, and_self, and_true, true_and] <;> simp [-List.getD_eq_getElem?_getD, vv, one, renV, renX, renC, belV, belX, belC, belL, belB, rho, renO, belO, lk_nil, lk_cons]
        · (simp only []; omega)
      · have e : decide (a = b) = true := decide_eq_true (list_ext0 (by omega) fun j hj' => hj j (by omega))
        (refine Awp.ret ?_; refine aRet ?_; (simp [-List.getD_eq_getElem?_getD, laxR, laxX, laxC, laxCs, rB, rN, rO, rBy, e] <;> (intros; omega)))
set_option maxHeartbeats 4000000 in
set_option maxRecDepth 10000 in
open X1e8ad63 in
theorem k_ref02_Size (n : Int) : Con Try.prog 36 [vN .i64 n] [rB (sz n)] := by
  refine con_of_awp hmix Try.func36 s36 rfl (by rw [n36]; simp) r36 n36 ?_
  simp only [Eng.start, startFr, inX, sN, vN, List.map_cons, List.map_nil, c36]
  (repeat' (first
    | (refine isR ?_; first | refine aOp ?_ | refine aOff1 ?_ | refine aOff2 ?_ | (refine aSplit ?_ ?_ <;> intro hsp) | (refine RegA.done ‹_› ?_))
    | (refine isA ?_; first | refine awp_seq fun K hK => ?_ | refine Awp.reg ?_ | refine Awp.skip ?_ | refine Awp.block ?_ | refine Awp.scope ?_ | refine aCt ?_ | refine aCf ?_ | (refine aCond ?_ ?_ <;> intro hsp) | (refine Awp.exit ?_; simp only [blockQ, thenQ, scopeQ, ↓reduceIte, Nat.reduceEqDiff]))
    | (refine viaK ‹_› ?_)
    | simp only [thenQ_normal, blockQ_normal]))
  all_goals (refine Awp.ret ?_; refine aRet ?_; (simp [-List.getD_eq_getElem?_getD, laxR, laxX, laxC, laxCs, rB, rN, rO, rBy, sz, *] <;> (intros; omega)))
set_option maxHeartbeats 4000000 in
set_option maxRecDepth 10000 in
open X1e8ad63 in
theorem k_image_isValid (n : Int) : Con Try.prog 44 [vN .i64 n] [rB (sz n)] := by
  refine con_of_awp hmix Try.func44 s44 rfl (by rw [n44]; simp) r44 n44 ?_
  simp only [Eng.start, startFr, inX, sN, vN, List.map_cons, List.map_nil, c44]
  (repeat' (first
    | (refine isR ?_; first | refine aOp ?_ | refine aOff1 ?_ | refine aOff2 ?_ | (refine aSplit ?_ ?_ <;> intro hsp) | (refine RegA.done ‹_› ?_))
    | (refine isA ?_; first | refine awp_seq fun K hK => ?_ | refine Awp.reg ?_ | refine Awp.skip ?_ | refine Awp.block ?_ | refine Awp.scope ?_ | refine aCt ?_ | refine aCf ?_ | (refine aCond ?_ ?_ <;> intro hsp) | (refine Awp.exit ?_; simp only [blockQ, thenQ, scopeQ, ↓reduceIte, Nat.reduceEqDiff]))
    | (refine viaK ‹_› ?_)
    | simp only [thenQ_normal, blockQ_normal]))
  all_goals (refine Awp.ret ?_; refine aRet ?_; (simp [-List.getD_eq_getElem?_getD, laxR, laxX, laxC, laxCs, rB, rN, rO, rBy, sz, *] <;> (intros; omega)))
set_option maxHeartbeats 4000000 in
set_option maxRecDepth 10000 in
open X1e8ad63 in
theorem k_image_hasRange (w a n : Int) (hw : 0 ≤ w ∧ w ≤ 1000000) (ha : -9223372036854775808 ≤ a ∧ a ≤ 9223372036854775807) : Con Try.prog 41 [vN .i64 w, vN .i64 a, vN .i64 n] [rB (decide (0 ≤ a ∧ 0 ≤ n ∧ n ≤ w - a))] := by
  refine con_of_awp hmix Try.func41 s41 rfl (by rw [n41]; simp) r41 n41 ?_
  simp only [Eng.start, startFr, inX, sN, vN, List.map_cons, List.map_nil, c41]
  (repeat' (first
    | (refine isR ?_; first | refine aOp ?_ | refine aOff1 ?_ | refine aOff2 ?_ | (refine aSplit ?_ ?_ <;> intro hsp) | (refine RegA.done ‹_› ?_))
    | (refine isA ?_; first | refine awp_seq fun K hK => ?_ | refine Awp.reg ?_ | refine Awp.skip ?_ | refine Awp.block ?_ | refine Awp.scope ?_ | refine aCt ?_ | refine aCf ?_ | (refine aCond ?_ ?_ <;> intro hsp) | (refine Awp.exit ?_; simp only [blockQ, thenQ, scopeQ, ↓reduceIte, Nat.reduceEqDiff]))
    | (refine viaK ‹_› ?_)
    | simp only [thenQ_normal, blockQ_normal]))
  all_goals (refine Awp.ret ?_; refine aRet ?_; (simp [-List.getD_eq_getElem?_getD, laxR, laxX, laxC, laxCs, rB, rN, rO, rBy, *] <;> (intros; omega)))
set_option maxHeartbeats 4000000 in
set_option maxRecDepth 10000 in
open X1e8ad63 in
theorem k_ref02_Great (l : List Int) : Con Try.prog 23 [sN .u64 l] [rB (decide (2100 < (l.length : Int)))] := by
  refine con_of_awp hmix Try.func23 s23 rfl (by rw [n23]; simp) r23 n23 ?_
  simp only [Eng.start, startFr, inX, sN, vN, List.map_cons, List.map_nil, c23]
  (repeat' (first
    | (refine isR ?_; first | refine aOp ?_ | refine aOff1 ?_ | refine aOff2 ?_ | (refine aSplit ?_ ?_ <;> intro hsp) | (refine RegA.done ‹_› ?_))
    | (refine isA ?_; first | refine awp_seq fun K hK => ?_ | refine Awp.reg ?_ | refine Awp.skip ?_ | refine Awp.block ?_ | refine Awp.scope ?_ | refine aCt ?_ | refine aCf ?_ | (refine aCond ?_ ?_ <;> intro hsp) | (refine Awp.exit ?_; simp only [blockQ, thenQ, scopeQ, ↓reduceIte, Nat.reduceEqDiff]))
    | (refine viaK ‹_› ?_)
    | simp only [thenQ_normal, blockQ_normal]))
  all_goals (refine Awp.ret ?_; refine aRet ?_; (simp [-List.getD_eq_getElem?_getD, laxR, laxX, laxC, laxCs, rB, rN, rO, rBy, *] <;> (intros; omega)))
set_option maxHeartbeats 4000000 in
set_option maxRecDepth 10000 in
open X1e8ad63 in
theorem k_image_Check (l : List Int) : Con Try.prog 34 [sN .u64 l] [rN .i64 (chk l.length)] := by
  refine con_of_awp hmix Try.func34 s34 rfl (by rw [n34]; simp) r34 n34 ?_
  simp only [Eng.start, startFr, inX, sN, vN, List.map_cons, List.map_nil, c34]
  (repeat' (first
    | (refine isR ?_; first | (refine isC ?_; first | (refine isF 44 ?_; first | (refine aCallF 44 ?_; apply aE3; exact k_image_isValid _; exact flatA; refine aPost ?_))) | refine aOp ?_ | refine aOff1 ?_ | refine aOff2 ?_ | (refine aSplit ?_ ?_ <;> intro hsp) | (refine RegA.done ‹_› ?_))
    | (refine isA ?_; first | refine awp_seq fun K hK => ?_ | refine Awp.reg ?_ | refine Awp.skip ?_ | refine Awp.block ?_ | refine Awp.scope ?_ | refine aCt ?_ | refine aCf ?_ | (refine aCond ?_ ?_ <;> intro hsp) | (refine Awp.exit ?_; simp only [blockQ, thenQ, scopeQ, ↓reduceIte, Nat.reduceEqDiff]))
    | (refine viaK ‹_› ?_)
    | simp only [thenQ_normal, blockQ_normal]))
  all_goals (refine Awp.ret ?_; refine aRet ?_; (simp [-List.getD_eq_getElem?_getD, laxR, laxX, laxC, laxCs, rB, rN, rO, rBy, chk, *] <;> (intros; omega)))
set_option maxHeartbeats 4000000 in
set_option maxRecDepth 10000 in
open X1e8ad63 in
theorem k_ref02_Check (l : List Int) : Con Try.prog 27 [sN .u64 l] [rN .i64 (chk l.length)] := by
  refine con_of_awp hmix Try.func27 s27 rfl (by rw [n27]; simp) r27 n27 ?_
  simp only [Eng.start, startFr, inX, sN, vN, List.map_cons, List.map_nil, c27]
  (repeat' (first
    | (refine isR ?_; first | (refine isC ?_; first | (refine isF 36 ?_; first | (refine aCallF 36 ?_; apply aE3; exact k_ref02_Size _; exact flatA; refine aPost ?_))) | refine aOp ?_ | refine aOff1 ?_ | refine aOff2 ?_ | (refine aSplit ?_ ?_ <;> intro hsp) | (refine RegA.done ‹_› ?_))
    | (refine isA ?_; first | refine awp_seq fun K hK => ?_ | refine Awp.reg ?_ | refine Awp.skip ?_ | refine Awp.block ?_ | refine Awp.scope ?_ | refine aCt ?_ | refine aCf ?_ | (refine aCond ?_ ?_ <;> intro hsp) | (refine Awp.exit ?_; simp only [blockQ, thenQ, scopeQ, ↓reduceIte, Nat.reduceEqDiff]))
    | (refine viaK ‹_› ?_)
    | simp only [thenQ_normal, blockQ_normal]))
  all_goals (refine Awp.ret ?_; refine aRet ?_; (simp [-List.getD_eq_getElem?_getD, laxR, laxX, laxC, laxCs, rB, rN, rO, rBy, chk, *] <;> (intros; omega)))
theorem gr_eq {n : Int} (h1 : 1 ≤ n) (h2 : n ≤ 64) : IntKind.u64.wrap (IntKind.u64.wrap (2 ^ min n.toNat IntKind.u64.bits) - 1) = ones n.toNat := by
  exact ones_eq (by omega) _ (Nat.min_eq_left (by show n.toNat ≤ 64; omega))
theorem shr_fld {w f n : Int} (hw : isU w) (h : isFld f n = true) : bits .and .u64 (w.fdiv (2 ^ min f.toNat IntKind.u64.bits)) (ones n.toNat) = fldV w f n := by
  have h2 := isFld_iff.1 h
  unfold fldV
  rw [if_pos h, Nat.min_eq_left (by show f.toNat ≤ 64; omega), Int.fdiv_eq_ediv_of_nonneg _ (Int.le_of_lt (two_pos _)), and_fld hw _ _ (by omega)]
theorem fldV_no {f n : Int} (w : Int) (h : isFld f n = false) : fldV w f n = 0 := by unfold fldV; rw [h]; rfl
theorem fldE_no {f n : Int} (h : isFld f n = false) : fldE f n = 2 := by unfold fldE; rw [h]; rfl
theorem fldE_yes {f n : Int} (h : isFld f n = true) : fldE f n = 0 := by unfold fldE; rw [h]; rfl
def ba (w : Int) : Nat → List AC
  | 0 => [.d (.v (.int .u8 0)), .d (.v (.int .u8 0)), .d (.v (.int .u8 0)), .d (.v (.int .u8 0)), .d (.v (.int .u8 0)), .d (.v (.int .u8 0)), .d (.v (.int .u8 0)), .d (.v (.int .u8 0))]
  | 1 => [.d (.v (.int .u8 (byt w 0))), .d (.v (.int .u8 0)), .d (.v (.int .u8 0)), .d (.v (.int .u8 0)), .d (.v (.int .u8 0)), .d (.v (.int .u8 0)), .d (.v (.int .u8 0)), .d (.v (.int .u8 0))]
  | 2 => [.d (.v (.int .u8 (byt w 0))), .d (.v (.int .u8 (byt w 1))), .d (.v (.int .u8 0)), .d (.v (.int .u8 0)), .d (.v (.int .u8 0)), .d (.v (.int .u8 0)), .d (.v (.int .u8 0)), .d (.v (.int .u8 0))]
  | 3 => [.d (.v (.int .u8 (byt w 0))), .d (.v (.int .u8 (byt w 1))), .d (.v (.int .u8 (byt w 2))), .d (.v (.int .u8 0)), .d (.v (.int .u8 0)), .d (.v (.int .u8 0)), .d (.v (.int .u8 0)), .d (.v (.int .u8 0))]
  | 4 => [.d (.v (.int .u8 (byt w 0))), .d (.v (.int .u8 (byt w 1))), .d (.v (.int .u8 (byt w 2))), .d (.v (.int .u8 (byt w 3))), .d (.v (.int .u8 0)), .d (.v (.int .u8 0)), .d (.v (.int .u8 0)), .d (.v (.int .u8 0))]
  | 5 => [.d (.v (.int .u8 (byt w 0))), .d (.v (.int .u8 (byt w 1))), .d (.v (.int .u8 (byt w 2))), .d (.v (.int .u8 (byt w 3))), .d (.v (.int .u8 (byt w 4))), .d (.v (.int .u8 0)), .d (.v (.int .u8 0)), .d (.v (.int .u8 0))]
  | 6 => [.d (.v (.int .u8 (byt w 0))), .d (.v (.int .u8 (byt w 1))), .d (.v (.int .u8 (byt w 2))), .d (.v (.int .u8 (byt w 3))), .d (.v (.int .u8 (byt w 4))), .d (.v (.int .u8 (byt w 5))), .d (.v (.int .u8 0)), .d (.v (.int .u8 0))]
  | 7 => [.d (.v (.int .u8 (byt w 0))), .d (.v (.int .u8 (byt w 1))), .d (.v (.int .u8 (byt w 2))), .d (.v (.int .u8 (byt w 3))), .d (.v (.int .u8 (byt w 4))), .d (.v (.int .u8 (byt w 5))), .d (.v (.int .u8 (byt w 6))), .d (.v (.int .u8 0))]
  | _ => [.d (.v (.int .u8 (byt w 0))), .d (.v (.int .u8 (byt w 1))), .d (.v (.int .u8 (byt w 2))), .d (.v (.int .u8 (byt w 3))), .d (.v (.int .u8 (byt w 4))), .d (.v (.int .u8 (byt w 5))), .d (.v (.int .u8 (byt w 6))), .d (.v (.int .u8 (byt w 7)))]
theorem ba0 (w : Int) : ba w 0 = [.d (.v (.int .u8 0)), .d (.v (.int .u8 0)), .d (.v (.int .u8 0)), .d (.v (.int .u8 0)), .d (.v (.int .u8 0)), .d (.v (.int .u8 0)), .d (.v (.int .u8 0)), .d (.v (.int .u8 0))] := rfl
theorem ba1 (w : Int) : ba w 1 = [.d (.v (.int .u8 (byt w 0))), .d (.v (.int .u8 0)), .d (.v (.int .u8 0)), .d (.v (.int .u8 0)), .d (.v (.int .u8 0)), .d (.v (.int .u8 0)), .d (.v (.int .u8 0)), .d (.v (.int .u8 0))] := rfl
theorem ba2 (w : Int) : ba w 2 = [.d (.v (.int .u8 (byt w 0))), .d (.v (.int .u8 (byt w 1))), .d (.v (.int .u8 0)), .d (.v (.int .u8 0)), .d (.v (.int .u8 0)), .d (.v (.int .u8 0)), .d (.v (.int .u8 0)), .d (.v (.int .u8 0))] := rfl
theorem ba3 (w : Int) : ba w 3 = [.d (.v (.int .u8 (byt w 0))), .d (.v (.int .u8 (byt w 1))), .d (.v (.int .u8 (byt w 2))), .d (.v (.int .u8 0)), .d (.v (.int .u8 0)), .d (.v (.int .u8 0)), .d (.v (.int .u8 0)), .d (.v (.int .u8 0))] := rfl
theorem ba4 (w : Int) : ba w 4 = [.d (.v (.int .u8 (byt w 0))), .d (.v (.int .u8 (byt w 1))), .d (.v (.int .u8 (byt w 2))), .d (.v (.int .u8 (byt w 3))), .d (.v (.int .u8 0)), .d (.v (.int .u8 0)), .d (.v (.int .u8 0)), .d (.v (.int .u8 0))] := rfl
theorem ba5 (w : Int) : ba w 5 = [.d (.v (.int .u8 (byt w 0))), .d (.v (.int .u8 (byt w 1))), .d (.v (.int .u8 (byt w 2))), .d (.v (.int .u8 (byt w 3))), .d (.v (.int .u8 (byt w 4))), .d (.v (.int .u8 0)), .d (.v (.int .u8 0)), .d (.v (.int .u8 0))] := rfl
theorem ba6 (w : Int) : ba w 6 = [.d (.v (.int .u8 (byt w 0))), .d (.v (.int .u8 (byt w 1))), .d (.v (.int .u8 (byt w 2))), .d (.v (.int .u8 (byt w 3))), .d (.v (.int .u8 (byt w 4))), .d (.v (.int .u8 (byt w 5))), .d (.v (.int .u8 0)), .d (.v (.int .u8 0))] := rfl
theorem ba7 (w : Int) : ba w 7 = [.d (.v (.int .u8 (byt w 0))), .d (.v (.int .u8 (byt w 1))), .d (.v (.int .u8 (byt w 2))), .d (.v (.int .u8 (byt w 3))), .d (.v (.int .u8 (byt w 4))), .d (.v (.int .u8 (byt w 5))), .d (.v (.int .u8 (byt w 6))), .d (.v (.int .u8 0))] := rfl
theorem ba8 (w : Int) : ba w 8 = [.d (.v (.int .u8 (byt w 0))), .d (.v (.int .u8 (byt w 1))), .d (.v (.int .u8 (byt w 2))), .d (.v (.int .u8 (byt w 3))), .d (.v (.int .u8 (byt w 4))), .d (.v (.int .u8 (byt w 5))), .d (.v (.int .u8 (byt w 6))), .d (.v (.int .u8 (byt w 7)))] := rfl
theorem le8 {k : Nat} (h : k ≤ 8) : k = 0 ∨ k = 1 ∨ k = 2 ∨ k = 3 ∨ k = 4 ∨ k = 5 ∨ k = 6 ∨ k = 7 ∨ k = 8 := by omega
theorem ba_any {p : List AC → Prop} (w : Int) (h0 : p (ba w 0)) (h1 : p (ba w 1)) (h2 : p (ba w 2)) (h3 : p (ba w 3)) (h4 : p (ba w 4)) (h5 : p (ba w 5)) (h6 : p (ba w 6)) (h7 : p (ba w 7)) (h8 : p (ba w 8)) : ∀ k, p (ba w k)
  | 0 => h0 | 1 => h1 | 2 => h2 | 3 => h3 | 4 => h4 | 5 => h5 | 6 => h6 | 7 => h7 | _ + 8 => h8
theorem ba_len (w : Int) (k : Nat) : (ba w k).length = 8 := ba_any (p := fun l => l.length = 8) w rfl rfl rfl rfl rfl rfl rfl rfl rfl k
theorem ba_set (w : Int) {k : Nat} (h : k < 8) : (ba w k).take k ++ AC.d (.v (.int .u8 (byt w k))) :: (ba w k).drop (k + 1) = ba w (k + 1) := by
  rcases le8 (Nat.le_of_lt h) with rfl | rfl | rfl | rfl | rfl | rfl | rfl | rfl | rfl <;> first | rfl | omega
theorem ba_ren (w : Int) (ρ : Nat → Nat) (k : Nat) : (ba w k).map (renC ρ) = ba w k := ba_any (p := fun l => l.map (renC ρ) = l) w rfl rfl rfl rfl rfl rfl rfl rfl rfl k
theorem ba_bel (w : Int) (n : Nat) (k : Nat) : belL n (ba w k) = True := by
  refine eq_true (ba_any (p := fun l => belL n l) w ?_ ?_ ?_ ?_ ?_ ?_ ?_ ?_ ?_ k) <;> (simp only [ba0, ba1, ba2, ba3, ba4, ba5, ba6, ba7, ba8, belL, belC]; simp)
theorem sh8_next {w : Int} (hw : isU w) (k : Nat) : IntKind.u64.wrap ((sh8 w k).tdiv 256) = sh8 w (k + 1) := by
  rw [Int.tdiv_eq_ediv_of_nonneg (sh8_U hw k).1, sh8_succ, u64w]
  have := sh8_U hw (k + 1)
  unfold isU at this
  omega
theorem sh8_b {w : Int} (hw : isU w) (k : Nat) : IntKind.u8.wrap ((sh8 w k).tmod 256) = byt w k := by
  rw [Int.tmod_eq_emod_of_nonneg (sh8_U hw k).1, sh8_byte, byt_u8]
theorem shd_next {w : Int} (hw : isU w) (k : Nat) : IntKind.u64.wrap ((shd w k).tdiv 2) = shd w (k + 1) := by
  rw [Int.tdiv_eq_ediv_of_nonneg (shd_U hw k).1, shd_succ, u64w]
  have := shd_U hw (k + 1)
  unfold isU at this
  omega
theorem shd_b {w : Int} (hw : isU w) (k : Nat) : (shd w k).tmod 2 = bitI w k := by
  rw [Int.tmod_eq_emod_of_nonneg (shd_U hw k).1, shd_bit]
theorem pow256 (k : Nat) : (2 : Int) ^ (8 * k) = 256 ^ k := by rw [Int.pow_mul]; rfl
theorem byt_shr (w : Int) {k : Nat} (h : k < 8) : IntKind.u8.wrap (w.fdiv (2 ^ min (8 * (k : Int)).toNat IntKind.u64.bits)) = byt w k := by
  have e : (8 * (k : Int)).toNat = 8 * k := by omega
  rw [e, Nat.min_eq_left (by show 8 * k ≤ 64; omega), Int.fdiv_eq_ediv_of_nonneg _ (Int.le_of_lt (two_pos _)), u8w, pow256]
  unfold byt; rfl
theorem pw_next {k : Nat} (h : k < 63) : IntKind.u64.wrap (pw k * 2) = pw (k + 1) := by
  rw [pw_succ, u64w]
  have h1 := pw_pos (k + 1)
  have h2 := pw_lt (i := k + 1) (by omega)
  omega
theorem bitpw {w : Int} (i : Nat) {k : Nat} (h : k < 64) : isU (bitI w i * pw k) := by
  have h1 := bitI_B w i
  have h2 := pw_pos k
  have h3 := pw_lt h
  rcases (show bitI w i = 0 ∨ bitI w i = 1 by omega) with e | e <;> rw [e] <;> unfold isU <;> omega
theorem val_next {w : Int} (hw : isU w) (f k : Nat) (h : f + k < 64) : IntKind.u64.wrap (fld w f k + IntKind.u64.wrap (bitI w (f + k) * pw k)) = fld w f (k + 1) := by
  have h1 := bitpw (w := w) (f + k) (k := k) (by omega)
  have h2 := fld_succ w f k
  have h3 := fld_U hw f (k + 1)
  unfold isU at h1 h3
  rw [u64w, u64w, Int.emod_eq_of_lt h1.1 h1.2, h2, Int.emod_eq_of_lt h3.1 h3.2]
end
end Go.Proofs.Ytmhnogmbpoeaeaa
