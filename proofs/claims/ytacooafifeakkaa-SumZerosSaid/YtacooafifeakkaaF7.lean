/-
  The contracts of the program's functions, data in, data out. Conditions: those in the statements.
-/
import Derived.Test.YtacooafifeakkaaF6
namespace Go.Proofs.Ytacooafifeakkaa
set_option linter.all false
open Go Go.Proofs.Ytacooafifeakkaa.Eng Go.RowKit
noncomputable section
theorem byt_and (w : Int) (hw : isU w) {j : Nat} (hj : j < 8) : bits .and .u64 (w.fdiv (2 ^ min (8 * (j : Int)).toNat IntKind.u64.bits)) 255 = byt w j := by
  have h1 : (8 * (j : Int)).toNat = 8 * j := by omega
  have h2 := and_fld hw (8 * j) 8 (by omega)
  have e : ones 8 = 255 := by unfold ones; decide
  rw [h1, Nat.min_eq_left (by show 8 * j ≤ 64; omega), Int.fdiv_eq_ediv_of_nonneg _ (Int.le_of_lt (two_pos _)), ← e, h2]
  unfold fld byt
  rw [pow256]; rfl
theorem back_next {s w : Int} (hs : isU s) (hw : isU w) {j : Nat} (hj : j < 8) : bits .xor .u64 (IntKind.u64.wrap (bs s w (j + 1) * 14886173955864302971)) (bits .and .u64 (w.fdiv (2 ^ min (8 * (j : Int)).toNat IntKind.u64.bits)) 255) = bs s w j := by
  rw [byt_and w hw hj, ← bs_succ, stp_back (bs_U hs j) (byt_B w j)]
/-! Words 0 alone. -/
@[irreducible] def pows (s : Int) (k : Nat) : Int := Nat.rec s (fun _ r => IntKind.u64.wrap (r * 1099511628211)) k
theorem pows_zero (s : Int) : pows s 0 = s := by unfold pows; rfl
theorem pows_succ (s : Int) (k : Nat) : IntKind.u64.wrap (pows s k * 1099511628211) = pows s (k + 1) := by unfold pows; rfl
theorem pows_U {s : Int} (hs : isU s) (k : Nat) : isU (pows s k) := by
  cases k with
  | zero => rw [pows_zero]; exact hs
  | succ k => rw [← pows_succ]; exact wrap_U _
theorem pows_add (s : Int) (a : Nat) : ∀ b, pows (pows s a) b = pows s (a + b)
  | 0 => by rw [pows_zero]; rfl
  | b + 1 => by rw [← pows_succ, pows_add s a b, pows_succ]; rfl
theorem byt_zero (k : Nat) : byt 0 k = 0 := by unfold byt; rw [Int.zero_ediv]; rfl
theorem bs_pows {s : Int} (hs : isU s) : ∀ k, bs s 0 k = pows s k
  | 0 => by rw [bs_zero, pows_zero]
  | k + 1 => by
    rw [← bs_succ, bs_pows hs k, byt_zero, ← pows_succ]
    unfold stp
    rw [xor_zero_U (pows_U hs k)]
theorem beh_pows {s : Int} (hs : isU s) : ∀ n, beh s (List.replicate n 0) = pows s (8 * n)
  | 0 => by rw [List.replicate_zero, beh_nil]; exact (pows_zero s).symm
  | n + 1 => by
    rw [List.replicate_succ, beh_cons, bs_pows hs, beh_pows (pows_U hs 8) n, pows_add]
    congr 1; omega
theorem back_tri {k : Nat} (h : k ≤ 8) : (k = 0 ∧ ((0 : Nat) : Int) - 1 = -1 ∧ decide (0 ≤ (-1 : Int)) = false) ∨ ∃ j, k = j + 1 ∧ j < 8 ∧ ((j + 1 : Nat) : Int) - 1 = (j : Int) ∧ decide (0 ≤ (j : Int)) = true := by
  cases k with
  | zero => exact .inl ⟨rfl, rfl, rfl⟩
  | succ j => exact .inr ⟨j, rfl, by omega, by omega, decide_eq_true (by omega)⟩
theorem num_rep (k : IntKind) (n : Nat) (v : Int) : List.replicate n [D.v (.int k v)] = (List.replicate n v).map (numD k) := by rw [List.map_replicate]; rfl
theorem one_le (w : Int) : [w].length ≤ 2048 := by simp
namespace X43e8aca
def XX := (And.intro @toNatAdd @toNatSub)
def XN := @Nat.zero_add
def XR := @rBy.eq_1
def XH := @Nat.zero_add
def XG := @Nat.zero_add
end X43e8aca
set_option maxHeartbeats 4000000 in
set_option maxRecDepth 10000 in
open X43e8aca in
theorem k_law05_SumBack (s w : Int) (hs : isU s) (hw : isU w) : Con Try.prog 7 [vN .u64 s, vN .u64 w] [rB true] := by
  have e1 := nextV_yes s (one_le w)
  rw [beh_one] at e1
  have e2 := nextE_yes (one_le w)
  refine con_of_awp hmix Try.func7 s7 rfl (by rw [n7]; simp) r7 n7 ?_
  simp only [Eng.start, startFr, inX, sN, vN, List.map_cons, List.map_nil, c7]
  (have XG := (And.intro @e1 @e2); (repeat' (first
    | (refine aCallF 12 ?_; apply aE3; exact k_alive5; exact flatA; refine aPost ?_)
    | (refine aCallF 10 ?_; apply aE3; exact k_sum_Next s [w] hs (by simp); exact flatA; refine aPost ?_)
    | refine aOp ?_
    | refine aOff1 ?_
    | refine aOff2 ?_
    | (refine aSplit ?_ ?_ <;> intro hsp)
    | (refine RegA.done ‹_› ?_; first | refine aKeep [0, 1, 4, 5, 6, 7, 16, 18] ?_ | skip)
    | refine awp_seq fun K hK => ?_
    | refine Awp.reg ?_
    | refine Awp.skip ?_
    | refine Awp.block ?_
    | refine Awp.scope ?_
    | refine aCt ?_
    | refine aCf ?_
    | (refine aCond ?_ ?_ <;> intro hsp)
    | (refine Awp.exit ?_; simp only [blockQ, thenQ, scopeQ, ↓reduceIte, Nat.reduceEqDiff])
    | (refine viaK ‹_› ?_; first | refine aKeep [0, 1, 4, 5, 6, 7, 16, 18] ?_ | skip)
    | simp only [thenQ_normal, blockQ_normal])); all_goals (clear XG))
  refine Awp.loopK (α := {k : Nat // k ≤ 8}) (fun x => [(5, vv (.int .u64 (bs s w x.1))), (7, vv (.int .i64 ((x.1 : Int) - 1)))]) (fun x => []) [0, 1, 4] [] (fun x => x.1) ⟨8, by omega⟩ [] (by simp only [List.filterMap_cons, List.filterMap_nil, lk_nil, lk_cons, ↓reduceIte, Nat.reduceEqDiff, Option.map_some, Option.map_none]; rfl) (by simp only [List.filterMap_cons, List.filterMap_nil, lk_nil, lk_cons, ↓reduceIte, Nat.reduceEqDiff, Option.map_some, Option.map_none]; rfl) rfl rfl ?_ ?_
  · simp only [Wk, frIn, hpIn, lk_nil, lk_cons, renV, renX, renC, belV, belX, belC, belL, belB, List.cons_append, List.nil_append, ↓reduceIte, Nat.reduceEqDiff, and_self, and_true, true_and] <;> simp [-List.getD_eq_getElem?_getD, vv, one, renV, renX, renC, belV, belX, belC, belL, belB, rho, renO, belO, lk_nil, lk_cons]
  · rintro ⟨k, hk⟩
    simp only [vv, one, List.cons_append, List.nil_append]
    rcases back_tri hk with ⟨rfl, e7, e0⟩ | ⟨j, rfl, hj, e7, e0⟩ <;> simp only [e7, bs_zero] <;>
    (have XH := (And.intro @e0 @eq_self.{1}); have XG := (@back_next s w hs hw); (repeat' (first
      | (refine aCallF 12 ?_; apply aE3; exact k_alive5; exact flatA; refine aPost ?_)
      | refine aOp ?_
      | refine aOff1 ?_
      | refine aOff2 ?_
      | (refine aSplit ?_ ?_ <;> intro hsp)
      | (refine RegA.done ‹_› ?_; first | refine aKeep [0, 1, 4, 5, 6, 7, 16, 18] ?_ | skip)
      | refine awp_seq fun K hK => ?_
      | refine Awp.reg ?_
      | refine Awp.skip ?_
      | refine Awp.block ?_
      | refine Awp.scope ?_
      | refine aCt ?_
      | refine aCf ?_
      | (refine aCond ?_ ?_ <;> intro hsp)
      | (refine Awp.exit ?_; simp only [blockQ, thenQ, scopeQ, ↓reduceIte, Nat.reduceEqDiff])
      | (refine viaK ‹_› ?_; first | refine aKeep [0, 1, 4, 5, 6, 7, 16, 18] ?_ | skip)
      | simp only [thenQ_normal, blockQ_normal])); all_goals (clear XH; clear XG))
    · (refine Awp.ret ?_; refine aRet ?_; (simp [-List.getD_eq_getElem?_getD, laxR, laxX, laxC, laxCs, rB, rN, rO, rBy] <;> (intros; omega)))
    · refine RegA.nil ⟨⟨j, by omega⟩, [], ?_, ?_⟩
      · simp only [Wk, frIn, hpIn, lk_nil, lk_cons, renV, renX, renC, belV, belX, belC, belL, belB, List.cons_append, List.nil_append, ↓reduceIte, Nat.reduceEqDiff, and_self, and_true, true_and] <;> simp [-List.getD_eq_getElem?_getD, vv, one, renV, renX, renC, belV, belX, belC, belL, belB, rho, renO, belO, lk_nil, lk_cons]
      · (simp only []; omega)
set_option maxHeartbeats 4000000 in
set_option maxRecDepth 10000 in
open X43e8aca in
theorem k_law05_SumZeros (s n : Int) (hs : isU s) : Con Try.prog 8 [vN .u64 s, vN .i64 n] [rB true] := by
  refine con_of_awp hmix Try.func8 s8 rfl (by rw [n8]; simp) r8 n8 ?_
  simp only [Eng.start, startFr, inX, sN, vN, List.map_cons, List.map_nil, c8]
  (repeat' (first
    | (refine aCallF 12 ?_; apply aE3; exact k_alive5; exact flatA; refine aPost ?_)
    | refine aOp ?_
    | refine aOff1 ?_
    | refine aOff2 ?_
    | (refine aSplit ?_ ?_ <;> intro hsp)
    | (refine RegA.done ‹_› ?_; first | refine aKeep [0, 1, 4, 5, 6, 7, 13, 25] ?_ | skip)
    | refine awp_seq fun K hK => ?_
    | refine Awp.reg ?_
    | refine Awp.skip ?_
    | refine Awp.block ?_
    | refine Awp.scope ?_
    | refine aCt ?_
    | refine aCf ?_
    | (refine aCond ?_ ?_ <;> intro hsp)
    | (refine Awp.exit ?_; simp only [blockQ, thenQ, scopeQ, ↓reduceIte, Nat.reduceEqDiff])
    | (refine viaK ‹_› ?_; first | refine aKeep [0, 1, 4, 5, 6, 7, 13, 25] ?_ | skip)
    | simp only [thenQ_normal, blockQ_normal]))
  · (refine Awp.ret ?_; refine aRet ?_; (simp [-List.getD_eq_getElem?_getD, laxR, laxX, laxC, laxCs, rB, rN, rO, rBy] <;> (intros; omega)))
  · (refine Awp.ret ?_; refine aRet ?_; (simp [-List.getD_eq_getElem?_getD, laxR, laxX, laxC, laxCs, rB, rN, rO, rBy] <;> (intros; omega)))
  · have hr : (List.replicate n.toNat (0 : Int)).length = n.toNat := List.length_replicate
    have e1 := nextV_yes s (l := List.replicate n.toNat 0) (by omega)
    rw [beh_pows hs] at e1
    have e2 := nextE_yes (l := List.replicate n.toNat 0) (by omega)
    simp only [num_rep]
    (have XG := (And.intro @e1 @e2); (repeat' (first
        | (refine aCallF 10 ?_; apply aE3; exact k_sum_Next s (List.replicate n.toNat 0) hs (by omega); exact flatA; refine aPost ?_)
        | refine aOp ?_
        | refine aOff1 ?_
        | refine aOff2 ?_
        | (refine aSplit ?_ ?_ <;> intro hsp)
        | (refine RegA.done ‹_› ?_; first | refine aKeep [0, 1, 4, 5, 6, 7, 13, 25] ?_ | skip)
        | refine awp_seq fun K hK => ?_
        | refine Awp.reg ?_
        | refine Awp.skip ?_
        | refine Awp.block ?_
        | refine Awp.scope ?_
        | refine aCt ?_
        | refine aCf ?_
        | (refine aCond ?_ ?_ <;> intro hsp)
        | (refine Awp.exit ?_; simp only [blockQ, thenQ, scopeQ, ↓reduceIte, Nat.reduceEqDiff])
        | (refine viaK ‹_› ?_; first | refine aKeep [0, 1, 4, 5, 6, 7, 13, 25] ?_ | skip)
        | simp only [thenQ_normal, blockQ_normal])); all_goals (clear XG))
    refine Awp.loopK (α := {k : Nat // k ≤ 8 * n.toNat}) (fun x => [(0, vv (.int .u64 (pows s x.1))), (7, vv (.int .i64 (x.1 : Int)))]) (fun x => []) [1, 4, 5, 6] [] (fun x => 8 * n.toNat - x.1) ⟨0, by omega⟩ [] (by simp only [List.filterMap_cons, List.filterMap_nil, lk_nil, lk_cons, ↓reduceIte, Nat.reduceEqDiff, Option.map_some, Option.map_none]; rfl) (by simp only [List.filterMap_cons, List.filterMap_nil, lk_nil, lk_cons, ↓reduceIte, Nat.reduceEqDiff, Option.map_some, Option.map_none]; rfl) rfl rfl ?_ ?_
    · simp only [Wk, frIn, hpIn, lk_nil, lk_cons, renV, renX, renC, belV, belX, belC, belL, belB, List.cons_append, List.nil_append, ↓reduceIte, Nat.reduceEqDiff, and_self, and_true, true_and] <;> simp [-List.getD_eq_getElem?_getD, vv, one, renV, renX, renC, belV, belX, belC, belL, belB, rho, renO, belO, lk_nil, lk_cons, pows_zero]
    · rintro ⟨k, hk⟩
      simp only [vv, one, List.cons_append, List.nil_append]
      (have XH := @eq_self.{1}; have XG := @pows_succ; (repeat' (first
        | (refine aCallF 12 ?_; apply aE3; exact k_alive5; exact flatA; refine aPost ?_)
        | refine aOp ?_
        | refine aOff1 ?_
        | refine aOff2 ?_
        | (refine aSplit ?_ ?_ <;> intro hsp)
        | (refine RegA.done ‹_› ?_; first | refine aKeep [0, 1, 4, 5, 6, 7, 13, 25] ?_ | skip)
        | refine awp_seq fun K hK => ?_
        | refine Awp.reg ?_
        | refine Awp.skip ?_
        | refine Awp.block ?_
        | refine Awp.scope ?_
        | refine aCt ?_
        | refine aCf ?_
        | (refine aCond ?_ ?_ <;> intro hsp)
        | (refine Awp.exit ?_; simp only [blockQ, thenQ, scopeQ, ↓reduceIte, Nat.reduceEqDiff])
        | (refine viaK ‹_› ?_; first | refine aKeep [0, 1, 4, 5, 6, 7, 13, 25] ?_ | skip)
        | simp only [thenQ_normal, blockQ_normal])); all_goals (clear XH; clear XG))
      · refine RegA.nil ⟨⟨k + 1, by omega⟩, [], ?_, ?_⟩
        · simp only [Wk, frIn, hpIn, lk_nil, lk_cons, renV, renX, renC, belV, belX, belC, belL, belB, List.cons_append, List.nil_append, ↓reduceIte, Nat.reduceEqDiff, and_self, and_true, true_and] <;> simp [-List.getD_eq_getElem?_getD, vv, one, renV, renX, renC, belV, belX, belC, belL, belB, rho, renO, belO, lk_nil, lk_cons]
        · (simp only []; omega)
      · (refine Awp.ret ?_; refine aRet ?_; (simp [-List.getD_eq_getElem?_getD, laxR, laxX, laxC, laxCs, rB, rN, rO, rBy] <;> (intros; omega)))
      · exact absurd (by rw [show k = 8 * n.toNat by omega]) hsp
end
end Go.Proofs.Ytacooafifeakkaa
