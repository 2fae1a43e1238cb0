/-
  The contracts of the program's functions, data in, data out. Conditions: those in the statements.
-/
import Derived.Test.YtijllihnheggbaaD1
import Derived.Test.YtijllihnheggbaaI4
namespace Go.Proofs.Ytijllihnheggbaa
set_option linter.all false
open Go Go.Proofs.Ytijllihnheggbaa.Eng Go.RowKit
noncomputable section
namespace Xed690c3
def XX := (And.intro (And.intro @getD_dty (And.intro @tdiv8 @tmod8)) (And.intro (And.intro @takeAll @takeDropAll) (And.intro @toNatAdd @toNatSub)))
def XN := @Nat.zero_add
def XR := (And.intro (And.intro @rDev.eq_1 @dtyD.eq_1) (And.intro @spent_img @spent_dirty))
def XH := @Nat.zero_add
def XG := @Nat.zero_add
end Xed690c3
set_option maxHeartbeats 4000000 in
set_option maxRecDepth 10000 in
open Xed690c3 in
theorem h_crash_keeper_1 {wS : List (Nat × Ob)} {nx b : Nat} {m : Int} (i : Nat) (hb : lk wS b = some (.box [.d (.v (.int .u64 m))])) (h0 : 0 ≤ m ∧ m < 18446744073709551616) : CallH Try.prog 52 wS nx [vv (.int .i64 (i : Int)), one (.ptr b 0)] wS nx (vv (.bool (keepB m i))) := by
  refine callH_of_awp hmix Try.func52 s52 rfl (by rw [n52]; simp) r52 n52 ?_
  simp only [startH, numAV, Nat.zero_add, Nat.reduceAdd, vv, one, c52]
  (have XH := (And.intro @hb (And.intro @tmod64 (keep_eq h0.1 h0.2))); (repeat' (first
    | refine aOp ?_
    | refine aOff1 ?_
    | refine aOff2 ?_
    | (refine aSplit ?_ ?_ <;> intro hsp)
    | (refine RegA.done ‹_› ?_)
    | refine awp_seq fun K hK => ?_
    | refine Awp.reg ?_
    | refine Awp.skip ?_
    | refine Awp.block ?_
    | refine Awp.scope ?_
    | refine aCt ?_
    | refine aCf ?_
    | (refine aCond ?_ ?_ <;> intro hsp)
    | (refine Awp.exit ?_; simp only [blockQ, thenQ, scopeQ, ↓reduceIte, Nat.reduceEqDiff])
    | (refine viaK ‹_› ?_)
    | simp only [thenQ_normal, blockQ_normal])); all_goals (clear XH))
  all_goals (refine Awp.ret ?_; refine ⟨.inl rfl, _, (by simp only [resVs, resV, cellsAt_ptr, cellsAt_eptr, cellsAt_cptr, asVal, Option.bind_some, ↓reduceIte, Nat.reduceEqDiff, List.take_succ_cons, List.take_zero, List.take_nil, List.drop_zero, List.drop_succ_cons, List.drop_nil, Nat.reduceLeDiff, Nat.zero_add, Nat.reduceAdd, List.length_cons, List.length_nil, List.length_map, List.cons_append, List.nil_append, List.append_nil, TK.isAgg, spl, one, vv, lk_nil, lk_cons, TI]; rfl), rfl, ?_, rfl⟩; exact fun _ _ h => h)
set_option maxHeartbeats 4000000 in
set_option maxRecDepth 10000 in
open Xed690c3 in
theorem h_crash_keeper (wS : List (Nat × Ob)) (nx : Nat) (m : Int) : CallH Try.prog 43 wS nx [vv (.int .u64 m)] ((nx, .box [.d (.v (.int .u64 m))]) :: wS) (nx + 1) (one (.clo 52 [nx])) := by
  refine callH_of_awp hmix Try.func43 s43 rfl (by rw [n43]; simp) r43 n43 ?_
  simp only [startH, numAV, Nat.zero_add, Nat.reduceAdd, vv, one, c43]
  (repeat' (first
    | refine aOp ?_
    | refine aOff1 ?_
    | refine aOff2 ?_
    | (refine aSplit ?_ ?_ <;> intro hsp)
    | (refine RegA.done ‹_› ?_)
    | refine awp_seq fun K hK => ?_
    | refine Awp.reg ?_
    | refine Awp.skip ?_
    | refine Awp.block ?_
    | refine Awp.scope ?_
    | refine aCt ?_
    | refine aCf ?_
    | (refine aCond ?_ ?_ <;> intro hsp)
    | (refine Awp.exit ?_; simp only [blockQ, thenQ, scopeQ, ↓reduceIte, Nat.reduceEqDiff])
    | (refine viaK ‹_› ?_)
    | simp only [thenQ_normal, blockQ_normal]))
  all_goals (refine Awp.ret ?_; refine ⟨.inl rfl, _, (by simp only [resVs, resV, cellsAt_ptr, cellsAt_eptr, cellsAt_cptr, asVal, Option.bind_some, ↓reduceIte, Nat.reduceEqDiff, List.take_succ_cons, List.take_zero, List.take_nil, List.drop_zero, List.drop_succ_cons, List.drop_nil, Nat.reduceLeDiff, Nat.zero_add, Nat.reduceAdd, List.length_cons, List.length_nil, List.length_map, List.cons_append, List.nil_append, List.append_nil, TK.isAgg, spl, one, vv, lk_nil, lk_cons, TI]; rfl), rfl, ?_, rfl⟩; exact fun _ _ h => h)
end
end Go.Proofs.Ytijllihnheggbaa
