/-
  The contracts of the program's functions, data in, data out. Conditions: those in the statements.
-/
import Derived.Test.YtmhnogmbpoeaeaaJ6
namespace Go.Proofs.Ytmhnogmbpoeaeaa
set_option linter.all false
open Go Go.Proofs.Ytmhnogmbpoeaeaa.Eng Go.RowKit
noncomputable section

theorem sz256 : sz 256 = true := by unfold sz; decide
@[irreducible] def al8 : List Ent := [⟨130, 5⟩, ⟨16, 7⟩]
@[irreducible] def aw8 : List Int := [130, 5, 16, 7]
theorem al8_row : [[D.v (.int .i64 130), D.v (.int .u64 5)], [D.v (.int .i64 16), D.v (.int .u64 7)]] = al8.map entC := by unfold al8; rfl
theorem aw8_row : [[D.v (.int .u64 130)], [D.v (.int .u64 5)], [D.v (.int .u64 16)], [D.v (.int .u64 7)]] = aw8.map (numD .u64) := by unfold aw8; rfl
theorem al8_len : al8.length = 2 := by unfold al8; rfl
theorem aw8_len : aw8.length = 4 := by unfold aw8; rfl
theorem al8_ok : okTo al8 256 al8.length := by
  unfold al8 okTo
  intro j hj
  have h2 : j < 2 := hj
  have hc : j = 0 ∨ j = 1 := by omega
  rcases hc with rfl | rfl
  · exact ⟨frB_iff.2 (by decide), fun k hk => absurd hk (by omega)⟩
  · exact ⟨frB_iff.2 (by decide), fun k hk => by obtain rfl : k = 0 := by omega
                                                 decide⟩
theorem al8_E : enE al8 256 = 0 := enE_0 sz256 (by rw [al8_len]; omega) al8_ok
theorem al8_W : enWs al8 256 = aw8 := by
  rw [enWs_0 al8_E]
  unfold lsT lsI al8 aw8
  decide
theorem mayE256 : mayE 256 = 0 := (may_yes 0 sz256).2
theorem may24 : mayB 24 256 = false := by rw [(may_yes 24 sz256).1]; unfold frB; decide
theorem may95 : mayB 95 256 = false := by rw [(may_yes 95 sz256).1]; unfold frB; decide
theorem may23 : mayB 23 256 = true := by rw [(may_yes 23 sz256).1]; unfold frB; decide
theorem may96 : mayB 96 256 = true := by rw [(may_yes 96 sz256).1]; unfold frB; decide
namespace X4217d82
def XX := (And.intro (And.intro (And.intro @tdiv8 (And.intro @tmod8 @toNatAddI)) (And.intro (And.intro @toNatSubI @takeAll) (And.intro @takeDropAll @getD_entC))) (And.intro (And.intro @List.all_cons.{0} (And.intro @List.all_nil.{0} @List.getElem?_cons_zero.{0})) (And.intro (And.intro @List.getElem?_cons_succ.{0} @Bool.and_self) (And.intro @List.cons_append.{0} @Nat.mul_one))))
def XN := @Nat.zero_add
def XR := (And.intro (And.intro @rBy.eq_1 @rSup.eq_1) (And.intro @supP_len (And.intro @rB2.eq_1 @rEn.eq_1)))
def XH := @Nat.zero_add
def XG := @Nat.zero_add
end X4217d82
set_option maxHeartbeats 4000000 in
set_option maxRecDepth 10000 in
open X4217d82 in
theorem k_law08_alive  : Con Try.prog 16 [] [rB true] := by
  have l1 := al8_len
  have l2 := aw8_len
  refine con_of_awp hmix Try.func16 s16 rfl (by rw [n16]; simp) r16 n16 ?_
  simp only [Eng.start, startFr, inX, sN, vN, List.map_cons, List.map_nil, supA, supC, sEn, c16]
  (have XH := (And.intro (And.intro (And.intro @eq_self.{1} @l1) (And.intro @l2 (And.intro @may24 @may95))) (And.intro (And.intro @may23 @may96) (And.intro @mayE256 (And.intro @al8_E @al8_W)))); have XG := (And.intro (And.intro (And.intro @al8_row @aw8_row) (And.intro @al8_E (And.intro @al8_W @may24))) (And.intro (And.intro @may95 @may23) (And.intro @may96 (And.intro @mayE256 @eq_self.{1})))); (repeat' (first
    | (refine isR ?_; first | (refine isC ?_; first | (refine isF 11 ?_; first | (refine aCall 11 ?_; apply aE2; exact k_entry_Words al8 256 (by rw [al8_len]; omega); refine aPost ?_)) | (refine isF 10 ?_; first | (refine aCallF 10 ?_; apply aE3; exact k_entry_May _ _; exact flatA; refine aPost ?_)) | (refine isF 22 ?_; first | (refine aCallF 22 ?_; apply aE3; exact k_ref02_Same _ _ (by first | omega | (simp; omega)) (by first | omega | (simp; omega)); exact flatA; refine aPost ?_))) | refine aOp ?_ | refine aOp2 ?_ | refine aOff1 ?_ | refine aOff2 ?_ | (refine aSplit ?_ ?_ <;> intro hsp) | (refine RegA.done ‹_› ?_; first | refine aKeep [0, 1, 2, 3, 4, 5, 6, 7, 8, 9, 10] ?_ | skip))
    | (refine isA ?_; first | refine awp_seq fun K hK => ?_ | refine Awp.reg ?_ | refine Awp.skip ?_ | refine Awp.block ?_ | refine Awp.scope ?_ | refine aCt ?_ | refine aCf ?_ | (refine aCond ?_ ?_ <;> intro hsp) | (refine Awp.exit ?_; simp only [blockQ, thenQ, scopeQ, ↓reduceIte, Nat.reduceEqDiff]))
    | (refine viaK ‹_› ?_; first | refine aKeep [0, 1, 2, 3, 4, 5, 6, 7, 8, 9, 10] ?_ | skip)
    | simp only [thenQ_normal, blockQ_normal])); all_goals (clear XH; clear XG))
  all_goals (refine Awp.ret ?_; refine aRet ?_; (simp [-List.getD_eq_getElem?_getD, laxR, laxX, laxC, laxCs, rB, rN, rO, rBy, rSup, supP_len, rB2, rEn] <;> (intros; omega)))
theorem k_alive8 : Con Try.prog 16 [] [rB true] := k_law08_alive
end
end Go.Proofs.Ytmhnogmbpoeaeaa
