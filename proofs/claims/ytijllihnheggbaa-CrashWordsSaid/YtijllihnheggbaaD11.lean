/-
  The contracts of the program's functions, data in, data out. Conditions: those in the statements.
-/
import Derived.Test.YtijllihnheggbaaD9
namespace Go.Proofs.Ytijllihnheggbaa
set_option linter.all false
open Go Go.Proofs.Ytijllihnheggbaa.Eng Go.RowKit
noncomputable section

theorem words_tri {d : Dev} {m : Int} {i : Nat} (h : chkD d = 0) (hi : i ≤ d.dirty.length) :
    (i < d.dirty.length ∧ (chosenL m i).length < (chosenL m d.dirty.length).length ∧ keepB m i = true ∧ decide ((i : Int) < (d.dirty.length : Int)) = true ∧ decide (((chosenL m i).length : Int) < ((chosenL m d.dirty.length).length : Int)) = true ∧ decide ((chosenL m d.dirty.length).getD (chosenL m i).length 0 = (i : Int)) = true ∧
      decide ((crashD d m).img.getD (d.dirty.getD i default).at_.toNat 0 = (words d).getD (d.dirty.getD i default).at_.toNat 0) = true) ∨
    (i < d.dirty.length ∧ (chosenL m i).length < (chosenL m d.dirty.length).length ∧ keepB m i = false ∧ decide ((i : Int) < (d.dirty.length : Int)) = true ∧ decide (((chosenL m i).length : Int) < ((chosenL m d.dirty.length).length : Int)) = true ∧ decide ((chosenL m d.dirty.length).getD (chosenL m i).length 0 = (i : Int)) = false ∧
      decide ((crashD d m).img.getD (d.dirty.getD i default).at_.toNat 0 = d.img.getD (d.dirty.getD i default).at_.toNat 0) = true) ∨
    (i < d.dirty.length ∧ True ∧ keepB m i = false ∧ decide ((i : Int) < (d.dirty.length : Int)) = true ∧ decide (((chosenL m i).length : Int) < ((chosenL m d.dirty.length).length : Int)) = false ∧ True ∧
      decide ((crashD d m).img.getD (d.dirty.getD i default).at_.toNat 0 = d.img.getD (d.dirty.getD i default).at_.toNat 0) = true) ∨
    (i = d.dirty.length ∧ True ∧ True ∧ decide ((i : Int) < (d.dirty.length : Int)) = false ∧ True ∧ True ∧ True) := by
  by_cases hlt : i < d.dirty.length
  · have hd : decide ((i : Int) < (d.dirty.length : Int)) = true := decide_eq_true (by omega)
    cases hk : keepB m i with
    | true =>
      obtain ⟨h1, h2⟩ := (chosen_here (m := m) hlt).2 hk
      exact .inl ⟨hlt, h1, rfl, hd, decide_eq_true (by omega), decide_eq_true h2, decide_eq_true (kept_new h hlt hk)⟩
    | false =>
      have e := lost_old h hlt hk
      by_cases h1 : (chosenL m i).length < (chosenL m d.dirty.length).length
      · refine .inr (.inl ⟨hlt, h1, rfl, hd, decide_eq_true (by omega), decide_eq_false fun h2 => ?_, decide_eq_true e⟩)
        rw [(chosen_here (m := m) hlt).1 ⟨h1, h2⟩] at hk
        cases hk
      · exact .inr (.inr (.inl ⟨hlt, trivial, rfl, hd, decide_eq_false (by omega), trivial, decide_eq_true e⟩))
  · exact .inr (.inr (.inr ⟨by omega, trivial, trivial, decide_eq_false (by omega), trivial, trivial, trivial⟩))
namespace X0c0af5b
def XX := (And.intro (And.intro @getD_dty (And.intro @tdiv8 @tmod8)) (And.intro (And.intro @takeAll @takeDropAll) (And.intro @toNatAdd @toNatSub)))
def XN := @Nat.zero_add
def XR := (And.intro (And.intro (And.intro @rDev.eq_1 @dtyD.eq_1) (And.intro @spent_img (And.intro @spent_dirty @sK.eq_1))) (And.intro (And.intro @sI.eq_1 @sDev.eq_1) (And.intro @sO.eq_1 (And.intro @rK.eq_1 @rI.eq_1))))
def XH := @Nat.zero_add
def XG := @Nat.zero_add
end X0c0af5b
set_option maxHeartbeats 4000000 in
set_option maxRecDepth 10000 in
open X0c0af5b in
theorem k_law04_CrashWords (d : Dev) (m : Int) (h0 : 0 ≤ m ∧ m < 18446744073709551616) : Con Try.prog 5 [devA d, vN .u64 m] [rB true] := by
  refine con_of_awp hmix Try.func5 s5 rfl (by rw [n5]; simp) r5 n5 ?_
  simp only [Eng.start, startFr, inX, sN, vN, List.map_cons, List.map_nil, devA, devC, dtyD, sD, c5]
  (have XH := @eq_self.{1}; (repeat' (first
    | (refine aCallF 15 ?_; apply aE3; exact k_Great _; exact flatA; refine aPost ?_)
    | (refine aCallF 21 ?_; apply aE3; exact k_ref03_Check _ (by omega) (by omega); exact flatA; refine aPost ?_)
    | (refine aCallF 14 ?_; apply aE3; exact k_alive4; exact flatA; refine aPost ?_)
    | refine aOp ?_
    | refine aOff1 ?_
    | refine aOff2 ?_
    | (refine aSplit ?_ ?_ <;> intro hsp)
    | (refine RegA.done ‹_› ?_; first | refine aKeep [0, 1, 2, 4, 5, 6, 7, 8, 9, 10, 11, 12, 13, 14, 15, 22, 82, 87, 112, 117, 132, 170] ?_ | skip)
    | refine awp_seq fun K hK => ?_
    | refine Awp.reg ?_
    | (refine aNcall (f := 15) ?_; apply aE6; exact k_Great _; (refine aNr (by simp only [unV', unX, unXs, unC, unL, rN, rB, List.append_nil, List.nil_append, rDev, dtyD, spent_img, spent_dirty, sK, sI, sDev, sO, rK, rI]; rfl) rfl rfl); (first | exact .inl rfl | exact .inr flatA); refine aNpost ?_)
    | (refine aNcall (f := 21) ?_; apply aE6; exact k_ref03_Check _ (by omega) (by omega); (refine aNr (by simp only [unV', unX, unXs, unC, unL, rN, rB, List.append_nil, List.nil_append, rDev, dtyD, spent_img, spent_dirty, sK, sI, sDev, sO, rK, rI]; rfl) rfl rfl); (first | exact .inl rfl | exact .inr flatA); refine aNpost ?_)
    | (refine aNcall (f := 14) ?_; apply aE6; exact k_alive4; (refine aNr (by simp only [unV', unX, unXs, unC, unL, rN, rB, List.append_nil, List.nil_append, rDev, dtyD, spent_img, spent_dirty, sK, sI, sDev, sO, rK, rI]; rfl) rfl rfl); (first | exact .inl rfl | exact .inr flatA); refine aNpost ?_)
    | refine aNop ?_
    | refine aNoff1 ?_
    | refine aNoff2 ?_
    | (refine aNsplit ?_ ?_ <;> intro hsp)
    | refine aNnil ?_
    | refine aDrawN 21 [[], [0], [], [1, 2], [3], [], [5], [], [6, 7], [8], [4, 9], [10], [11], [12, 11], [11], [13, 14, 11], [15, 11], [11], [11], [17, 18, 11], [19, 11], [16, 20, 11], [11, 21]] [[], [0], [], [1, 2, 0], [3, 1, 2, 0], [], [5], [], [6, 7, 5], [8, 6, 7, 5], [4, 9, 3, 1, 2, 0, 8, 6, 7, 5], [10, 4, 9, 3, 1, 2, 0, 8, 6, 7, 5], [11, 10, 4, 9, 3, 1, 2, 0, 8, 6, 7, 5], [12, 11, 10, 4, 9, 3, 1, 2, 0, 8, 6, 7, 5], [11, 10, 4, 9, 3, 1, 2, 0, 8, 6, 7, 5], [13, 14, 11, 12, 10, 4, 9, 3, 1, 2, 0, 8, 6, 7, 5], [15, 11, 13, 14, 12, 10, 4, 9, 3, 1, 2, 0, 8, 6, 7, 5], [11, 10, 4, 9, 3, 1, 2, 0, 8, 6, 7, 5], [11, 10, 4, 9, 3, 1, 2, 0, 8, 6, 7, 5], [17, 18, 11, 10, 4, 9, 3, 1, 2, 0, 8, 6, 7, 5], [19, 11, 17, 18, 10, 4, 9, 3, 1, 2, 0, 8, 6, 7, 5], [16, 20, 11, 15, 13, 14, 12, 10, 4, 9, 3, 1, 2, 0, 8, 6, 7, 5, 19, 17, 18], [11, 21, 10, 4, 9, 3, 1, 2, 0, 8, 6, 7, 5, 16, 20, 15, 13, 14, 12, 19, 17, 18]] ?_
    | refine aDrawN 27 [[], [0], [1], [2, 1], [1], [3, 4, 1], [5, 1], [1], [1], [7, 8, 1], [9, 1], [6, 10, 1], [1, 11], [12, 1], [13], [14, 13], [15, 13, 13], [16], [17, 16], [16], [18, 19, 16], [20, 16], [16], [22, 16], [16], [23, 24, 16], [25, 16], [21, 26, 16], [16, 27, 13], [13, 28]] [[], [0], [1, 0], [2, 1, 0], [1, 0], [3, 4, 1, 2, 0], [5, 1, 3, 4, 2, 0], [1, 0], [1, 0], [7, 8, 1, 0], [9, 1, 7, 8, 0], [6, 10, 1, 5, 3, 4, 2, 0, 9, 7, 8], [1, 11, 0, 6, 10, 5, 3, 4, 2, 9, 7, 8], [12, 1, 11, 0, 6, 10, 5, 3, 4, 2, 9, 7, 8], [13, 12, 1, 11, 0, 6, 10, 5, 3, 4, 2, 9, 7, 8], [14, 13, 12, 1, 11, 0, 6, 10, 5, 3, 4, 2, 9, 7, 8], [15, 13, 14, 12, 1, 11, 0, 6, 10, 5, 3, 4, 2, 9, 7, 8], [16, 15, 13, 14, 12, 1, 11, 0, 6, 10, 5, 3, 4, 2, 9, 7, 8], [17, 16, 15, 13, 14, 12, 1, 11, 0, 6, 10, 5, 3, 4, 2, 9, 7, 8], [16, 15, 13, 14, 12, 1, 11, 0, 6, 10, 5, 3, 4, 2, 9, 7, 8], [18, 19, 16, 17, 15, 13, 14, 12, 1, 11, 0, 6, 10, 5, 3, 4, 2, 9, 7, 8], [20, 16, 18, 19, 17, 15, 13, 14, 12, 1, 11, 0, 6, 10, 5, 3, 4, 2, 9, 7, 8], [16, 15, 13, 14, 12, 1, 11, 0, 6, 10, 5, 3, 4, 2, 9, 7, 8], [22, 16, 15, 13, 14, 12, 1, 11, 0, 6, 10, 5, 3, 4, 2, 9, 7, 8], [16, 15, 13, 14, 12, 1, 11, 0, 6, 10, 5, 3, 4, 2, 9, 7, 8], [23, 24, 16, 22, 15, 13, 14, 12, 1, 11, 0, 6, 10, 5, 3, 4, 2, 9, 7, 8], [25, 16, 23, 24, 22, 15, 13, 14, 12, 1, 11, 0, 6, 10, 5, 3, 4, 2, 9, 7, 8], [21, 26, 16, 20, 18, 19, 17, 15, 13, 14, 12, 1, 11, 0, 6, 10, 5, 3, 4, 2, 9, 7, 8, 25, 23, 24, 22], [16, 27, 13, 15, 14, 12, 1, 11, 0, 6, 10, 5, 3, 4, 2, 9, 7, 8, 21, 26, 20, 18, 19, 17, 25, 23, 24, 22], [13, 28, 12, 1, 11, 0, 6, 10, 5, 3, 4, 2, 9, 7, 8, 16, 27, 15, 14, 21, 26, 20, 18, 19, 17, 25, 23, 24, 22]] ?_
    | refine Awp.skip ?_
    | refine Awp.block ?_
    | refine Awp.scope ?_
    | refine aCt ?_
    | refine aCf ?_
    | (refine aCond ?_ ?_ <;> intro hsp)
    | (refine Awp.exit ?_; simp only [blockQ, thenQ, scopeQ, ↓reduceIte, Nat.reduceEqDiff])
    | (refine viaK ‹_› ?_; first | refine aKeep [0, 1, 2, 4, 5, 6, 7, 8, 9, 10, 11, 12, 13, 14, 15, 22, 82, 87, 112, 117, 132, 170] ?_ | skip)
    | simp only [thenQ_normal, blockQ_normal])); all_goals (clear XH))
  rotate_right 1
  · have hch : chkD d = 0 := ‹_›
    have l1 := crashD_len d m
    have l2 := crashD_dirty d m
    have l3 := crashD_left d m
    have l4 := crashD_down d m
    have l5 := words_len d
    have l6 : (crashD d m).dirty.length = 0 := by rw [crashD_dirty]; rfl
    have l7 : decide (0 < ((crashD d m).dirty.length : Int)) = false := decide_eq_false (by omega)
    have l8 := chosenL_le m d.dirty.length
    (have XH := (And.intro (And.intro @eq_self.{1} (And.intro @l1 @l3)) (And.intro @l4 (And.intro @l5 @l7))); (repeat' (first
        | (refine aCallF 15 ?_; apply aE3; exact k_Great _; exact flatA; refine aPost ?_)
        | (refine aCallF 21 ?_; apply aE3; exact k_ref03_Check _ (by omega) (by omega); exact flatA; refine aPost ?_)
        | (refine aCallF 14 ?_; apply aE3; exact k_alive4; exact flatA; refine aPost ?_)
        | (refine aCall 22 ?_; apply aE2; exact k_View_s _ (by omega) (by omega) (by assumption); refine aPost ?_)
        | (refine aCall 10 ?_; apply aE2; exact k_Crash_ok _ _ (by omega) (by omega) (by omega) (by assumption); refine aPost ?_)
        | (refine aCall 11 ?_; apply aE2; exact k_Chosen_ok _ _ (by omega) (by omega) (by omega) (by assumption); refine aPost ?_)
        | (refine aCallF 23 ?_; apply aE3; exact k_ref02_Same _ _ (by omega) (by omega); exact flatA; refine aPost ?_)
        | (refine aCallF 20 ?_; apply aE3; exact k_ref03_Same _ _ (by omega) (by omega) (by omega) (by omega); exact flatA; refine aPost ?_)
        | refine aOp ?_
        | refine aOff1 ?_
        | refine aOff2 ?_
        | (refine aSplit ?_ ?_ <;> intro hsp)
        | (refine RegA.done ‹_› ?_; first | refine aKeep [0, 1, 2, 4, 5, 6, 7, 8, 9, 10, 11, 12, 13, 14, 15, 22, 82, 87, 112, 117, 132, 170] ?_ | skip)
        | refine awp_seq fun K hK => ?_
        | refine Awp.reg ?_
        | (refine aNcall (f := 15) ?_; apply aE6; exact k_Great _; (refine aNr (by simp only [unV', unX, unXs, unC, unL, rN, rB, List.append_nil, List.nil_append, rDev, dtyD, spent_img, spent_dirty, sK, sI, sDev, sO, rK, rI]; rfl) rfl rfl); (first | exact .inl rfl | exact .inr flatA); refine aNpost ?_)
        | (refine aNcall (f := 21) ?_; apply aE6; exact k_ref03_Check _ (by omega) (by omega); (refine aNr (by simp only [unV', unX, unXs, unC, unL, rN, rB, List.append_nil, List.nil_append, rDev, dtyD, spent_img, spent_dirty, sK, sI, sDev, sO, rK, rI]; rfl) rfl rfl); (first | exact .inl rfl | exact .inr flatA); refine aNpost ?_)
        | (refine aNcall (f := 14) ?_; apply aE6; exact k_alive4; (refine aNr (by simp only [unV', unX, unXs, unC, unL, rN, rB, List.append_nil, List.nil_append, rDev, dtyD, spent_img, spent_dirty, sK, sI, sDev, sO, rK, rI]; rfl) rfl rfl); (first | exact .inl rfl | exact .inr flatA); refine aNpost ?_)
        | (refine aNcall (f := 22) ?_; apply aE6; exact k_View_s _ (by omega) (by omega) (by assumption); (refine aNr (by simp only [unV', unX, unXs, unC, unL, rN, rB, List.append_nil, List.nil_append, rDev, dtyD, spent_img, spent_dirty, sK, sI, sDev, sO, rK, rI]; rfl) rfl rfl); (first | exact .inl rfl | exact .inr flatA); refine aNpost ?_)
        | (refine aNcall (f := 10) ?_; apply aE6; exact k_Crash_ok _ _ (by omega) (by omega) (by omega) (by assumption); (refine aNr (by simp only [unV', unX, unXs, unC, unL, rN, rB, List.append_nil, List.nil_append, rDev, dtyD, spent_img, spent_dirty, sK, sI, sDev, sO, rK, rI]; rfl) rfl rfl); (first | exact .inl rfl | exact .inr flatA); refine aNpost ?_)
        | (refine aNcall (f := 11) ?_; apply aE6; exact k_Chosen_ok _ _ (by omega) (by omega) (by omega) (by assumption); (refine aNr (by simp only [unV', unX, unXs, unC, unL, rN, rB, List.append_nil, List.nil_append, rDev, dtyD, spent_img, spent_dirty, sK, sI, sDev, sO, rK, rI]; rfl) rfl rfl); (first | exact .inl rfl | exact .inr flatA); refine aNpost ?_)
        | (refine aNcall (f := 23) ?_; apply aE6; exact k_ref02_Same _ _ (by omega) (by omega); (refine aNr (by simp only [unV', unX, unXs, unC, unL, rN, rB, List.append_nil, List.nil_append, rDev, dtyD, spent_img, spent_dirty, sK, sI, sDev, sO, rK, rI]; rfl) rfl rfl); (first | exact .inl rfl | exact .inr flatA); refine aNpost ?_)
        | (refine aNcall (f := 20) ?_; apply aE6; exact k_ref03_Same _ _ (by omega) (by omega) (by omega) (by omega); (refine aNr (by simp only [unV', unX, unXs, unC, unL, rN, rB, List.append_nil, List.nil_append, rDev, dtyD, spent_img, spent_dirty, sK, sI, sDev, sO, rK, rI]; rfl) rfl rfl); (first | exact .inl rfl | exact .inr flatA); refine aNpost ?_)
        | refine aNop ?_
        | refine aNoff1 ?_
        | refine aNoff2 ?_
        | (refine aNsplit ?_ ?_ <;> intro hsp)
        | refine aNnil ?_
        | refine aDrawN 21 [[], [0], [], [1, 2], [3], [], [5], [], [6, 7], [8], [4, 9], [10], [11], [12, 11], [11], [13, 14, 11], [15, 11], [11], [11], [17, 18, 11], [19, 11], [16, 20, 11], [11, 21]] [[], [0], [], [1, 2, 0], [3, 1, 2, 0], [], [5], [], [6, 7, 5], [8, 6, 7, 5], [4, 9, 3, 1, 2, 0, 8, 6, 7, 5], [10, 4, 9, 3, 1, 2, 0, 8, 6, 7, 5], [11, 10, 4, 9, 3, 1, 2, 0, 8, 6, 7, 5], [12, 11, 10, 4, 9, 3, 1, 2, 0, 8, 6, 7, 5], [11, 10, 4, 9, 3, 1, 2, 0, 8, 6, 7, 5], [13, 14, 11, 12, 10, 4, 9, 3, 1, 2, 0, 8, 6, 7, 5], [15, 11, 13, 14, 12, 10, 4, 9, 3, 1, 2, 0, 8, 6, 7, 5], [11, 10, 4, 9, 3, 1, 2, 0, 8, 6, 7, 5], [11, 10, 4, 9, 3, 1, 2, 0, 8, 6, 7, 5], [17, 18, 11, 10, 4, 9, 3, 1, 2, 0, 8, 6, 7, 5], [19, 11, 17, 18, 10, 4, 9, 3, 1, 2, 0, 8, 6, 7, 5], [16, 20, 11, 15, 13, 14, 12, 10, 4, 9, 3, 1, 2, 0, 8, 6, 7, 5, 19, 17, 18], [11, 21, 10, 4, 9, 3, 1, 2, 0, 8, 6, 7, 5, 16, 20, 15, 13, 14, 12, 19, 17, 18]] ?_
        | refine aDrawN 27 [[], [0], [1], [2, 1], [1], [3, 4, 1], [5, 1], [1], [1], [7, 8, 1], [9, 1], [6, 10, 1], [1, 11], [12, 1], [13], [14, 13], [15, 13, 13], [16], [17, 16], [16], [18, 19, 16], [20, 16], [16], [22, 16], [16], [23, 24, 16], [25, 16], [21, 26, 16], [16, 27, 13], [13, 28]] [[], [0], [1, 0], [2, 1, 0], [1, 0], [3, 4, 1, 2, 0], [5, 1, 3, 4, 2, 0], [1, 0], [1, 0], [7, 8, 1, 0], [9, 1, 7, 8, 0], [6, 10, 1, 5, 3, 4, 2, 0, 9, 7, 8], [1, 11, 0, 6, 10, 5, 3, 4, 2, 9, 7, 8], [12, 1, 11, 0, 6, 10, 5, 3, 4, 2, 9, 7, 8], [13, 12, 1, 11, 0, 6, 10, 5, 3, 4, 2, 9, 7, 8], [14, 13, 12, 1, 11, 0, 6, 10, 5, 3, 4, 2, 9, 7, 8], [15, 13, 14, 12, 1, 11, 0, 6, 10, 5, 3, 4, 2, 9, 7, 8], [16, 15, 13, 14, 12, 1, 11, 0, 6, 10, 5, 3, 4, 2, 9, 7, 8], [17, 16, 15, 13, 14, 12, 1, 11, 0, 6, 10, 5, 3, 4, 2, 9, 7, 8], [16, 15, 13, 14, 12, 1, 11, 0, 6, 10, 5, 3, 4, 2, 9, 7, 8], [18, 19, 16, 17, 15, 13, 14, 12, 1, 11, 0, 6, 10, 5, 3, 4, 2, 9, 7, 8], [20, 16, 18, 19, 17, 15, 13, 14, 12, 1, 11, 0, 6, 10, 5, 3, 4, 2, 9, 7, 8], [16, 15, 13, 14, 12, 1, 11, 0, 6, 10, 5, 3, 4, 2, 9, 7, 8], [22, 16, 15, 13, 14, 12, 1, 11, 0, 6, 10, 5, 3, 4, 2, 9, 7, 8], [16, 15, 13, 14, 12, 1, 11, 0, 6, 10, 5, 3, 4, 2, 9, 7, 8], [23, 24, 16, 22, 15, 13, 14, 12, 1, 11, 0, 6, 10, 5, 3, 4, 2, 9, 7, 8], [25, 16, 23, 24, 22, 15, 13, 14, 12, 1, 11, 0, 6, 10, 5, 3, 4, 2, 9, 7, 8], [21, 26, 16, 20, 18, 19, 17, 15, 13, 14, 12, 1, 11, 0, 6, 10, 5, 3, 4, 2, 9, 7, 8, 25, 23, 24, 22], [16, 27, 13, 15, 14, 12, 1, 11, 0, 6, 10, 5, 3, 4, 2, 9, 7, 8, 21, 26, 20, 18, 19, 17, 25, 23, 24, 22], [13, 28, 12, 1, 11, 0, 6, 10, 5, 3, 4, 2, 9, 7, 8, 16, 27, 15, 14, 21, 26, 20, 18, 19, 17, 25, 23, 24, 22]] ?_
        | refine Awp.skip ?_
        | refine Awp.block ?_
        | refine Awp.scope ?_
        | refine aCt ?_
        | refine aCf ?_
        | (refine aCond ?_ ?_ <;> intro hsp)
        | (refine Awp.exit ?_; simp only [blockQ, thenQ, scopeQ, ↓reduceIte, Nat.reduceEqDiff])
        | (refine viaK ‹_› ?_; first | refine aKeep [0, 1, 2, 4, 5, 6, 7, 8, 9, 10, 11, 12, 13, 14, 15, 22, 82, 87, 112, 117, 132, 170] ?_ | skip)
        | simp only [thenQ_normal, blockQ_normal])); all_goals (clear XH))
    refine Awp.loopK (α := {i : Nat // i ≤ d.img.length}) (fun x => [(4, vv (.bool false)), (11, vv (.int .i64 (x.1 : Int)))]) (fun x => []) [2, 5, 7, 9] [1, 0] (fun x => d.img.length - x.1) ⟨0, by omega⟩ [] (by simp only [List.filterMap_cons, List.filterMap_nil, lk_nil, lk_cons, ↓reduceIte, Nat.reduceEqDiff, Option.map_some, Option.map_none]; rfl) (by simp only [List.filterMap_cons, List.filterMap_nil, lk_nil, lk_cons, ↓reduceIte, Nat.reduceEqDiff, Option.map_some, Option.map_none]; rfl) rfl rfl ?_ ?_
    · simp only [Wk, frIn, hpIn, lk_nil, lk_cons, renV, renX, renC, belV, belX, belC, belL, belB, List.cons_append, List.nil_append, ↓reduceIte, Nat.reduceEqDiff, and_self, and_true, true_and] <;> simp [-List.getD_eq_getElem?_getD, vv, one, renV, renX, renC, belV, belX, belC, belL, belB, rho, renO, belO, lk_nil, lk_cons]
    · rintro ⟨i, hi⟩
      simp only [vv, one, List.cons_append, List.nil_append]
      (have XH := @eq_self.{1}; (repeat' (first
        | (refine aCallF 15 ?_; apply aE3; exact k_Great _; exact flatA; refine aPost ?_)
        | (refine aCallF 21 ?_; apply aE3; exact k_ref03_Check _ (by omega) (by omega); exact flatA; refine aPost ?_)
        | (refine aCallF 14 ?_; apply aE3; exact k_alive4; exact flatA; refine aPost ?_)
        | (refine aCall 22 ?_; apply aE2; exact k_View_s _ (by omega) (by omega) (by assumption); refine aPost ?_)
        | (refine aCall 10 ?_; apply aE2; exact k_Crash_ok _ _ (by omega) (by omega) (by omega) (by assumption); refine aPost ?_)
        | (refine aCall 11 ?_; apply aE2; exact k_Chosen_ok _ _ (by omega) (by omega) (by omega) (by assumption); refine aPost ?_)
        | (refine aCallF 23 ?_; apply aE3; exact k_ref02_Same _ _ (by omega) (by omega); exact flatA; refine aPost ?_)
        | (refine aCallF 20 ?_; apply aE3; exact k_ref03_Same _ _ (by omega) (by omega) (by omega) (by omega); exact flatA; refine aPost ?_)
        | refine aOp ?_
        | refine aOff1 ?_
        | refine aOff2 ?_
        | (refine aSplit ?_ ?_ <;> intro hsp)
        | (refine RegA.done ‹_› ?_; first | refine aKeep [0, 1, 2, 4, 5, 6, 7, 8, 9, 10, 11, 12, 13, 14, 15, 22, 82, 87, 112, 117, 132, 170] ?_ | skip)
        | refine awp_seq fun K hK => ?_
        | refine Awp.reg ?_
        | (refine aNcall (f := 15) ?_; apply aE6; exact k_Great _; (refine aNr (by simp only [unV', unX, unXs, unC, unL, rN, rB, List.append_nil, List.nil_append, rDev, dtyD, spent_img, spent_dirty, sK, sI, sDev, sO, rK, rI]; rfl) rfl rfl); (first | exact .inl rfl | exact .inr flatA); refine aNpost ?_)
        | (refine aNcall (f := 21) ?_; apply aE6; exact k_ref03_Check _ (by omega) (by omega); (refine aNr (by simp only [unV', unX, unXs, unC, unL, rN, rB, List.append_nil, List.nil_append, rDev, dtyD, spent_img, spent_dirty, sK, sI, sDev, sO, rK, rI]; rfl) rfl rfl); (first | exact .inl rfl | exact .inr flatA); refine aNpost ?_)
        | (refine aNcall (f := 14) ?_; apply aE6; exact k_alive4; (refine aNr (by simp only [unV', unX, unXs, unC, unL, rN, rB, List.append_nil, List.nil_append, rDev, dtyD, spent_img, spent_dirty, sK, sI, sDev, sO, rK, rI]; rfl) rfl rfl); (first | exact .inl rfl | exact .inr flatA); refine aNpost ?_)
        | (refine aNcall (f := 22) ?_; apply aE6; exact k_View_s _ (by omega) (by omega) (by assumption); (refine aNr (by simp only [unV', unX, unXs, unC, unL, rN, rB, List.append_nil, List.nil_append, rDev, dtyD, spent_img, spent_dirty, sK, sI, sDev, sO, rK, rI]; rfl) rfl rfl); (first | exact .inl rfl | exact .inr flatA); refine aNpost ?_)
        | (refine aNcall (f := 10) ?_; apply aE6; exact k_Crash_ok _ _ (by omega) (by omega) (by omega) (by assumption); (refine aNr (by simp only [unV', unX, unXs, unC, unL, rN, rB, List.append_nil, List.nil_append, rDev, dtyD, spent_img, spent_dirty, sK, sI, sDev, sO, rK, rI]; rfl) rfl rfl); (first | exact .inl rfl | exact .inr flatA); refine aNpost ?_)
        | (refine aNcall (f := 11) ?_; apply aE6; exact k_Chosen_ok _ _ (by omega) (by omega) (by omega) (by assumption); (refine aNr (by simp only [unV', unX, unXs, unC, unL, rN, rB, List.append_nil, List.nil_append, rDev, dtyD, spent_img, spent_dirty, sK, sI, sDev, sO, rK, rI]; rfl) rfl rfl); (first | exact .inl rfl | exact .inr flatA); refine aNpost ?_)
        | (refine aNcall (f := 23) ?_; apply aE6; exact k_ref02_Same _ _ (by omega) (by omega); (refine aNr (by simp only [unV', unX, unXs, unC, unL, rN, rB, List.append_nil, List.nil_append, rDev, dtyD, spent_img, spent_dirty, sK, sI, sDev, sO, rK, rI]; rfl) rfl rfl); (first | exact .inl rfl | exact .inr flatA); refine aNpost ?_)
        | (refine aNcall (f := 20) ?_; apply aE6; exact k_ref03_Same _ _ (by omega) (by omega) (by omega) (by omega); (refine aNr (by simp only [unV', unX, unXs, unC, unL, rN, rB, List.append_nil, List.nil_append, rDev, dtyD, spent_img, spent_dirty, sK, sI, sDev, sO, rK, rI]; rfl) rfl rfl); (first | exact .inl rfl | exact .inr flatA); refine aNpost ?_)
        | refine aNop ?_
        | refine aNoff1 ?_
        | refine aNoff2 ?_
        | (refine aNsplit ?_ ?_ <;> intro hsp)
        | refine aNnil ?_
        | refine aDrawN 21 [[], [0], [], [1, 2], [3], [], [5], [], [6, 7], [8], [4, 9], [10], [11], [12, 11], [11], [13, 14, 11], [15, 11], [11], [11], [17, 18, 11], [19, 11], [16, 20, 11], [11, 21]] [[], [0], [], [1, 2, 0], [3, 1, 2, 0], [], [5], [], [6, 7, 5], [8, 6, 7, 5], [4, 9, 3, 1, 2, 0, 8, 6, 7, 5], [10, 4, 9, 3, 1, 2, 0, 8, 6, 7, 5], [11, 10, 4, 9, 3, 1, 2, 0, 8, 6, 7, 5], [12, 11, 10, 4, 9, 3, 1, 2, 0, 8, 6, 7, 5], [11, 10, 4, 9, 3, 1, 2, 0, 8, 6, 7, 5], [13, 14, 11, 12, 10, 4, 9, 3, 1, 2, 0, 8, 6, 7, 5], [15, 11, 13, 14, 12, 10, 4, 9, 3, 1, 2, 0, 8, 6, 7, 5], [11, 10, 4, 9, 3, 1, 2, 0, 8, 6, 7, 5], [11, 10, 4, 9, 3, 1, 2, 0, 8, 6, 7, 5], [17, 18, 11, 10, 4, 9, 3, 1, 2, 0, 8, 6, 7, 5], [19, 11, 17, 18, 10, 4, 9, 3, 1, 2, 0, 8, 6, 7, 5], [16, 20, 11, 15, 13, 14, 12, 10, 4, 9, 3, 1, 2, 0, 8, 6, 7, 5, 19, 17, 18], [11, 21, 10, 4, 9, 3, 1, 2, 0, 8, 6, 7, 5, 16, 20, 15, 13, 14, 12, 19, 17, 18]] ?_
        | refine aDrawN 27 [[], [0], [1], [2, 1], [1], [3, 4, 1], [5, 1], [1], [1], [7, 8, 1], [9, 1], [6, 10, 1], [1, 11], [12, 1], [13], [14, 13], [15, 13, 13], [16], [17, 16], [16], [18, 19, 16], [20, 16], [16], [22, 16], [16], [23, 24, 16], [25, 16], [21, 26, 16], [16, 27, 13], [13, 28]] [[], [0], [1, 0], [2, 1, 0], [1, 0], [3, 4, 1, 2, 0], [5, 1, 3, 4, 2, 0], [1, 0], [1, 0], [7, 8, 1, 0], [9, 1, 7, 8, 0], [6, 10, 1, 5, 3, 4, 2, 0, 9, 7, 8], [1, 11, 0, 6, 10, 5, 3, 4, 2, 9, 7, 8], [12, 1, 11, 0, 6, 10, 5, 3, 4, 2, 9, 7, 8], [13, 12, 1, 11, 0, 6, 10, 5, 3, 4, 2, 9, 7, 8], [14, 13, 12, 1, 11, 0, 6, 10, 5, 3, 4, 2, 9, 7, 8], [15, 13, 14, 12, 1, 11, 0, 6, 10, 5, 3, 4, 2, 9, 7, 8], [16, 15, 13, 14, 12, 1, 11, 0, 6, 10, 5, 3, 4, 2, 9, 7, 8], [17, 16, 15, 13, 14, 12, 1, 11, 0, 6, 10, 5, 3, 4, 2, 9, 7, 8], [16, 15, 13, 14, 12, 1, 11, 0, 6, 10, 5, 3, 4, 2, 9, 7, 8], [18, 19, 16, 17, 15, 13, 14, 12, 1, 11, 0, 6, 10, 5, 3, 4, 2, 9, 7, 8], [20, 16, 18, 19, 17, 15, 13, 14, 12, 1, 11, 0, 6, 10, 5, 3, 4, 2, 9, 7, 8], [16, 15, 13, 14, 12, 1, 11, 0, 6, 10, 5, 3, 4, 2, 9, 7, 8], [22, 16, 15, 13, 14, 12, 1, 11, 0, 6, 10, 5, 3, 4, 2, 9, 7, 8], [16, 15, 13, 14, 12, 1, 11, 0, 6, 10, 5, 3, 4, 2, 9, 7, 8], [23, 24, 16, 22, 15, 13, 14, 12, 1, 11, 0, 6, 10, 5, 3, 4, 2, 9, 7, 8], [25, 16, 23, 24, 22, 15, 13, 14, 12, 1, 11, 0, 6, 10, 5, 3, 4, 2, 9, 7, 8], [21, 26, 16, 20, 18, 19, 17, 15, 13, 14, 12, 1, 11, 0, 6, 10, 5, 3, 4, 2, 9, 7, 8, 25, 23, 24, 22], [16, 27, 13, 15, 14, 12, 1, 11, 0, 6, 10, 5, 3, 4, 2, 9, 7, 8, 21, 26, 20, 18, 19, 17, 25, 23, 24, 22], [13, 28, 12, 1, 11, 0, 6, 10, 5, 3, 4, 2, 9, 7, 8, 16, 27, 15, 14, 21, 26, 20, 18, 19, 17, 25, 23, 24, 22]] ?_
        | refine Awp.skip ?_
        | refine Awp.block ?_
        | refine Awp.scope ?_
        | refine aCt ?_
        | refine aCf ?_
        | (refine aCond ?_ ?_ <;> intro hsp)
        | (refine Awp.exit ?_; simp only [blockQ, thenQ, scopeQ, ↓reduceIte, Nat.reduceEqDiff])
        | (refine viaK ‹_› ?_; first | refine aKeep [0, 1, 2, 4, 5, 6, 7, 8, 9, 10, 11, 12, 13, 14, 15, 22, 82, 87, 112, 117, 132, 170] ?_ | skip)
        | simp only [thenQ_normal, blockQ_normal])); all_goals (clear XH))
      all_goals first
        | (focus (exfalso; rcases old_or_new (i := i) m hch (by omega) with h | h <;> contradiction))
        | (focus (
          refine RegA.nil ⟨⟨i + 1, by omega⟩, [], ?_, ?_⟩
          · simp only [Wk, frIn, hpIn, lk_nil, lk_cons, renV, renX, renC, belV, belX, belC, belL, belB, List.cons_append, List.nil_append, ↓reduceIte, Nat.reduceEqDiff, and_self, and_true, true_and] <;> simp [-List.getD_eq_getElem?_getD, vv, one, renV, renX, renC, belV, belX, belC, belL, belB, rho, renO, belO, lk_nil, lk_cons]
          · (simp only []; omega)))
        | skip
      refine Awp.loopK (α := {i : Nat // i ≤ d.dirty.length}) (fun x => [(4, vv (.bool false)), (12, vv (.int .i64 ((chosenL m x.1).length : Int))), (13, vv (.int .i64 (x.1 : Int)))]) (fun x => []) [2, 5, 7, 9] [1, 0] (fun x => d.dirty.length - x.1) ⟨0, by omega⟩ [] (by simp only [List.filterMap_cons, List.filterMap_nil, lk_nil, lk_cons, ↓reduceIte, Nat.reduceEqDiff, Option.map_some, Option.map_none]; rfl) (by simp only [List.filterMap_cons, List.filterMap_nil, lk_nil, lk_cons, ↓reduceIte, Nat.reduceEqDiff, Option.map_some, Option.map_none]; rfl) rfl rfl ?_ ?_
      · simp only [Wk, frIn, hpIn, lk_nil, lk_cons, renV, renX, renC, belV, belX, belC, belL, belB, List.cons_append, List.nil_append, ↓reduceIte, Nat.reduceEqDiff, and_self, and_true, true_and] <;> simp [-List.getD_eq_getElem?_getD, vv, one, renV, renX, renC, belV, belX, belC, belL, belB, rho, renO, belO, lk_nil, lk_cons, chosenL_zero]
      · rintro ⟨i, hi⟩
        have hcl := chosenL_le m i
        have hbd := (devOk_all hch).1 i
        dsimp only
        simp only [vv, one, List.cons_append, List.nil_append]
        rcases words_tri (m := m) hch hi with ⟨q0, q1, hk, e0, e1, e2, e3⟩ | ⟨q0, q1, hk, e0, e1, e2, e3⟩ | ⟨q0, q1, hk, e0, e1, e2, e3⟩ | ⟨q0, q1, hk, e0, e1, e2, e3⟩ <;>
        (have XH := (And.intro (And.intro @eq_self.{1} @e0) (And.intro @e1 (And.intro @e2 @e3))); (repeat' (first
          | (refine aCallF 15 ?_; apply aE3; exact k_Great _; exact flatA; refine aPost ?_)
          | (refine aCallF 21 ?_; apply aE3; exact k_ref03_Check _ (by omega) (by omega); exact flatA; refine aPost ?_)
          | (refine aCallF 14 ?_; apply aE3; exact k_alive4; exact flatA; refine aPost ?_)
          | (refine aCall 22 ?_; apply aE2; exact k_View_s _ (by omega) (by omega) (by assumption); refine aPost ?_)
          | (refine aCall 10 ?_; apply aE2; exact k_Crash_ok _ _ (by omega) (by omega) (by omega) (by assumption); refine aPost ?_)
          | (refine aCall 11 ?_; apply aE2; exact k_Chosen_ok _ _ (by omega) (by omega) (by omega) (by assumption); refine aPost ?_)
          | (refine aCallF 23 ?_; apply aE3; exact k_ref02_Same _ _ (by omega) (by omega); exact flatA; refine aPost ?_)
          | (refine aCallF 20 ?_; apply aE3; exact k_ref03_Same _ _ (by omega) (by omega) (by omega) (by omega); exact flatA; refine aPost ?_)
          | refine aOp ?_
          | refine aOff1 ?_
          | refine aOff2 ?_
          | (refine aSplit ?_ ?_ <;> intro hsp)
          | (refine RegA.done ‹_› ?_; first | refine aKeep [0, 1, 2, 4, 5, 6, 7, 8, 9, 10, 11, 12, 13, 14, 15, 22, 82, 87, 112, 117, 132, 170] ?_ | skip)
          | refine awp_seq fun K hK => ?_
          | refine Awp.reg ?_
          | (refine aNcall (f := 15) ?_; apply aE6; exact k_Great _; (refine aNr (by simp only [unV', unX, unXs, unC, unL, rN, rB, List.append_nil, List.nil_append, rDev, dtyD, spent_img, spent_dirty, sK, sI, sDev, sO, rK, rI]; rfl) rfl rfl); (first | exact .inl rfl | exact .inr flatA); refine aNpost ?_)
          | (refine aNcall (f := 21) ?_; apply aE6; exact k_ref03_Check _ (by omega) (by omega); (refine aNr (by simp only [unV', unX, unXs, unC, unL, rN, rB, List.append_nil, List.nil_append, rDev, dtyD, spent_img, spent_dirty, sK, sI, sDev, sO, rK, rI]; rfl) rfl rfl); (first | exact .inl rfl | exact .inr flatA); refine aNpost ?_)
          | (refine aNcall (f := 14) ?_; apply aE6; exact k_alive4; (refine aNr (by simp only [unV', unX, unXs, unC, unL, rN, rB, List.append_nil, List.nil_append, rDev, dtyD, spent_img, spent_dirty, sK, sI, sDev, sO, rK, rI]; rfl) rfl rfl); (first | exact .inl rfl | exact .inr flatA); refine aNpost ?_)
          | (refine aNcall (f := 22) ?_; apply aE6; exact k_View_s _ (by omega) (by omega) (by assumption); (refine aNr (by simp only [unV', unX, unXs, unC, unL, rN, rB, List.append_nil, List.nil_append, rDev, dtyD, spent_img, spent_dirty, sK, sI, sDev, sO, rK, rI]; rfl) rfl rfl); (first | exact .inl rfl | exact .inr flatA); refine aNpost ?_)
          | (refine aNcall (f := 10) ?_; apply aE6; exact k_Crash_ok _ _ (by omega) (by omega) (by omega) (by assumption); (refine aNr (by simp only [unV', unX, unXs, unC, unL, rN, rB, List.append_nil, List.nil_append, rDev, dtyD, spent_img, spent_dirty, sK, sI, sDev, sO, rK, rI]; rfl) rfl rfl); (first | exact .inl rfl | exact .inr flatA); refine aNpost ?_)
          | (refine aNcall (f := 11) ?_; apply aE6; exact k_Chosen_ok _ _ (by omega) (by omega) (by omega) (by assumption); (refine aNr (by simp only [unV', unX, unXs, unC, unL, rN, rB, List.append_nil, List.nil_append, rDev, dtyD, spent_img, spent_dirty, sK, sI, sDev, sO, rK, rI]; rfl) rfl rfl); (first | exact .inl rfl | exact .inr flatA); refine aNpost ?_)
          | (refine aNcall (f := 23) ?_; apply aE6; exact k_ref02_Same _ _ (by omega) (by omega); (refine aNr (by simp only [unV', unX, unXs, unC, unL, rN, rB, List.append_nil, List.nil_append, rDev, dtyD, spent_img, spent_dirty, sK, sI, sDev, sO, rK, rI]; rfl) rfl rfl); (first | exact .inl rfl | exact .inr flatA); refine aNpost ?_)
          | (refine aNcall (f := 20) ?_; apply aE6; exact k_ref03_Same _ _ (by omega) (by omega) (by omega) (by omega); (refine aNr (by simp only [unV', unX, unXs, unC, unL, rN, rB, List.append_nil, List.nil_append, rDev, dtyD, spent_img, spent_dirty, sK, sI, sDev, sO, rK, rI]; rfl) rfl rfl); (first | exact .inl rfl | exact .inr flatA); refine aNpost ?_)
          | refine aNop ?_
          | refine aNoff1 ?_
          | refine aNoff2 ?_
          | (refine aNsplit ?_ ?_ <;> intro hsp)
          | refine aNnil ?_
          | refine aDrawN 21 [[], [0], [], [1, 2], [3], [], [5], [], [6, 7], [8], [4, 9], [10], [11], [12, 11], [11], [13, 14, 11], [15, 11], [11], [11], [17, 18, 11], [19, 11], [16, 20, 11], [11, 21]] [[], [0], [], [1, 2, 0], [3, 1, 2, 0], [], [5], [], [6, 7, 5], [8, 6, 7, 5], [4, 9, 3, 1, 2, 0, 8, 6, 7, 5], [10, 4, 9, 3, 1, 2, 0, 8, 6, 7, 5], [11, 10, 4, 9, 3, 1, 2, 0, 8, 6, 7, 5], [12, 11, 10, 4, 9, 3, 1, 2, 0, 8, 6, 7, 5], [11, 10, 4, 9, 3, 1, 2, 0, 8, 6, 7, 5], [13, 14, 11, 12, 10, 4, 9, 3, 1, 2, 0, 8, 6, 7, 5], [15, 11, 13, 14, 12, 10, 4, 9, 3, 1, 2, 0, 8, 6, 7, 5], [11, 10, 4, 9, 3, 1, 2, 0, 8, 6, 7, 5], [11, 10, 4, 9, 3, 1, 2, 0, 8, 6, 7, 5], [17, 18, 11, 10, 4, 9, 3, 1, 2, 0, 8, 6, 7, 5], [19, 11, 17, 18, 10, 4, 9, 3, 1, 2, 0, 8, 6, 7, 5], [16, 20, 11, 15, 13, 14, 12, 10, 4, 9, 3, 1, 2, 0, 8, 6, 7, 5, 19, 17, 18], [11, 21, 10, 4, 9, 3, 1, 2, 0, 8, 6, 7, 5, 16, 20, 15, 13, 14, 12, 19, 17, 18]] ?_
          | refine aDrawN 27 [[], [0], [1], [2, 1], [1], [3, 4, 1], [5, 1], [1], [1], [7, 8, 1], [9, 1], [6, 10, 1], [1, 11], [12, 1], [13], [14, 13], [15, 13, 13], [16], [17, 16], [16], [18, 19, 16], [20, 16], [16], [22, 16], [16], [23, 24, 16], [25, 16], [21, 26, 16], [16, 27, 13], [13, 28]] [[], [0], [1, 0], [2, 1, 0], [1, 0], [3, 4, 1, 2, 0], [5, 1, 3, 4, 2, 0], [1, 0], [1, 0], [7, 8, 1, 0], [9, 1, 7, 8, 0], [6, 10, 1, 5, 3, 4, 2, 0, 9, 7, 8], [1, 11, 0, 6, 10, 5, 3, 4, 2, 9, 7, 8], [12, 1, 11, 0, 6, 10, 5, 3, 4, 2, 9, 7, 8], [13, 12, 1, 11, 0, 6, 10, 5, 3, 4, 2, 9, 7, 8], [14, 13, 12, 1, 11, 0, 6, 10, 5, 3, 4, 2, 9, 7, 8], [15, 13, 14, 12, 1, 11, 0, 6, 10, 5, 3, 4, 2, 9, 7, 8], [16, 15, 13, 14, 12, 1, 11, 0, 6, 10, 5, 3, 4, 2, 9, 7, 8], [17, 16, 15, 13, 14, 12, 1, 11, 0, 6, 10, 5, 3, 4, 2, 9, 7, 8], [16, 15, 13, 14, 12, 1, 11, 0, 6, 10, 5, 3, 4, 2, 9, 7, 8], [18, 19, 16, 17, 15, 13, 14, 12, 1, 11, 0, 6, 10, 5, 3, 4, 2, 9, 7, 8], [20, 16, 18, 19, 17, 15, 13, 14, 12, 1, 11, 0, 6, 10, 5, 3, 4, 2, 9, 7, 8], [16, 15, 13, 14, 12, 1, 11, 0, 6, 10, 5, 3, 4, 2, 9, 7, 8], [22, 16, 15, 13, 14, 12, 1, 11, 0, 6, 10, 5, 3, 4, 2, 9, 7, 8], [16, 15, 13, 14, 12, 1, 11, 0, 6, 10, 5, 3, 4, 2, 9, 7, 8], [23, 24, 16, 22, 15, 13, 14, 12, 1, 11, 0, 6, 10, 5, 3, 4, 2, 9, 7, 8], [25, 16, 23, 24, 22, 15, 13, 14, 12, 1, 11, 0, 6, 10, 5, 3, 4, 2, 9, 7, 8], [21, 26, 16, 20, 18, 19, 17, 15, 13, 14, 12, 1, 11, 0, 6, 10, 5, 3, 4, 2, 9, 7, 8, 25, 23, 24, 22], [16, 27, 13, 15, 14, 12, 1, 11, 0, 6, 10, 5, 3, 4, 2, 9, 7, 8, 21, 26, 20, 18, 19, 17, 25, 23, 24, 22], [13, 28, 12, 1, 11, 0, 6, 10, 5, 3, 4, 2, 9, 7, 8, 16, 27, 15, 14, 21, 26, 20, 18, 19, 17, 25, 23, 24, 22]] ?_
          | refine Awp.skip ?_
          | refine Awp.block ?_
          | refine Awp.scope ?_
          | refine aCt ?_
          | refine aCf ?_
          | (refine aCond ?_ ?_ <;> intro hsp)
          | (refine Awp.exit ?_; simp only [blockQ, thenQ, scopeQ, ↓reduceIte, Nat.reduceEqDiff])
          | (refine viaK ‹_› ?_; first | refine aKeep [0, 1, 2, 4, 5, 6, 7, 8, 9, 10, 11, 12, 13, 14, 15, 22, 82, 87, 112, 117, 132, 170] ?_ | skip)
          | simp only [thenQ_normal, blockQ_normal])); all_goals (clear XH))
        all_goals first
          | (focus (
            have e := chosenL_t ‹keepB m i = true›
            refine RegA.nil ⟨⟨i + 1, by omega⟩, [], ?_, ?_⟩
            · simp only [Wk, frIn, hpIn, lk_nil, lk_cons, renV, renX, renC, belV, belX, belC, belL, belB, List.cons_append, List.nil_append, ↓reduceIte, Nat.reduceEqDiff, and_self, and_true, true_and] <;> simp [-List.getD_eq_getElem?_getD, vv, one, renV, renX, renC, belV, belX, belC, belL, belB, rho, renO, belO, lk_nil, lk_cons, ← e]
            · (simp only []; omega)))
          | (focus (
            have e := chosenL_f ‹keepB m i = false›
            refine RegA.nil ⟨⟨i + 1, by omega⟩, [], ?_, ?_⟩
            · simp only [Wk, frIn, hpIn, lk_nil, lk_cons, renV, renX, renC, belV, belX, belC, belL, belB, List.cons_append, List.nil_append, ↓reduceIte, Nat.reduceEqDiff, and_self, and_true, true_and] <;> simp [-List.getD_eq_getElem?_getD, vv, one, renV, renX, renC, belV, belX, belC, belL, belB, rho, renO, belO, lk_nil, lk_cons, ← e]
            · (simp only []; omega)))
          | (focus (
            obtain rfl : i = d.dirty.length := by omega
            (refine Awp.ret ?_; refine aRet ?_; (simp [-List.getD_eq_getElem?_getD, laxR, laxX, laxC, laxCs, rB, rN, rO, rDev, dtyD, spent_img, spent_dirty, sK, sI, sDev, sO, rK, rI] <;> (intros; omega)))))
  all_goals (refine Awp.ret ?_; refine aRet ?_; (simp [-List.getD_eq_getElem?_getD, laxR, laxX, laxC, laxCs, rB, rN, rO, rDev, dtyD, spent_img, spent_dirty, sK, sI, sDev, sO, rK, rI] <;> (intros; omega)))
end
end Go.Proofs.Ytijllihnheggbaa
