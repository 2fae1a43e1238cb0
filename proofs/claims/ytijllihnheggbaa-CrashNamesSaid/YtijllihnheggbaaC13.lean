/-
  The contracts of the program's functions, data in, data out. Conditions: those in the statements.
-/
import Derived.Test.YtijllihnheggbaaC12
import Derived.Test.YtijllihnheggbaaI3
namespace Go.Proofs.Ytijllihnheggbaa
set_option linter.all false
open Go Go.Proofs.Ytijllihnheggbaa.Eng Go.RowKit
noncomputable section

@[irreducible] def gap (l : List Dty) (i : Nat) : List Dty := l.take i ++ (⟨0, 0, false⟩ : Dty) :: l.drop i
theorem dty_gap (l : List Dty) (i : Nat) : (l.map dtyD).take i ++ [.v (.int .i64 0), .v (.int .u64 0), .v (.bool false)] :: (l.map dtyD).drop i = (gap l i).map dtyD := by
  unfold gap
  rw [List.map_append, List.map_cons, List.map_take, List.map_drop]; rfl
theorem dty_set (l : List Dty) (i : Nat) (a v : Int) (f : Bool) : (l.map dtyD).set i [.v (.int .i64 a), .v (.int .u64 v), .v (.bool f)] = (l.set i ⟨a, v, f⟩).map dtyD := by rw [List.map_set]; rfl
theorem gap_set {l : List Dty} {i : Nat} (h : i ≤ l.length) (x : Dty) : (gap l i).set i x = l.take i ++ x :: l.drop i := by
  unfold gap
  rw [List.set_append_right _ _ (by simp; omega)]
  have : i - (l.take i).length = 0 := by simp; omega
  rw [this]; rfl
theorem gap_len {l : List Dty} {i : Nat} (h : i ≤ l.length) : (gap l i).length = l.length + 1 := by unfold gap; simp; omega
namespace X48aacfc
def XX := (And.intro (And.intro @getD_dty (And.intro @tdiv8 @tmod8)) (And.intro (And.intro @takeAll @takeDropAll) (And.intro @toNatAdd @toNatSub)))
def XN := @Nat.zero_add
def XR := (And.intro (And.intro @rDev.eq_1 @dtyD.eq_1) (And.intro @spent_img @spent_dirty))
def XH := @Nat.zero_add
def XG := @Nat.zero_add
end X48aacfc
set_option maxHeartbeats 4000000 in
set_option maxRecDepth 10000 in
open X48aacfc in
theorem k_cache_Store (d : Dev) (a v : Int) (hm : d.img.length ≤ 1000000) (hl : d.dirty.length ≤ 1000000) (ha : -9223372036854775808 ≤ a ∧ a ≤ 9223372036854775807) : Con Try.prog 24 [devA d, vN .i64 a, vN .u64 v] [rDev (storeX d a v), rN .i64 (asked d a)] := by
  have hk : asked d a = 0 → 0 ≤ a ∧ a < d.img.length := fun h => (asked_chk h).2
  have hlb := lb_le d.dirty a
  have hgl := gap_len hlb
  refine con_of_awp hmix Try.func24 s24 rfl (by rw [n24]; simp) r24 n24 ?_
  simp only [Eng.start, startFr, inX, sN, vN, List.map_cons, List.map_nil, devA, devC, dtyD, sD, c24]
  (have XH := @gap_len; have XG := (And.intro (And.intro (And.intro @dty_gap (And.intro @dty_set @spent_img)) (And.intro @spent_dirty (And.intro @List.take_succ_cons.{0} @List.take_zero.{0}))) (And.intro (And.intro @List.take_nil.{0} (And.intro @List.length_cons.{0} @List.length_nil.{0})) (And.intro (And.intro @Nat.zero_add @List.drop_succ_cons.{0}) (And.intro @List.drop_zero.{0} @List.drop_nil.{0})))); (repeat' (first
    | (refine aCallF 37 ?_; apply aE3; exact k_cache_lineStart _ _ (by omega) (by omega) (by omega); exact flatA; refine aPost ?_)
    | (refine aCall 38 ?_; apply aE2; exact k_cache_begin _ (by omega) (by omega) (asked_chk ‹asked d a = 0›).1; refine aPost ?_)
    | (refine aCallF 39 ?_; apply aE3; exact k_cache_find _ _ (by omega) (chkD_srt (asked_chk ‹asked d a = 0›).1); exact flatA; refine aPost ?_)
    | (refine aCallH 40 ?_; apply aE5; exact h_Insert (lb d.dirty a) (by simp only [lk_nil, lk_cons, ↓reduceIte, Nat.reduceEqDiff]; rfl) (by simp only [lk_nil, lk_cons, ↓reduceIte, Nat.reduceEqDiff]; rfl) (by decide) (by simp) (lb_le _ _) (by omega); refine aPost2 ?_)
    | refine aOp ?_
    | refine aOff1 ?_
    | refine aOff2 ?_
    | (refine aSplit ?_ ?_ <;> intro hsp)
    | (refine RegA.done ‹_› ?_; first | refine aKeep [0, 1, 2, 3, 6, 7, 9, 10, 11, 12, 20, 29, 39] ?_ | skip)
    | refine awp_seq fun K hK => ?_
    | refine Awp.reg ?_
    | refine Awp.skip ?_
    | refine Awp.block ?_
    | refine Awp.scope ?_
    | refine aCt ?_
    | refine aCf ?_
    | (refine aCond ?_ ?_ <;> intro hsp)
    | (refine Awp.exit ?_; simp only [blockQ, thenQ, scopeQ, ↓reduceIte, Nat.reduceEqDiff])
    | (refine viaK ‹_› ?_; first | refine aKeep [0, 1, 2, 3, 6, 7, 9, 10, 11, 12, 20, 29, 39] ?_ | skip)
    | simp only [thenQ_normal, blockQ_normal])); all_goals (clear XH; clear XG))
  · have e : storeX d a v = zDev := by unfold storeX; rw [if_neg ‹_›]
    (refine Awp.ret ?_; refine aRetO ?_; apply aE2; (simp (disch := omega) only [outXs, outX, outC, outL, lk_nil, lk_cons, ↓reduceIte, Nat.reduceEqDiff, List.length_map, List.length_nil, List.length_replicate, List.length_cons, List.length_take, List.length_drop, List.length_append, List.length_set, ite_eq, Option.map_some, Bool.false_eq_true, gap_len]; rfl); (simp [-List.getD_eq_getElem?_getD, laxR, laxX, laxC, laxCs, rB, rN, rO, rDev, dtyD, spent_img, spent_dirty, e, zDev, rDev, *]))
  · have e : storeX d a v = spent d := by unfold storeX storeD; rw [if_pos ‹_›, if_neg (by simp [*])]
    (refine Awp.ret ?_; refine aRetO ?_; apply aE2; (simp (disch := omega) only [outXs, outX, outC, outL, lk_nil, lk_cons, ↓reduceIte, Nat.reduceEqDiff, List.length_map, List.length_nil, List.length_replicate, List.length_cons, List.length_take, List.length_drop, List.length_append, List.length_set, ite_eq, Option.map_some, Bool.false_eq_true, gap_len]; rfl); (simp [-List.getD_eq_getElem?_getD, laxR, laxX, laxC, laxCs, rB, rN, rO, rDev, dtyD, spent_img, spent_dirty, e, rDev, *]))
  · have e : storeX d a v = ⟨d.img, ins a v d.dirty, (spent d).left, (spent d).down⟩ := by unfold storeX storeD; rw [if_pos ‹_›, if_pos ‹_›]
    have e2 := (gap_set hlb ⟨a, v, false⟩).trans (ins_miss v ‹_›)
    (refine Awp.ret ?_; refine aRetO ?_; apply aE2; (simp (disch := omega) only [outXs, outX, outC, outL, lk_nil, lk_cons, ↓reduceIte, Nat.reduceEqDiff, List.length_map, List.length_nil, List.length_replicate, List.length_cons, List.length_take, List.length_drop, List.length_append, List.length_set, ite_eq, Option.map_some, Bool.false_eq_true, gap_len]; rfl); (simp [-List.getD_eq_getElem?_getD, laxR, laxX, laxC, laxCs, rB, rN, rO, rDev, dtyD, spent_img, spent_dirty, e, e2, rDev, *]))
  · have hq := hasAt_lt ‹hasAt d.dirty a = true›
    (have XH := @gap_len; have XG := (And.intro (And.intro (And.intro @dty_gap (And.intro @dty_set @spent_img)) (And.intro @spent_dirty (And.intro @List.take_succ_cons.{0} @List.take_zero.{0}))) (And.intro (And.intro @List.take_nil.{0} (And.intro @List.length_cons.{0} @List.length_nil.{0})) (And.intro (And.intro @Nat.zero_add @List.drop_succ_cons.{0}) (And.intro @List.drop_zero.{0} @List.drop_nil.{0})))); (repeat' (first
        | (refine aCallF 37 ?_; apply aE3; exact k_cache_lineStart _ _ (by omega) (by omega) (by omega); exact flatA; refine aPost ?_)
        | (refine aCall 38 ?_; apply aE2; exact k_cache_begin _ (by omega) (by omega) (asked_chk ‹asked d a = 0›).1; refine aPost ?_)
        | (refine aCallF 39 ?_; apply aE3; exact k_cache_find _ _ (by omega) (chkD_srt (asked_chk ‹asked d a = 0›).1); exact flatA; refine aPost ?_)
        | refine aOp ?_
        | refine aOff1 ?_
        | refine aOff2 ?_
        | (refine aSplit ?_ ?_ <;> intro hsp)
        | (refine RegA.done ‹_› ?_; first | refine aKeep [0, 1, 2, 3, 6, 7, 9, 10, 11, 12, 20, 29, 39] ?_ | skip)
        | refine awp_seq fun K hK => ?_
        | refine Awp.reg ?_
        | refine Awp.skip ?_
        | refine Awp.block ?_
        | refine Awp.scope ?_
        | refine aCt ?_
        | refine aCf ?_
        | (refine aCond ?_ ?_ <;> intro hsp)
        | (refine Awp.exit ?_; simp only [blockQ, thenQ, scopeQ, ↓reduceIte, Nat.reduceEqDiff])
        | (refine viaK ‹_› ?_; first | refine aKeep [0, 1, 2, 3, 6, 7, 9, 10, 11, 12, 20, 29, 39] ?_ | skip)
        | simp only [thenQ_normal, blockQ_normal])); all_goals (clear XH; clear XG))
    have e : storeX d a v = ⟨d.img, ins a v d.dirty, (spent d).left, (spent d).down⟩ := by unfold storeX storeD; rw [if_pos ‹_›, if_pos ‹_›]
    have e2 := ins_hit v ‹hasAt d.dirty a = true›
    (refine Awp.ret ?_; refine aRetO ?_; apply aE2; (simp (disch := omega) only [outXs, outX, outC, outL, lk_nil, lk_cons, ↓reduceIte, Nat.reduceEqDiff, List.length_map, List.length_nil, List.length_replicate, List.length_cons, List.length_take, List.length_drop, List.length_append, List.length_set, ite_eq, Option.map_some, Bool.false_eq_true, gap_len]; rfl); (simp [-List.getD_eq_getElem?_getD, laxR, laxX, laxC, laxCs, rB, rN, rO, rDev, dtyD, spent_img, spent_dirty, e, e2, rDev, *]))
end
end Go.Proofs.Ytijllihnheggbaa
