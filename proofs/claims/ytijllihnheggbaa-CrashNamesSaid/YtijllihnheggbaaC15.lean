/-
  The contracts of the program's functions, data in, data out. Conditions: those in the statements.
-/
import Derived.Test.YtijllihnheggbaaC14
namespace Go.Proofs.Ytijllihnheggbaa
set_option linter.all false
open Go Go.Proofs.Ytijllihnheggbaa.Eng Go.RowKit
noncomputable section

theorem getD_set (l : List Dty) (i k : Nat) (x : Dty) (h : i < l.length) : (l.set i x).getD k default = if k = i then x else l.getD k default := by
  by_cases hk : k = i
  · subst hk; simp [List.getD, h]
  · simp [List.getD, hk, Ne.symm hk]
theorem getD_flu (a : Int) (l : List Dty) (k : Nat) (h : k < l.length) : (flu a l).getD k default = flx a (l.getD k default) := by simp [flu, List.getD, h]
/-- What the loop over the line leaves. -/
theorem flu_of {a : Int} {l acc : List Dty} {lo hi : Nat} (hs : Srt l) (h0 : lo = lb l (a / 8 * 8)) (h1 : hi = lb l (a / 8 * 8 + 8)) (hl : acc.length = l.length) (h : ∀ k, k < l.length → acc.getD k default = if lo ≤ k ∧ k < hi then ⟨(l.getD k default).at_, (l.getD k default).v, true⟩ else l.getD k default) : acc = flu a l := by
  refine dty_ext0 (by rw [hl, flu_len]) fun k hk => ?_
  rw [hl] at hk
  rw [h k hk, getD_flu a l k hk]
  have g1 := lb_ge (a := a / 8 * 8) hs k
  have g2 := lb_lt (l := l) (a := a / 8 * 8) k
  have g3 := lb_ge (a := a / 8 * 8 + 8) hs k
  have g4 := lb_lt (l := l) (a := a / 8 * 8 + 8) k
  unfold flx
  by_cases hc : lo ≤ k ∧ k < hi
  · rw [if_pos hc]
    have q1 := g1 (by omega) hk
    have q2 := g4 (by omega)
    rw [if_pos (by omega)]
  · rw [if_neg hc]
    by_cases hk1 : k < lo
    · have q := g2 (by omega)
      rw [if_neg (by omega)]
    · have q := g3 (by omega) hk
      rw [if_neg (by omega)]
theorem lb_mono {l : List Dty} {a b : Int} (hs : Srt l) (h : a ≤ b) : lb l a ≤ lb l b := by
  rcases Nat.lt_or_ge (lb l b) (lb l a) with hlt | hge
  · have h1 := lb_lt (l := l) (a := a) (lb l b) hlt
    have h2 := lb_ge (a := b) hs (lb l b) (Nat.le_refl _) (Nat.lt_of_lt_of_le hlt (lb_le l a))
    omega
  · exact hge
namespace X3f32645
def XX := (And.intro (And.intro @getD_dty (And.intro @tdiv8 @tmod8)) (And.intro (And.intro @takeAll @takeDropAll) (And.intro @toNatAdd @toNatSub)))
def XN := @Nat.zero_add
def XR := (And.intro (And.intro @rDev.eq_1 @dtyD.eq_1) (And.intro @spent_img @spent_dirty))
def XH := @Nat.zero_add
def XG := @Nat.zero_add
end X3f32645
set_option maxHeartbeats 4000000 in
set_option maxRecDepth 10000 in
open X3f32645 in
theorem k_cache_Flush (d : Dev) (a : Int) (hm : d.img.length ≤ 1000000) (hl : d.dirty.length ≤ 1000000) (ha : -9223372036854775808 ≤ a ∧ a ≤ 9223372036854775807) : Con Try.prog 25 [devA d, vN .i64 a] [rDev (flushX d a), rN .i64 (asked d a)] := by
  have hk : asked d a = 0 → 0 ≤ a ∧ a < d.img.length := fun h => (asked_chk h).2
  have hsr : asked d a = 0 → lb d.dirty (a / 8 * 8) ≤ lb d.dirty (a / 8 * 8 + 8) := fun h => lb_mono (chkD_srt (asked_chk h).1) (by omega)
  have hle := lb_le d.dirty (a / 8 * 8 + 8)
  have hle0 := lb_le d.dirty (a / 8 * 8)
  have if_asked : asked d a = 0 → (if asked d a = 0 then a / 8 * 8 else 0) = a / 8 * 8 := fun h => if_pos h
  have hmh := madeB d
  refine con_of_awp hmix Try.func25 s25 rfl (by rw [n25]; simp) r25 n25 ?_
  simp only [Eng.start, startFr, inX, sN, vN, List.map_cons, List.map_nil, devA, devC, dtyD, sD, c25]
  (have XG := (And.intro (And.intro (And.intro @dty_set (And.intro @spent_img @spent_dirty)) (And.intro @if_asked (And.intro @List.take_succ_cons.{0} @List.take_zero.{0}))) (And.intro (And.intro @List.take_nil.{0} (And.intro @List.length_cons.{0} @List.length_nil.{0})) (And.intro (And.intro @Nat.zero_add @List.drop_succ_cons.{0}) (And.intro @List.drop_zero.{0} @List.drop_nil.{0})))); (repeat' (first
    | (refine aCallF 37 ?_; apply aE3; exact k_cache_lineStart _ _ (by omega) (by omega) (by omega); exact flatA; refine aPost ?_)
    | (refine aCall 38 ?_; apply aE2; exact k_cache_begin _ (by omega) (by omega) (asked_chk ‹asked d a = 0›).1; refine aPost ?_)
    | (refine aCallF 39 ?_; apply aE3; exact k_cache_find _ _ (by omega) (chkD_srt (asked_chk ‹asked d a = 0›).1); exact flatA; refine aPost ?_)
    | refine aOp ?_
    | refine aOff1 ?_
    | refine aOff2 ?_
    | (refine aSplit ?_ ?_ <;> intro hsp)
    | (refine RegA.done ‹_› ?_; first | refine aKeep [0, 1, 2, 4, 5, 6, 7, 8, 9, 11, 13, 21, 30, 50] ?_ | skip)
    | refine awp_seq fun K hK => ?_
    | refine Awp.reg ?_
    | refine Awp.skip ?_
    | refine Awp.block ?_
    | refine Awp.scope ?_
    | refine aCt ?_
    | refine aCf ?_
    | (refine aCond ?_ ?_ <;> intro hsp)
    | (refine Awp.exit ?_; simp only [blockQ, thenQ, scopeQ, ↓reduceIte, Nat.reduceEqDiff])
    | (refine viaK ‹_› ?_; first | refine aKeep [0, 1, 2, 4, 5, 6, 7, 8, 9, 11, 13, 21, 30, 50] ?_ | skip)
    | simp only [thenQ_normal, blockQ_normal])); all_goals (clear XG))
  · have e : flushX d a = zDev := by unfold flushX; rw [if_neg ‹_›]
    (refine Awp.ret ?_; refine aRet ?_; (simp [-List.getD_eq_getElem?_getD, laxR, laxX, laxC, laxCs, rB, rN, rO, rDev, dtyD, spent_img, spent_dirty, e, zDev, rDev, *]))
  · have e : flushX d a = spent d := by unfold flushX flushD; rw [if_pos ‹_›, if_neg (by simp [*])]
    (refine Awp.ret ?_; refine aRet ?_; (simp [-List.getD_eq_getElem?_getD, laxR, laxX, laxC, laxCs, rB, rN, rO, rDev, dtyD, spent_img, spent_dirty, e, rDev, *]))
  · have hlt := hsr ‹asked d a = 0›
    refine Awp.loopK (α := {x : Nat × List Dty // lb d.dirty (a / 8 * 8) ≤ x.1 ∧ x.1 ≤ lb d.dirty (a / 8 * 8 + 8) ∧ x.2.length = d.dirty.length ∧ ∀ k, k < d.dirty.length → x.2.getD k default = if lb d.dirty (a / 8 * 8) ≤ k ∧ k < x.1 then ⟨(d.dirty.getD k default).at_, (d.dirty.getD k default).v, true⟩ else d.dirty.getD k default}) (fun x => [(13, vv (.int .i64 (x.1.1 : Int)))]) (fun x => [(3, .row 3 (x.1.2.map dtyD) false)]) [2, 4, 5, 11] [0, 1, 2] (fun x => lb d.dirty (a / 8 * 8 + 8) - x.1.1) ⟨(lb d.dirty (a / 8 * 8), d.dirty), by dsimp only; omega, by dsimp only; omega, rfl, fun k hk => by rw [if_neg (by dsimp only; omega)]⟩ [] (by simp only [List.filterMap_cons, List.filterMap_nil, lk_nil, lk_cons, ↓reduceIte, Nat.reduceEqDiff, Option.map_some, Option.map_none]; rfl) (by simp only [List.filterMap_cons, List.filterMap_nil, lk_nil, lk_cons, ↓reduceIte, Nat.reduceEqDiff, Option.map_some, Option.map_none]; rfl) rfl rfl ?_ ?_
    · simp only [Wk, frIn, hpIn, lk_nil, lk_cons, renV, renX, renC, belV, belX, belC, belL, belB, List.cons_append, List.nil_append, ↓reduceIte, Nat.reduceEqDiff, and_self, and_true, true_and] <;> simp [-List.getD_eq_getElem?_getD, vv, one, renV, renX, renC, belV, belX, belC, belL, belB, rho, renO, belO, lk_nil, lk_cons]
    · rintro ⟨⟨i, acc⟩, hi, hi2, hal, hac⟩
      dsimp only at hi hi2 hal hac ⊢
      simp only [vv, one, List.cons_append, List.nil_append]
      (have XG := (And.intro (And.intro (And.intro @dty_set (And.intro @spent_img @spent_dirty)) (And.intro @if_asked (And.intro @List.take_succ_cons.{0} @List.take_zero.{0}))) (And.intro (And.intro @List.take_nil.{0} (And.intro @List.length_cons.{0} @List.length_nil.{0})) (And.intro (And.intro @Nat.zero_add @List.drop_succ_cons.{0}) (And.intro @List.drop_zero.{0} @List.drop_nil.{0})))); (repeat' (first
        | refine aOp ?_
        | refine aOff1 ?_
        | refine aOff2 ?_
        | (refine aSplit ?_ ?_ <;> intro hsp)
        | (refine RegA.done ‹_› ?_; first | refine aKeep [0, 1, 2, 4, 5, 6, 7, 8, 9, 11, 13, 21, 30, 50] ?_ | skip)
        | refine awp_seq fun K hK => ?_
        | refine Awp.reg ?_
        | refine Awp.skip ?_
        | refine Awp.block ?_
        | refine Awp.scope ?_
        | refine aCt ?_
        | refine aCf ?_
        | (refine aCond ?_ ?_ <;> intro hsp)
        | (refine Awp.exit ?_; simp only [blockQ, thenQ, scopeQ, ↓reduceIte, Nat.reduceEqDiff])
        | (refine viaK ‹_› ?_; first | refine aKeep [0, 1, 2, 4, 5, 6, 7, 8, 9, 11, 13, 21, 30, 50] ?_ | skip)
        | simp only [thenQ_normal, blockQ_normal])); all_goals (clear XG))
      · refine RegA.nil ⟨⟨(i + 1, acc.set i ⟨(acc.getD i default).at_, (acc.getD i default).v, true⟩), by dsimp only; omega, by dsimp only; omega, by simp [hal], fun k hk => by
            dsimp only
            rw [getD_set _ _ _ _ (by omega), hac k hk]
            by_cases hki : k = i
            · subst hki
              rw [if_pos rfl, if_pos (by omega), hac k hk, if_neg (by omega)]
            · rw [if_neg hki]
              by_cases hc : lb d.dirty (a / 8 * 8) ≤ k ∧ k < i
              · rw [if_pos hc, if_pos (by omega)]
              · rw [if_neg hc, if_neg (by omega)]⟩, [], ?_, ?_⟩
        · simp only [Wk, frIn, hpIn, lk_nil, lk_cons, renV, renX, renC, belV, belX, belC, belL, belB, List.cons_append, List.nil_append, ↓reduceIte, Nat.reduceEqDiff, and_self, and_true, true_and] <;> simp [-List.getD_eq_getElem?_getD, vv, one, renV, renX, renC, belV, belX, belC, belL, belB, rho, renO, belO, lk_nil, lk_cons]
        · (simp only []; omega)
      · have e : flushX d a = ⟨d.img, flu a d.dirty, (spent d).left, (spent d).down⟩ := by unfold flushX flushD; rw [if_pos ‹_›, if_pos ‹_›]
        have e2 : acc = flu a d.dirty := flu_of (chkD_srt (asked_chk ‹asked d a = 0›).1) rfl (show i = _ by omega) hal hac
        (refine Awp.ret ?_; refine aRet ?_; (simp [-List.getD_eq_getElem?_getD, laxR, laxX, laxC, laxCs, rB, rN, rO, rDev, dtyD, spent_img, spent_dirty, e, e2, flu_len, rDev, *]))
end
end Go.Proofs.Ytijllihnheggbaa
