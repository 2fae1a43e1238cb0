/-
  The contracts of the program's functions, data in, data out. Conditions: those in the statements.
-/
import Derived.Test.YtijllihnheggbaaD9
namespace Go.Proofs.Ytijllihnheggbaa
set_option linter.all false
open Go Go.Proofs.Ytijllihnheggbaa.Eng Go.RowKit
noncomputable section

/-- Behind a store, a flush and a fence the word is the image's, and not dirty. -/
def safeD (d : Dev) (a v : Int) : Dev := fenceD (flushD (storeD d a v) a)
theorem safe_facts {d : Dev} {a v : Int} (h : asked d a = 0) (hl : d.left = -1) : chkD (safeD d a v) = 0 ∧ (safeD d a v).img.length = d.img.length ∧ (safeD d a v).left = -1 ∧ val (safeD d a v).dirty a = none ∧ (safeD d a v).img.getD a.toNat 0 = v := by
  obtain ⟨h0, h1, h2⟩ := asked_chk h
  have hm : madeB d = true := (made_iff d).2 (by omega)
  have e1 : spent d = d := by unfold spent; rw [if_neg (by omega), if_pos hl]
  have s1 : storeD d a v = ⟨d.img, ins a v d.dirty, d.left, d.down⟩ := by unfold storeD; rw [if_pos hm, e1]
  have c1 := chkD_store (v := v) h
  have l1 : (storeD d a v).left = -1 := by rw [s1]; exact hl
  have c2 := chkD_flush a c1.1
  have s2 := flushD_free a l1
  have l2 : (flushD (storeD d a v) a).left = -1 := by rw [s2]; exact l1
  have c3 := chkD_fence c2.1
  have s3 := fenceD_free l2
  have hd2 : (flushD (storeD d a v) a).dirty = flu a (storeD d a v).dirty := by rw [s2]
  have hv : val (flushD (storeD d a v) a).dirty a = some ⟨a, v, true⟩ := by
    rw [hd2, val_flu, s1]
    simp only [val_ins, if_true, Option.map_some, flx]
  have hi2 : (flushD (storeD d a v) a).img.length = d.img.length := by rw [c2.2, c1.2]
  refine ⟨c3.1, ?_, ?_, ?_, ?_⟩
  · exact c3.2.trans hi2
  · show (fenceD _).left = -1
    rw [s3]; exact l2
  · show val (fenceD _).dirty a = none
    rw [s3]
    show val (unfl _) a = none
    unfold unfl
    rw [val_filter _ (chkD_srt c2.1), hv]
    rfl
  · show (fenceD _).img.getD a.toNat 0 = v
    rw [s3]
    show (imgF _ _).getD a.toNat 0 = v
    rw [imgF_at (chkD_srt c2.1) (fun x hx => (devOk_pos c2.1 x hx).1) h1 (by rw [hi2]; exact h2), hv]
    rfl
theorem crash_load {d : Dev} {a : Int} (m : Int) (h : asked d a = 0) : asked (crashD d m) a = 0 ∧ wordAt (crashD d m) a = match val (keptL m d.dirty) a with | some x => x.v | none => d.img.getD a.toNat 0 := by
  obtain ⟨h0, h1, h2⟩ := asked_chk h
  refine ⟨asked_of (chkD_crash m h0) h1 (by rw [crashD_len]; exact h2), ?_⟩
  rw [wordAt_val (chkD_srt (chkD_crash m h0)), crashD_dirty, crashD_img]
  exact crash_at m h0 h1 h2
theorem val_sub {a b : List Dty} (h : a.Sublist b) (hb : Srt b) {x : Int} {y : Dty} (hy : val a x = some y) : val b x = some y := by
  obtain ⟨q1, q2⟩ := val_at hy
  have := val_mem hb (h.mem q2)
  rw [q1] at this
  exact this
theorem safe_crash {d : Dev} {a v : Int} (m : Int) (h : asked d a = 0) (hl : d.left = -1) : wordAt (crashD (safeD d a v) m) a = v := by
  obtain ⟨h0, h1, h2⟩ := asked_chk h
  obtain ⟨f1, f2, f3, f4, f5⟩ := safe_facts (v := v) h hl
  have hk : asked (safeD d a v) a = 0 := asked_of f1 h1 (by rw [f2]; exact h2)
  rw [(crash_load m hk).2]
  cases hv : val (keptL m (safeD d a v).dirty) a with
  | none => exact f5
  | some y =>
    rw [val_sub (keptL_sub m _) (chkD_srt f1) hv] at f4
    cases f4
theorem open_crash {d : Dev} {a v : Int} (w m : Int) (h : asked d a = 0) (hl : d.left = -1) : wordAt (crashD (storeD (safeD d a v) a w) m) a = v ∨ wordAt (crashD (storeD (safeD d a v) a w) m) a = w := by
  obtain ⟨h0, h1, h2⟩ := asked_chk h
  obtain ⟨f1, f2, f3, f4, f5⟩ := safe_facts (v := v) h hl
  have hk : asked (safeD d a v) a = 0 := asked_of f1 h1 (by rw [f2]; exact h2)
  have c := chkD_store (v := w) hk
  have hk2 : asked (storeD (safeD d a v) a w) a = 0 := asked_of c.1 h1 (by rw [c.2, f2]; exact h2)
  have hm : madeB (safeD d a v) = true := (made_iff _).2 (by omega)
  have e1 : spent (safeD d a v) = safeD d a v := by unfold spent; rw [if_neg (by omega), if_pos f3]
  have s1 : storeD (safeD d a v) a w = ⟨(safeD d a v).img, ins a w (safeD d a v).dirty, (safeD d a v).left, (safeD d a v).down⟩ := by unfold storeD; rw [if_pos hm, e1]
  rw [(crash_load m hk2).2]
  cases hv : val (keptL m (storeD (safeD d a v) a w).dirty) a with
  | none =>
    left
    show (storeD (safeD d a v) a w).img.getD a.toNat 0 = v
    rw [c.2]; exact f5
  | some y =>
    right
    have := val_sub (keptL_sub m _) (chkD_srt c.1) hv
    rw [s1] at this
    simp only [val_ins, if_true, Option.some.injEq] at this
    subst this
    rfl
theorem k_Load_k (d : Dev) (a : Int) (hm : d.img.length ≤ 1000000) (hl : d.dirty.length ≤ 1000000) (h : asked d a = 0) : Con Try.prog 27 [devA d, vN .i64 a] [rN .u64 (wordAt d a), rN .i64 0] := k_Load_ok d a hm hl h
namespace X0c0af5b
def XX := (And.intro (And.intro @getD_dty (And.intro @tdiv8 @tmod8)) (And.intro (And.intro @takeAll @takeDropAll) (And.intro @toNatAdd @toNatSub)))
def XN := @Nat.zero_add
def XR := (And.intro (And.intro (And.intro @rDev.eq_1 @dtyD.eq_1) (And.intro @spent_img (And.intro @spent_dirty @sK.eq_1))) (And.intro (And.intro @sI.eq_1 @sDev.eq_1) (And.intro @sO.eq_1 (And.intro @rK.eq_1 @rI.eq_1))))
def XH := @Nat.zero_add
def XG := @Nat.zero_add
end X0c0af5b
set_option maxHeartbeats 4000000 in
set_option maxRecDepth 10000 in
open X0c0af5b in
theorem k_law04_CrashFenced (d : Dev) (a v w m : Int) (h0 : 0 ≤ m ∧ m < 18446744073709551616) : Con Try.prog 7 [devA d, vN .i64 a, vN .u64 v, vN .u64 w, vN .u64 m] [rB true] := by
  refine con_of_awp hmix Try.func7 s7 rfl (by rw [n7]; simp) r7 n7 ?_
  simp only [Eng.start, startFr, inX, sN, vN, List.map_cons, List.map_nil, devA, devC, dtyD, sD, c7]
  (have XH := @eq_self.{1}; (repeat' (first
    | (refine aCallF 15 ?_; apply aE3; exact k_Great _; exact flatA; refine aPost ?_)
    | (refine aCallF 21 ?_; apply aE3; exact k_ref03_Check _ (by omega) (by omega); exact flatA; refine aPost ?_)
    | (refine aCallF 14 ?_; apply aE3; exact k_alive4; exact flatA; refine aPost ?_)
    | refine aOp ?_
    | refine aOff1 ?_
    | refine aOff2 ?_
    | (refine aSplit ?_ ?_ <;> intro hsp)
    | (refine RegA.done ‹_› ?_; first | refine aKeep [0, 1, 2, 3, 4, 5, 10, 11, 12, 13, 14, 15, 16, 17, 18, 19, 20, 21, 22, 23, 24, 47, 107] ?_ | skip)
    | refine awp_seq fun K hK => ?_
    | refine Awp.reg ?_
    | refine Awp.skip ?_
    | refine Awp.block ?_
    | refine Awp.scope ?_
    | refine aCt ?_
    | refine aCf ?_
    | (refine aCond ?_ ?_ <;> intro hsp)
    | (refine Awp.exit ?_; simp only [blockQ, thenQ, scopeQ, ↓reduceIte, Nat.reduceEqDiff])
    | (refine viaK ‹_› ?_; first | refine aKeep [0, 1, 2, 3, 4, 5, 10, 11, 12, 13, 14, 15, 16, 17, 18, 19, 20, 21, 22, 23, 24, 47, 107] ?_ | skip)
    | simp only [thenQ_normal, blockQ_normal])); all_goals (clear XH))
  rotate_right 1
  · have hch : chkD d = 0 := ‹_›
    have hlf : d.left = -1 := ‹_›
    have hka : asked d a = 0 := asked_of hch ‹_› ‹_›
    obtain ⟨c1, i1⟩ := chkD_store (v := v) hka
    obtain ⟨c2, i2⟩ := chkD_flush a c1
    obtain ⟨c3, i3, i4, i5, i6⟩ := safe_facts (v := v) hka hlf
    unfold safeD at c3 i3 i4 i5 i6
    have k1 : asked (storeD d a v) a = 0 := asked_of c1 ‹_› (by rw [i1]; assumption)
    have k3 : asked (fenceD (flushD (storeD d a v) a)) a = 0 := asked_of c3 ‹_› (by rw [i3]; assumption)
    obtain ⟨c4, i7⟩ := chkD_store (v := w) k3
    have k4 : asked (storeD (fenceD (flushD (storeD d a v) a)) a w) a = 0 := asked_of c4 ‹_› (by rw [i7, i3]; assumption)
    have k5 := (crash_load m k3).1
    have k6 := (crash_load m k4).1
    have l1 := storeD_len d a v
    have l2 := flushD_len (storeD d a v) a
    have l3 := fenceD_len (flushD (storeD d a v) a)
    have l4 := storeD_len (fenceD (flushD (storeD d a v) a)) a w
    have l5 := crashD_len (fenceD (flushD (storeD d a v) a)) m
    have l6 := crashD_len (storeD (fenceD (flushD (storeD d a v) a)) a w) m
    have l7 : (crashD (fenceD (flushD (storeD d a v) a)) m).dirty.length = 0 := by rw [crashD_dirty]; rfl
    have l8 : (crashD (storeD (fenceD (flushD (storeD d a v) a)) a w) m).dirty.length = 0 := by rw [crashD_dirty]; rfl
    have l9 : (storeD d a v).img.length = d.img.length := by rw [i1]
    have l10 : (flushD (storeD d a v) a).img.length = d.img.length := by rw [i2, i1]
    have l11 : (storeD (fenceD (flushD (storeD d a v) a)) a w).img.length = d.img.length := by rw [i7, i3]
    have w1 : decide (wordAt (crashD (fenceD (flushD (storeD d a v) a)) m) a = v) = true := decide_eq_true (safe_crash m hka hlf)
    have w2 : decide (wordAt (crashD (storeD (fenceD (flushD (storeD d a v) a)) a w) m) a = v) = true ∨ (decide (wordAt (crashD (storeD (fenceD (flushD (storeD d a v) a)) a w) m) a = v) = false ∧ decide (wordAt (crashD (storeD (fenceD (flushD (storeD d a v) a)) a w) m) a = w) = true) := by
      by_cases hq : wordAt (crashD (storeD (fenceD (flushD (storeD d a v) a)) a w) m) a = v
      · exact .inl (decide_eq_true hq)
      · exact .inr ⟨decide_eq_false hq, decide_eq_true ((open_crash w m hka hlf).resolve_left hq)⟩
    rcases w2 with w2 | ⟨w2, w3⟩
    · (have XH := (And.intro @eq_self.{1} (And.intro @w1 @w2)); (repeat' (first
          | (refine aCallF 15 ?_; apply aE3; exact k_Great _; exact flatA; refine aPost ?_)
          | (refine aCallF 21 ?_; apply aE3; exact k_ref03_Check _ (by omega) (by omega); exact flatA; refine aPost ?_)
          | (refine aCallF 14 ?_; apply aE3; exact k_alive4; exact flatA; refine aPost ?_)
          | (refine aCall 10 ?_; apply aE2; exact k_Crash_ok _ _ (by omega) (by omega) (by omega) (by assumption); refine aPost ?_)
          | (refine aCall 24 ?_; apply aE2; exact k_Store_s _ _ _ (by omega) (by omega) (by assumption); refine aPost ?_)
          | (refine aCall 25 ?_; apply aE2; exact k_Flush_s _ _ (by omega) (by omega) (by assumption); refine aPost ?_)
          | (refine aCall 26 ?_; apply aE2; exact k_Fence_s _ (by omega) (by omega) (by assumption); refine aPost ?_)
          | (refine aCallF 27 ?_; apply aE3; exact k_Load_ok _ _ (by omega) (by omega) (by assumption); exact flatA; refine aPost ?_)
          | (refine aCallF 23 ?_; apply aE3; exact k_ref02_Same _ _ (by omega) (by omega); exact flatA; refine aPost ?_)
          | (refine aCallF 20 ?_; apply aE3; exact k_ref03_Same _ _ (by omega) (by omega) (by omega) (by omega); exact flatA; refine aPost ?_)
          | refine aOp ?_
          | refine aOff1 ?_
          | refine aOff2 ?_
          | (refine aSplit ?_ ?_ <;> intro hsp)
          | (refine RegA.done ‹_› ?_; first | refine aKeep [0, 1, 2, 3, 4, 5, 10, 11, 12, 13, 14, 15, 16, 17, 18, 19, 20, 21, 22, 23, 24, 47, 107] ?_ | skip)
          | refine awp_seq fun K hK => ?_
          | refine Awp.reg ?_
          | refine Awp.skip ?_
          | refine Awp.block ?_
          | refine Awp.scope ?_
          | refine aCt ?_
          | refine aCf ?_
          | (refine aCond ?_ ?_ <;> intro hsp)
          | (refine Awp.exit ?_; simp only [blockQ, thenQ, scopeQ, ↓reduceIte, Nat.reduceEqDiff])
          | (refine viaK ‹_› ?_; first | refine aKeep [0, 1, 2, 3, 4, 5, 10, 11, 12, 13, 14, 15, 16, 17, 18, 19, 20, 21, 22, 23, 24, 47, 107] ?_ | skip)
          | simp only [thenQ_normal, blockQ_normal])); all_goals (clear XH))
      all_goals (refine Awp.ret ?_; refine aRet ?_; (simp [-List.getD_eq_getElem?_getD, laxR, laxX, laxC, laxCs, rB, rN, rO, rDev, dtyD, spent_img, spent_dirty, sK, sI, sDev, sO, rK, rI] <;> (intros; omega)))
    · (have XH := (And.intro (And.intro @eq_self.{1} @w1) (And.intro @w2 @w3)); (repeat' (first
          | (refine aCallF 15 ?_; apply aE3; exact k_Great _; exact flatA; refine aPost ?_)
          | (refine aCallF 21 ?_; apply aE3; exact k_ref03_Check _ (by omega) (by omega); exact flatA; refine aPost ?_)
          | (refine aCallF 14 ?_; apply aE3; exact k_alive4; exact flatA; refine aPost ?_)
          | (refine aCall 10 ?_; apply aE2; exact k_Crash_ok _ _ (by omega) (by omega) (by omega) (by assumption); refine aPost ?_)
          | (refine aCall 24 ?_; apply aE2; exact k_Store_s _ _ _ (by omega) (by omega) (by assumption); refine aPost ?_)
          | (refine aCall 25 ?_; apply aE2; exact k_Flush_s _ _ (by omega) (by omega) (by assumption); refine aPost ?_)
          | (refine aCall 26 ?_; apply aE2; exact k_Fence_s _ (by omega) (by omega) (by assumption); refine aPost ?_)
          | (refine aCallF 27 ?_; apply aE3; exact k_Load_ok _ _ (by omega) (by omega) (by assumption); exact flatA; refine aPost ?_)
          | (refine aCallF 23 ?_; apply aE3; exact k_ref02_Same _ _ (by omega) (by omega); exact flatA; refine aPost ?_)
          | (refine aCallF 20 ?_; apply aE3; exact k_ref03_Same _ _ (by omega) (by omega) (by omega) (by omega); exact flatA; refine aPost ?_)
          | refine aOp ?_
          | refine aOff1 ?_
          | refine aOff2 ?_
          | (refine aSplit ?_ ?_ <;> intro hsp)
          | (refine RegA.done ‹_› ?_; first | refine aKeep [0, 1, 2, 3, 4, 5, 10, 11, 12, 13, 14, 15, 16, 17, 18, 19, 20, 21, 22, 23, 24, 47, 107] ?_ | skip)
          | refine awp_seq fun K hK => ?_
          | refine Awp.reg ?_
          | refine Awp.skip ?_
          | refine Awp.block ?_
          | refine Awp.scope ?_
          | refine aCt ?_
          | refine aCf ?_
          | (refine aCond ?_ ?_ <;> intro hsp)
          | (refine Awp.exit ?_; simp only [blockQ, thenQ, scopeQ, ↓reduceIte, Nat.reduceEqDiff])
          | (refine viaK ‹_› ?_; first | refine aKeep [0, 1, 2, 3, 4, 5, 10, 11, 12, 13, 14, 15, 16, 17, 18, 19, 20, 21, 22, 23, 24, 47, 107] ?_ | skip)
          | simp only [thenQ_normal, blockQ_normal])); all_goals (clear XH))
      all_goals (refine Awp.ret ?_; refine aRet ?_; (simp [-List.getD_eq_getElem?_getD, laxR, laxX, laxC, laxCs, rB, rN, rO, rDev, dtyD, spent_img, spent_dirty, sK, sI, sDev, sO, rK, rI] <;> (intros; omega)))
  all_goals (refine Awp.ret ?_; refine aRet ?_; (simp [-List.getD_eq_getElem?_getD, laxR, laxX, laxC, laxCs, rB, rN, rO, rDev, dtyD, spent_img, spent_dirty, sK, sI, sDev, sO, rK, rI] <;> (intros; omega)))
end
end Go.Proofs.Ytijllihnheggbaa
