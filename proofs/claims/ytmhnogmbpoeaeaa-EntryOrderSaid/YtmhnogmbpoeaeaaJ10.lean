/-
  The contracts of the program's functions, data in, data out. Conditions: those in the statements.
-/
import Derived.Test.YtmhnogmbpoeaeaaJ9
namespace Go.Proofs.Ytmhnogmbpoeaeaa
set_option linter.all false
open Go Go.Proofs.Ytmhnogmbpoeaeaa.Eng Go.RowKit
noncomputable section

theorem me_take (l : List Ent) (k : Nat) : (l.map entC).take k = (l.take k).map entC := by rw [List.map_take]
theorem me_drop (l : List Ent) (k : Nat) : (l.map entC).drop k = (l.drop k).map entC := by rw [List.map_drop]
theorem me_app (l o : List Ent) : l.map entC ++ o.map entC = (l ++ o).map entC := by rw [List.map_append]
/-! A change, told without numbers of entries. -/
theorem okTo_iff {l : List Ent} {w : Int} : okTo l w l.length ↔ (∀ e ∈ l, frB e.at_ w = true) ∧ l.Pairwise fun a b => ¬ a.at_ = b.at_ := by
  unfold okTo
  have hg : ∀ {j : Nat} (h : j < l.length), l.getD j default = l[j] := fun {j} h => by simp [List.getD, h]
  rw [List.pairwise_iff_getElem]
  constructor
  · intro h
    refine ⟨fun e he => ?_, fun i j hi hj hij => ?_⟩
    · obtain ⟨j, hj, rfl⟩ := List.getElem_of_mem he
      have := (h j hj).1
      rwa [hg hj] at this
    · have := (h j hj).2 i hij
      rwa [hg hj, hg hi] at this
  · intro h j hj
    refine ⟨by rw [hg hj]; exact h.1 _ (List.getElem_mem _), fun k hk => ?_⟩
    rw [hg hj, hg (by omega : k < l.length)]
    exact h.2 k j (by omega) hj hk
theorem enE_iff {l : List Ent} {w : Int} : enE l w = 0 ↔ sz w = true ∧ l.length ≤ 32 ∧ (∀ e ∈ l, frB e.at_ w = true) ∧ l.Pairwise fun a b => ¬ a.at_ = b.at_ := by
  constructor
  · intro h
    obtain ⟨h1, h2, h3⟩ := enE_is h
    exact ⟨h1, h2, okTo_iff.1 h3⟩
  · intro h
    exact enE_0 h.1 h.2.1 (okTo_iff.2 h.2.2)
theorem enE_sub {l o : List Ent} {w : Int} (h : enE l w = 0) (hs : o.Sublist l) : enE o w = 0 := by
  obtain ⟨h1, h2, h3, h4⟩ := enE_iff.1 h
  exact enE_iff.2 ⟨h1, Nat.le_trans hs.length_le h2, fun e he => h3 e (hs.subset he), h4.sublist hs⟩
theorem enE_perm {l o : List Ent} {w : Int} (h : enE l w = 0) (hp : l.Perm o) : enE o w = 0 := by
  obtain ⟨h1, h2, h3, h4⟩ := enE_iff.1 h
  exact enE_iff.2 ⟨h1, by rw [← hp.length_eq]; exact h2, fun e he => h3 e (hp.symm.subset he), (hp.pairwise_iff (fun {a b} (hab : ¬ a.at_ = b.at_) => fun e => hab e.symm)).1 h4⟩
theorem apT_fold (m : List Int) (l : List Ent) : apT m l = l.foldl (fun m e => m.set e.at_.toNat e.v) m := by
  unfold apT apI
  rw [List.take_length]
theorem pw_mem {l : List Ent} (h : l.Pairwise fun a b => ¬ a.at_ = b.at_) {x y : Ent} (hx : x ∈ l) (hy : y ∈ l) (he : x.at_ = y.at_) : x = y := by
  obtain ⟨i, hi, rfl⟩ := List.getElem_of_mem hx
  obtain ⟨j, hj, rfl⟩ := List.getElem_of_mem hy
  have hp := List.pairwise_iff_getElem.1 h
  rcases Nat.lt_trichotomy i j with h1 | h1 | h1
  · exact absurd he (hp i j hi hj h1)
  · subst h1; rfl
  · exact absurd he.symm (hp j i hj hi h1)
theorem apT_perm (m : List Int) {l o : List Ent} {w : Int} (h : enE l w = 0) (hp : l.Perm o) : apT m o = apT m l := by
  obtain ⟨h1, h2, h3, h4⟩ := enE_iff.1 h
  rw [apT_fold, apT_fold]
  refine (List.Perm.foldl_eq' hp (fun x hx y hy z => ?_) m).symm
  by_cases he : x = y
  · rw [he]
  · refine List.set_comm _ _ fun hc => he (pw_mem h4 hx hy ?_)
    have a := frB_iff.1 (h3 x hx)
    have b := frB_iff.1 (h3 y hy)
    omega
theorem apT_app (m : List Int) (l o : List Ent) : apT (apT m l) o = apT m (l ++ o) := by rw [apT_fold, apT_fold, apT_fold, List.foldl_append]
theorem apE_ok {m : List Int} {l : List Ent} (h0 : chk m.length = 0) (h1 : enE l m.length = 0) : apE m l = 0 ∧ apV m l = apT m l := by
  have e : apE m l = 0 := by rw [apE_y l h0, h1]
  exact ⟨e, apV_0 e⟩
theorem or_all {m : List Int} {l : List Ent} (h0 : chk m.length = 0) (h1 : enE l m.length = 0) (k : Nat) :
    enE (l.drop k ++ l.take k) m.length = 0 ∧ apE m (l.drop k ++ l.take k) = 0 ∧ apV m (l.drop k ++ l.take k) = apT m l ∧ apE m (l.take k) = 0 ∧ apV m (l.take k) = apT m (l.take k) ∧ apE (apT m (l.take k)) (l.drop k) = 0 ∧ apV (apT m (l.take k)) (l.drop k) = apT m l := by
  have hp : l.Perm (l.drop k ++ l.take k) := by
    have := List.perm_append_comm (l₁ := l.take k) (l₂ := l.drop k)
    rwa [List.take_append_drop] at this
  have a1 := enE_perm h1 hp
  have a2 := enE_sub h1 (List.take_sublist k l)
  have a3 := enE_sub h1 (List.drop_sublist k l)
  have b1 := apE_ok h0 a1
  have b2 := apE_ok h0 a2
  have b3 := apE_ok (m := apT m (l.take k)) (l := l.drop k) (by rw [apT_len]; exact h0) (by rw [apT_len]; exact a3)
  refine ⟨a1, b1.1, by rw [b1.2, apT_perm m h1 hp], b2.1, b2.2, b3.1, ?_⟩
  rw [b3.2, apT_app, List.take_append_drop]
namespace X995365c
def XX := (And.intro (And.intro (And.intro @tdiv8 (And.intro @tmod8 @toNatAddI)) (And.intro (And.intro @toNatSubI @takeAll) (And.intro @takeDropAll @getD_entC))) (And.intro (And.intro @List.all_cons.{0} (And.intro @List.all_nil.{0} @List.getElem?_cons_zero.{0})) (And.intro (And.intro @List.getElem?_cons_succ.{0} @Bool.and_self) (And.intro @List.cons_append.{0} @Nat.mul_one))))
def XN := @Nat.zero_add
def XR := (And.intro (And.intro @rBy.eq_1 @rSup.eq_1) (And.intro @supP_len (And.intro @rB2.eq_1 @rEn.eq_1)))
def XH := @Nat.zero_add
def XG := @Nat.zero_add
end X995365c
set_option maxHeartbeats 4000000 in
set_option maxRecDepth 10000 in
open X995365c in
theorem k_OrderA (m : List Int) (l : List Ent) (k : Nat) (hk : k ≤ l.length) (hl2 : l.length ≤ 1000000) (h0 : chk m.length = 0) (h1 : enE l m.length = 0) : Con Try.prog 8 [sN .u64 m, sEn l, vN .i64 (k : Int)] [rB true] := by
  obtain ⟨g1, g2, g3, g4, g5, g6, g7⟩ := or_all h0 h1 k
  have g8 := apE_ok h0 h1
  have hl := chk_le h0
  have f1 := (enE_is h1).2.1
  have p0 := apT_len m l
  have p1 := apT_len m (l.take k)
  have p2 : (l.take k).length ≤ 32 := by rw [List.length_take]; omega
  have p3 : (l.drop k).length ≤ 32 := by rw [List.length_drop]; omega
  have pl : (l.drop k ++ l.take k).length = l.length := by rw [List.length_append, List.length_drop, List.length_take]; omega
  have q : l.length - k + min k l.length = l.length := by omega
  have d1 : decide ((k : Int) < 0) = false := decide_eq_false (by omega)
  have d2 : decide ((l.length : Int) < (k : Int)) = false := decide_eq_false (by omega)
  refine con_of_awp hmix Try.func8 s8 rfl (by rw [n8]; simp) r8 n8 ?_
  simp only [Eng.start, startFr, inX, sN, vN, List.map_cons, List.map_nil, supA, supC, sEn, c8]
  (have XH := (And.intro (And.intro (And.intro (And.intro @Nat.sub_zero @q) (And.intro @pl @h0)) (And.intro (And.intro @h1 @d1) (And.intro @d2 (And.intro @g1 @g2)))) (And.intro (And.intro (And.intro @g3 @g4) (And.intro @g5 (And.intro @g6 @g7))) (And.intro (And.intro @g8.1 @g8.2) (And.intro @p0 (And.intro @p1 @eq_self.{1}))))); have XG := (And.intro (And.intro (And.intro (And.intro @Nat.sub_zero @q) (And.intro @h0 @h1)) (And.intro (And.intro @d1 @d2) (And.intro @me_take (And.intro @me_drop @me_app)))) (And.intro (And.intro (And.intro @g1 @g2) (And.intro @g3 @g4)) (And.intro (And.intro @g5 @g6) (And.intro @g7 (And.intro @g8.1 @g8.2))))); (repeat' (first
    | (refine isR ?_; first | (refine isC ?_; first | (refine isF 27 ?_; first | (refine aCallF 27 ?_; apply aE3; exact k_ref02_Check _; exact flatA; refine aPost ?_)) | (refine isF 21 ?_; first | (refine aCallF 21 ?_; apply aE3; exact k_ref08_Check _ _; exact flatA; refine aPost ?_)) | (refine isF 16 ?_; first | (refine aCallF 16 ?_; apply aE3; exact k_alive8; exact flatA; refine aPost ?_)) | (refine isF 13 ?_; first | (refine aCall 13 ?_; apply aE2; (first | exact k_entry_Apply m l (by omega) (by omega) | exact k_entry_Apply m (l.drop k ++ l.take k) (by rw [pl]; omega) (by omega) | exact k_entry_Apply m (l.take k) (by omega) (by omega) | exact k_entry_Apply (apT m (l.take k)) (l.drop k) (by omega) (by omega)); refine aPost ?_)) | (refine isF 12 ?_; first | (refine aCallF 12 ?_; apply aE3; exact k_entry_Check (l.drop k ++ l.take k) (m.length : Int) (by rw [pl]; omega); exact flatA; refine aPost ?_)) | (refine isF 22 ?_; first | (refine aCallF 22 ?_; apply aE3; exact k_ref02_Same _ _ (by first | omega | (simp; omega)) (by first | omega | (simp; omega)); exact flatA; refine aPost ?_))) | refine aOp ?_ | refine aOp2 ?_ | refine aOff1 ?_ | refine aOff2 ?_ | (refine aSplit ?_ ?_ <;> intro hsp) | (refine RegA.done ‹_› ?_; first | refine aKeep [0, 1, 2, 6, 7, 8, 9, 10, 11, 12, 13, 14, 15, 35] ?_ | skip))
    | (refine isM ?_; first | (refine aMcall (f := 27) ?_; apply aE6; exact k_ref02_Check _; (refine aMr (by simp only [unV', unX, unXs, unC, unL, rN, rB, List.append_nil, List.nil_append, rBy, rSup, supP_len, rB2, rEn]; rfl) rfl rfl rfl); (first | exact .inl rfl | exact .inr flatA); refine aMpost ?_) | (refine aMcall (f := 21) ?_; apply aE6; exact k_ref08_Check _ _; (refine aMr (by simp only [unV', unX, unXs, unC, unL, rN, rB, List.append_nil, List.nil_append, rBy, rSup, supP_len, rB2, rEn]; rfl) rfl rfl rfl); (first | exact .inl rfl | exact .inr flatA); refine aMpost ?_) | (refine aMcall (f := 16) ?_; apply aE6; exact k_alive8; (refine aMr (by simp only [unV', unX, unXs, unC, unL, rN, rB, List.append_nil, List.nil_append, rBy, rSup, supP_len, rB2, rEn]; rfl) rfl rfl rfl); (first | exact .inl rfl | exact .inr flatA); refine aMpost ?_) | (refine aMcall (f := 12) ?_; apply aE6; exact k_entry_Check (l.drop k ++ l.take k) (m.length : Int) (by rw [pl]; omega); (refine aMr (by simp only [unV', unX, unXs, unC, unL, rN, rB, List.append_nil, List.nil_append, rBy, rSup, supP_len, rB2, rEn]; rfl) rfl rfl rfl); (first | exact .inl rfl | exact .inr flatA); refine aMpost ?_) | (refine aMcall (f := 22) ?_; apply aE6; exact k_ref02_Same _ _ (by first | omega | (simp; omega)) (by first | omega | (simp; omega)); (refine aMr (by simp only [unV', unX, unXs, unC, unL, rN, rB, List.append_nil, List.nil_append, rBy, rSup, supP_len, rB2, rEn]; rfl) rfl rfl rfl); (first | exact .inl rfl | exact .inr flatA); refine aMpost ?_) | refine aMop ?_ | refine aMoff1 ?_ | refine aMoff2 ?_ | (refine aMsplit ?_ ?_ <;> intro hsp) | refine aMnil ?_)
    | (refine isA ?_; first | refine awp_seq fun K hK => ?_ | refine Awp.reg ?_ | refine aDrawM 8 [[], [], [], [1, 2], [0, 3], [], [], [5, 6], [4, 7, 4], [8, 8, 0, 1, 2, 3, 4, 5, 6, 7, 8]] [[], [], [], [1, 2], [0, 3, 1, 2], [], [], [5, 6], [4, 7, 0, 3, 1, 2, 5, 6], [8, 0, 1, 2, 3, 4, 5, 6, 7]] ?_ | refine Awp.skip ?_ | refine Awp.block ?_ | refine Awp.scope ?_ | refine aCt ?_ | refine aCf ?_ | (refine aCond ?_ ?_ <;> intro hsp) | (refine Awp.exit ?_; simp only [blockQ, thenQ, scopeQ, ↓reduceIte, Nat.reduceEqDiff]))
    | (refine viaK ‹_› ?_; first | refine aKeep [0, 1, 2, 6, 7, 8, 9, 10, 11, 12, 13, 14, 15, 35] ?_ | skip)
    | simp only [thenQ_normal, blockQ_normal])); all_goals (clear XH; clear XG))
  all_goals (refine Awp.ret ?_; refine aRet ?_; (simp [-List.getD_eq_getElem?_getD, laxR, laxX, laxC, laxCs, rB, rN, rO, rBy, rSup, supP_len, rB2, rEn] <;> (intros; omega)))
set_option maxHeartbeats 4000000 in
set_option maxRecDepth 10000 in
open X995365c in
theorem k_OrderC (m : List Int) (l : List Ent) (a : Int) (h : ¬ (chk m.length = 0 ∧ enE l m.length = 0 ∧ 0 ≤ a ∧ a ≤ l.length)) : Con Try.prog 8 [sN .u64 m, sEn l, vN .i64 a] [rB true] := by
  refine con_of_awp hmix Try.func8 s8 rfl (by rw [n8]; simp) r8 n8 ?_
  simp only [Eng.start, startFr, inX, sN, vN, List.map_cons, List.map_nil, supA, supC, sEn, c8]
  (repeat' (first
    | (refine isR ?_; first | (refine isC ?_; first | (refine isF 27 ?_; first | (refine aCallF 27 ?_; apply aE3; exact k_ref02_Check _; exact flatA; refine aPost ?_)) | (refine isF 21 ?_; first | (refine aCallF 21 ?_; apply aE3; exact k_ref08_Check _ _; exact flatA; refine aPost ?_)) | (refine isF 16 ?_; first | (refine aCallF 16 ?_; apply aE3; exact k_alive8; exact flatA; refine aPost ?_))) | refine aOp ?_ | refine aOp2 ?_ | refine aOff1 ?_ | refine aOff2 ?_ | (refine aSplit ?_ ?_ <;> intro hsp) | (refine RegA.done ‹_› ?_; first | refine aKeep [0, 1, 2, 6, 7, 8, 9, 10, 11, 12, 13, 14, 15, 35] ?_ | skip))
    | (refine isM ?_; first | (refine aMcall (f := 27) ?_; apply aE6; exact k_ref02_Check _; (refine aMr (by simp only [unV', unX, unXs, unC, unL, rN, rB, List.append_nil, List.nil_append, rBy, rSup, supP_len, rB2, rEn]; rfl) rfl rfl rfl); (first | exact .inl rfl | exact .inr flatA); refine aMpost ?_) | (refine aMcall (f := 21) ?_; apply aE6; exact k_ref08_Check _ _; (refine aMr (by simp only [unV', unX, unXs, unC, unL, rN, rB, List.append_nil, List.nil_append, rBy, rSup, supP_len, rB2, rEn]; rfl) rfl rfl rfl); (first | exact .inl rfl | exact .inr flatA); refine aMpost ?_) | (refine aMcall (f := 16) ?_; apply aE6; exact k_alive8; (refine aMr (by simp only [unV', unX, unXs, unC, unL, rN, rB, List.append_nil, List.nil_append, rBy, rSup, supP_len, rB2, rEn]; rfl) rfl rfl rfl); (first | exact .inl rfl | exact .inr flatA); refine aMpost ?_) | refine aMop ?_ | refine aMoff1 ?_ | refine aMoff2 ?_ | (refine aMsplit ?_ ?_ <;> intro hsp) | refine aMnil ?_)
    | (refine isA ?_; first | refine awp_seq fun K hK => ?_ | refine Awp.reg ?_ | refine aDrawM 8 [[], [], [], [1, 2], [0, 3], [], [], [5, 6], [4, 7, 4], [8, 8, 0, 1, 2, 3, 4, 5, 6, 7, 8]] [[], [], [], [1, 2], [0, 3, 1, 2], [], [], [5, 6], [4, 7, 0, 3, 1, 2, 5, 6], [8, 0, 1, 2, 3, 4, 5, 6, 7]] ?_ | refine Awp.skip ?_ | refine Awp.block ?_ | refine Awp.scope ?_ | refine aCt ?_ | refine aCf ?_ | (refine aCond ?_ ?_ <;> intro hsp) | (refine Awp.exit ?_; simp only [blockQ, thenQ, scopeQ, ↓reduceIte, Nat.reduceEqDiff]))
    | (refine viaK ‹_› ?_; first | refine aKeep [0, 1, 2, 6, 7, 8, 9, 10, 11, 12, 13, 14, 15, 35] ?_ | skip)
    | simp only [thenQ_normal, blockQ_normal]))
  all_goals first
  | (exfalso; omega)
  | (focus (
    (refine Awp.ret ?_; refine aRet ?_; (simp [-List.getD_eq_getElem?_getD, laxR, laxX, laxC, laxCs, rB, rN, rO, rBy, rSup, supP_len, rB2, rEn] <;> (intros; omega)))))
theorem k_law08_EntryOrder (m : List Int) (l : List Ent) (a : Int) : Con Try.prog 8 [sN .u64 m, sEn l, vN .i64 a] [rB true] := by
  by_cases hp : chk m.length = 0 ∧ enE l m.length = 0 ∧ 0 ≤ a ∧ a ≤ l.length
  · have h1 := (enE_is hp.2.1).2.1
    have h := k_OrderA m l a.toNat (by omega) (by omega) hp.1 hp.2.1
    rw [show ((a.toNat : Nat) : Int) = a by omega] at h
    exact h
  · exact k_OrderC m l a hp
end
end Go.Proofs.Ytmhnogmbpoeaeaa
