/-
  The contracts of the program's functions, data in, data out. Conditions: those in the statements.
-/
import Derived.Test.YtmhnogmbpoeaeaaJ10
namespace Go.Proofs.Ytmhnogmbpoeaeaa
set_option linter.all false
open Go Go.Proofs.Ytmhnogmbpoeaeaa.Eng Go.RowKit
noncomputable section

theorem ap_len2 (m : List Int) (l : List Ent) : (l.foldl (fun m e => m.set e.at_.toNat e.v) m).length = m.length := by
  rw [← apT_fold]; exact apT_len m l
/-- Where no entry is, nothing changes. -/
theorem ap_out : ∀ (l : List Ent) (m : List Int) {i : Nat}, (∀ e ∈ l, ¬ e.at_.toNat = i) → (apT m l).getD i 0 = m.getD i 0
  | [], m, i, _ => by rw [apT_fold]; rfl
  | e :: l, m, i, h => by
    have ih := ap_out l (m.set e.at_.toNat e.v) (i := i) (fun e' he => h e' (List.mem_cons_of_mem _ he))
    rw [apT_fold] at ih ⊢
    rw [List.foldl_cons, ih]
    have hn := h e (List.mem_cons_self ..)
    simp only [List.getD]
    rw [List.getElem?_set_ne hn]
/-- An entry's value stands at its address. -/
theorem ap_in : ∀ (l : List Ent) (m : List Int), (l.Pairwise fun a b => ¬ a.at_ = b.at_) → (∀ e ∈ l, 16 ≤ e.at_ ∧ e.at_ < m.length) → ∀ e ∈ l, (apT m l).getD e.at_.toNat 0 = e.v
  | [], m, _, _, e, he => absurd he (by simp)
  | a :: l, m, hp, hr, e, he => by
    obtain ⟨h1, h2⟩ := List.pairwise_cons.1 hp
    have e0 : apT m (a :: l) = apT (m.set a.at_.toNat a.v) l := by rw [apT_fold, apT_fold]; rfl
    have ha := hr a (List.mem_cons_self ..)
    rw [e0]
    rcases List.mem_cons.1 he with rfl | h3
    · rw [ap_out l _ (fun e' he' hc => by
        have hb := hr e' (List.mem_cons_of_mem _ he')
        exact h1 e' he' (by omega))]
      simp [List.getD, show e.at_.toNat < m.length by omega]
    · exact ap_in l _ h2 (fun e' he' => by rw [List.length_set]; exact hr e' (List.mem_cons_of_mem _ he')) e h3
theorem en_rng {m : List Int} {l : List Ent} (h1 : enE l m.length = 0) : (l.Pairwise fun a b => ¬ a.at_ = b.at_) ∧ ∀ e ∈ l, 16 ≤ e.at_ ∧ e.at_ < m.length ∧ (e.at_ < 24 ∨ 95 < e.at_) := by
  obtain ⟨_, _, h3, h4⟩ := enE_iff.1 h1
  exact ⟨h4, fun e he => frB_iff.1 (h3 e he)⟩
theorem ap_at {m : List Int} {l : List Ent} (h1 : enE l m.length = 0) {j : Nat} (hj : j < l.length) : (apT m l).getD (l.getD j default).at_.toNat 0 = (l.getD j default).v := by
  obtain ⟨h2, h3⟩ := en_rng h1
  have hg : l.getD j default = l[j] := by simp [List.getD, hj]
  rw [hg]
  exact ap_in l m h2 (fun e he => ⟨(h3 e he).1, (h3 e he).2.1⟩) _ (List.getElem_mem _)
theorem ap_twice {m : List Int} {l : List Ent} (h1 : enE l m.length = 0) : apT (apT m l) l = apT m l := by
  obtain ⟨h2, h3⟩ := en_rng h1
  have hl := apT_len m l
  refine List.ext_getElem (apT_len _ _) fun i a b => ?_
  have g1 : (apT (apT m l) l).getD i 0 = (apT (apT m l) l)[i] := by simp [List.getD, a]
  have g2 : (apT m l).getD i 0 = (apT m l)[i] := by simp [List.getD, b]
  rw [← g1, ← g2]
  by_cases hx : ∃ e ∈ l, e.at_.toNat = i
  · obtain ⟨e, he, rfl⟩ := hx
    rw [ap_in l m h2 (fun e he => ⟨(h3 e he).1, (h3 e he).2.1⟩) e he, ap_in l (apT m l) h2 (fun e he => ⟨(h3 e he).1, by rw [hl]; exact (h3 e he).2.1⟩) e he]
  · exact ap_out l _ fun e he hc => hx ⟨e, he, hc⟩
theorem dif_mem {a b : List Int} {n : Nat} {x : Int} (h : x ∈ difI a b n) : ∃ i : Nat, x = i ∧ i < n ∧ ¬ a.getD i 0 = b.getD i 0 := by
  unfold difI difN at h
  obtain ⟨i, hi, rfl⟩ := List.mem_map.1 h
  obtain ⟨h1, h2⟩ := List.mem_filter.1 hi
  exact ⟨i, rfl, List.mem_range.1 h1, by simpa using h2⟩
theorem dif_ap {m : List Int} {l : List Ent} (h1 : enE l m.length = 0) {x : Int} (h : x ∈ difI m (apT m l) m.length) : ∃ j < l.length, (l.getD j default).at_ = x ∧ 16 ≤ x ∧ (x < 24 ∨ 95 < x) := by
  obtain ⟨h2, h3⟩ := en_rng h1
  obtain ⟨i, rfl, hi, hn⟩ := dif_mem h
  by_cases hx : ∃ e ∈ l, e.at_.toNat = i
  · obtain ⟨e, he, hei⟩ := hx
    obtain ⟨j, hj, rfl⟩ := List.getElem_of_mem he
    have hr := h3 _ he
    have hg : l.getD j default = l[j] := by simp [List.getD, hj]
    exact ⟨j, hj, by rw [hg]; omega, by omega, by omega⟩
  · exact absurd (ap_out l m fun e he hc => hx ⟨e, he, hc⟩).symm hn

@[irreducible] def dfL (m : List Int) (l : List Ent) : List Int := difI m (apT m l) m.length
theorem dfL_le (m : List Int) (l : List Ent) : (dfL m l).length ≤ m.length := by unfold dfL; exact difI_le _ _ _
@[irreducible] def inB (l : List Ent) (x : Int) (k : Nat) : Bool := (l.take k).any fun e => decide (e.at_ = x)
theorem inB_zero (l : List Ent) (x : Int) : inB l x 0 = false := by unfold inB; rfl
theorem inB_succ {l : List Ent} (x : Int) {k : Nat} (h : k < l.length) : inB l x (k + 1) = (inB l x k || decide ((l.getD k default).at_ = x)) := by
  unfold inB
  have e : l.take (k + 1) = l.take k ++ [l.getD k default] := by
    rw [List.take_add_one, List.getElem?_eq_getElem h]
    simp [List.getD, h]
  rw [e, List.any_append]
  simp
theorem inB_all {l : List Ent} {x : Int} {j : Nat} (h : j < l.length) (h2 : (l.getD j default).at_ = x) : inB l x l.length = true := by
  unfold inB
  rw [List.take_length, List.any_eq_true]
  have hg : l.getD j default = l[j] := by simp [List.getD, h]
  exact ⟨l[j], List.getElem_mem _, decide_eq_true (by rw [← hg]; exact h2)⟩
theorem in_tri {l : List Ent} {x : Int} (ha : inB l x l.length = true) {k : Nat} (hk : k ≤ l.length) :
    (k < l.length ∧ decide ((k : Int) < (l.length : Int)) = true ∧ inB l x k = true ∧ inB l x (k + 1) = true) ∨ (k < l.length ∧ decide ((k : Int) < (l.length : Int)) = true ∧ inB l x k = false ∧ inB l x (k + 1) = decide ((l.getD k default).at_ = x)) ∨ (k = l.length ∧ decide ((k : Int) < (l.length : Int)) = false ∧ inB l x k = true ∧ True) := by
  rcases Nat.lt_or_ge k l.length with h | h
  · have e := inB_succ x h
    cases hb : inB l x k with
    | true => exact .inl ⟨h, decide_eq_true (by omega), rfl, by rw [e, hb]; rfl⟩
    | false => exact .inr (.inl ⟨h, decide_eq_true (by omega), rfl, by rw [e, hb]; rfl⟩)
  · exact .inr (.inr ⟨by omega, decide_eq_false (by omega), by rw [show k = l.length by omega]; exact ha, trivial⟩)
theorem tw_tri {m : List Int} {l : List Ent} (h1 : enE l m.length = 0) {i : Nat} (hi : i ≤ l.length) :
    (i < l.length ∧ decide ((i : Int) < (l.length : Int)) = true ∧ (16 ≤ (l.getD i default).at_ ∧ (l.getD i default).at_ < m.length) ∧ decide ((apT m l).getD (l.getD i default).at_.toNat 0 = (l.getD i default).v) = true) ∨ (i = l.length ∧ decide ((i : Int) < (l.length : Int)) = false ∧ (True ∧ True) ∧ True) := by
  rcases Nat.lt_or_ge i l.length with h | h
  · have ha := ent_at h1 h
    exact .inl ⟨h, decide_eq_true (by omega), ⟨ha.1, ha.2.1⟩, decide_eq_true (ap_at h1 h)⟩
  · exact .inr ⟨by omega, decide_eq_false (by omega), ⟨trivial, trivial⟩, trivial⟩
theorem df_tri {m : List Int} {l : List Ent} (h1 : enE l m.length = 0) {i : Nat} (hi : i ≤ (dfL m l).length) :
    (i < (dfL m l).length ∧ decide ((i : Int) < ((dfL m l).length : Int)) = true ∧ inB l ((dfL m l).getD i 0) l.length = true ∧ decide ((dfL m l).getD i 0 < 16) = false ∧ decide (23 < (dfL m l).getD i 0) = false) ∨ (i < (dfL m l).length ∧ decide ((i : Int) < ((dfL m l).length : Int)) = true ∧ inB l ((dfL m l).getD i 0) l.length = true ∧ decide ((dfL m l).getD i 0 < 16) = false ∧ decide (23 < (dfL m l).getD i 0) = true ∧ decide ((dfL m l).getD i 0 < 96) = false) ∨ (i = (dfL m l).length ∧ decide ((i : Int) < ((dfL m l).length : Int)) = false) := by
  rcases Nat.lt_or_ge i (dfL m l).length with h | h
  · have hg : (dfL m l).getD i 0 = (dfL m l)[i] := by simp [List.getD, h]
    have hm : (dfL m l).getD i 0 ∈ difI m (apT m l) m.length := by
      rw [hg]
      have := List.getElem_mem h
      unfold dfL at this ⊢
      exact this
    obtain ⟨j, hj, e, h3, h4⟩ := dif_ap h1 hm
    have hb := inB_all hj e
    rcases Decidable.em (23 < (dfL m l).getD i 0) with h5 | h5
    · exact .inr (.inl ⟨h, decide_eq_true (by omega), hb, decide_eq_false (by omega), decide_eq_true h5, decide_eq_false (by omega)⟩)
    · exact .inl ⟨h, decide_eq_true (by omega), hb, decide_eq_false (by omega), decide_eq_false h5⟩
  · exact .inr (.inr ⟨by omega, decide_eq_false (by omega)⟩)
namespace Xe6618ec
def XX := (And.intro (And.intro (And.intro @tdiv8 (And.intro @tmod8 @toNatAddI)) (And.intro (And.intro @toNatSubI @takeAll) (And.intro @takeDropAll @getD_entC))) (And.intro (And.intro @List.all_cons.{0} (And.intro @List.all_nil.{0} @List.getElem?_cons_zero.{0})) (And.intro (And.intro @List.getElem?_cons_succ.{0} @Bool.and_self) (And.intro @List.cons_append.{0} @Nat.mul_one))))
def XN := @Nat.zero_add
def XR := (And.intro (And.intro @rBy.eq_1 (And.intro @rSup.eq_1 @supP_len)) (And.intro @rB2.eq_1 (And.intro @rEn.eq_1 @rI64.eq_1)))
def XH := @Nat.zero_add
def XG := @Nat.zero_add
end Xe6618ec
set_option maxHeartbeats 4000000 in
set_option maxRecDepth 10000 in
open Xe6618ec in
theorem k_TwiceA (m : List Int) (l : List Ent) (hl2 : l.length ≤ 1000000) (h0 : chk m.length = 0) (h1 : enE l m.length = 0) : Con Try.prog 7 [sN .u64 m, sEn l] [rB true] := by
  have g1 := apE_ok h0 h1
  have p0 := apT_len m l
  have g2 := apE_ok (m := apT m l) (l := l) (by rw [p0]; exact h0) (by rw [p0]; exact h1)
  have g3 := ap_twice h1
  have g4 := difE_d (a := m) (b := apT m l) h0 (by rw [p0]; exact h0) p0.symm
  have g5 : difL m (apT m l) = dfL m l := by rw [g4.2]; unfold dfL; rfl
  have hl := chk_le h0
  have f1 := (enE_is h1).2.1
  have g6 := dfL_le m l
  refine con_of_awp hmix Try.func7 s7 rfl (by rw [n7]; simp) r7 n7 ?_
  simp only [Eng.start, startFr, inX, sN, vN, List.map_cons, List.map_nil, supA, supC, sEn, c7]
  (have XH := (And.intro (And.intro (And.intro @h0 @h1) (And.intro @p0 (And.intro @g1.1 @g1.2))) (And.intro (And.intro @g2.1 (And.intro @g2.2 @g3)) (And.intro @g4.1 (And.intro @g5 @eq_self.{1})))); have XG := (And.intro (And.intro (And.intro @h0 @h1) (And.intro @g1.1 @g1.2)) (And.intro (And.intro @g2.1 @g2.2) (And.intro @g3 (And.intro @g4.1 @g5)))); (repeat' (first
    | (refine isR ?_; first | (refine isC ?_; first | (refine isF 27 ?_; first | (refine aCallF 27 ?_; apply aE3; exact k_ref02_Check _; exact flatA; refine aPost ?_)) | (refine isF 21 ?_; first | (refine aCallF 21 ?_; apply aE3; exact k_ref08_Check _ _; exact flatA; refine aPost ?_)) | (refine isF 16 ?_; first | (refine aCallF 16 ?_; apply aE3; exact k_alive8; exact flatA; refine aPost ?_)) | (refine isF 13 ?_; first | (refine aCall 13 ?_; apply aE2; (first | exact k_entry_Apply m l (by omega) (by omega) | exact k_entry_Apply (apT m l) l (by omega) (by omega)); refine aPost ?_)) | (refine isF 29 ?_; first | (refine aCall 29 ?_; apply aE2; exact k_image_Diff m (apT m l) (by omega) (by omega); refine aPost ?_)) | (refine isF 22 ?_; first | (refine aCallF 22 ?_; apply aE3; exact k_ref02_Same _ _ (by first | omega | (simp; omega)) (by first | omega | (simp; omega)); exact flatA; refine aPost ?_))) | refine aOp ?_ | refine aOp2 ?_ | refine aOff1 ?_ | refine aOff2 ?_ | (refine aSplit ?_ ?_ <;> intro hsp) | (refine RegA.done ‹_› ?_; first | refine aKeep [0, 1, 4, 5, 6, 7, 8, 9, 10, 11, 12, 13, 14, 24, 40, 64, 68, 84, 88, 94, 132] ?_ | skip))
    | (refine isM ?_; first | (refine aMcall (f := 27) ?_; apply aE6; exact k_ref02_Check _; (refine aMr (by simp only [unV', unX, unXs, unC, unL, rN, rB, List.append_nil, List.nil_append, rBy, rSup, supP_len, rB2, rEn, rI64]; rfl) rfl rfl rfl); (first | exact .inl rfl | exact .inr flatA); refine aMpost ?_) | (refine aMcall (f := 21) ?_; apply aE6; exact k_ref08_Check _ _; (refine aMr (by simp only [unV', unX, unXs, unC, unL, rN, rB, List.append_nil, List.nil_append, rBy, rSup, supP_len, rB2, rEn, rI64]; rfl) rfl rfl rfl); (first | exact .inl rfl | exact .inr flatA); refine aMpost ?_) | (refine aMcall (f := 16) ?_; apply aE6; exact k_alive8; (refine aMr (by simp only [unV', unX, unXs, unC, unL, rN, rB, List.append_nil, List.nil_append, rBy, rSup, supP_len, rB2, rEn, rI64]; rfl) rfl rfl rfl); (first | exact .inl rfl | exact .inr flatA); refine aMpost ?_) | (refine aMcall (f := 22) ?_; apply aE6; exact k_ref02_Same _ _ (by first | omega | (simp; omega)) (by first | omega | (simp; omega)); (refine aMr (by simp only [unV', unX, unXs, unC, unL, rN, rB, List.append_nil, List.nil_append, rBy, rSup, supP_len, rB2, rEn, rI64]; rfl) rfl rfl rfl); (first | exact .inl rfl | exact .inr flatA); refine aMpost ?_) | refine aMop ?_ | refine aMoff1 ?_ | refine aMoff2 ?_ | (refine aMsplit ?_ ?_ <;> intro hsp) | refine aMnil ?_)
    | (refine isA ?_; first | refine awp_seq fun K hK => ?_ | refine Awp.reg ?_ | refine aDrawM 13 [[], [], [], [1, 2], [3], [4], [0, 5], [6], [], [], [8, 9], [10], [11], [7, 12]] [[], [], [], [1, 2], [3, 1, 2], [4, 3, 1, 2], [0, 5, 4, 3, 1, 2], [6, 0, 5, 4, 3, 1, 2], [], [], [8, 9], [10, 8, 9], [11, 10, 8, 9], [7, 12, 6, 0, 5, 4, 3, 1, 2, 11, 10, 8, 9]] ?_ | refine aDrawM 11 [[], [0], [1], [1], [2, 3, 1], [4, 1], [5, 1], [1], [1], [7, 8, 1], [9, 1], [6, 10, 1], [1, 11], [12, 1, 0, 1, 2, 3, 4, 5, 6, 7, 8, 9, 10, 11, 12]] [[], [0], [1, 0], [1, 0], [2, 3, 1, 0], [4, 1, 2, 3, 0], [5, 1, 4, 2, 3, 0], [1, 0], [1, 0], [7, 8, 1, 0], [9, 1, 7, 8, 0], [6, 10, 1, 5, 4, 2, 3, 0, 9, 7, 8], [1, 11, 0, 6, 10, 5, 4, 2, 3, 9, 7, 8], [12, 1, 0, 2, 3, 4, 5, 6, 7, 8, 9, 10, 11]] ?_ | refine Awp.skip ?_ | refine Awp.block ?_ | refine Awp.scope ?_ | refine aCt ?_ | refine aCf ?_ | (refine aCond ?_ ?_ <;> intro hsp) | (refine Awp.exit ?_; simp only [blockQ, thenQ, scopeQ, ↓reduceIte, Nat.reduceEqDiff]))
    | (refine viaK ‹_› ?_; first | refine aKeep [0, 1, 4, 5, 6, 7, 8, 9, 10, 11, 12, 13, 14, 24, 40, 64, 68, 84, 88, 94, 132] ?_ | skip)
    | simp only [thenQ_normal, blockQ_normal])); all_goals (clear XH; clear XG))
  refine Awp.loopK (α := {i : Nat // i ≤ l.length}) (fun x => [(4, vv (.bool false)), (11, vv (.int .i64 (x.1 : Int)))]) (fun x => []) [1, 5, 9] [0, 2] (fun x => l.length - x.1) ⟨0, by omega⟩ [] (by simp only [List.filterMap_cons, List.filterMap_nil, lk_nil, lk_cons, ↓reduceIte, Nat.reduceEqDiff, Option.map_some, Option.map_none]; rfl) (by simp only [List.filterMap_cons, List.filterMap_nil, lk_nil, lk_cons, ↓reduceIte, Nat.reduceEqDiff, Option.map_some, Option.map_none]; rfl) rfl rfl ?_ ?_
  · simp only [Wk, frIn, hpIn, lk_nil, lk_cons, renV, renX, renC, belV, belX, belC, belL, belB, List.cons_append, List.nil_append, ↓reduceIte, Nat.reduceEqDiff, and_self, and_true, true_and] <;> simp [-List.getD_eq_getElem?_getD, vv, one, renV, renX, renC, belV, belX, belC, belL, belB, rho, renO, belO, lk_nil, lk_cons]
  · rintro ⟨i, hi⟩
    simp only [vv, one, List.cons_append, List.nil_append]
    rcases tw_tri h1 hi with ⟨hi1, e0, e1, e2⟩ | ⟨hi1, e0, e1, e2⟩ <;>
    (have XH := (And.intro @e0 (And.intro @e2 @p0)); have XG := @e0; (repeat' (first
      | (refine isR ?_; first | refine aOp ?_ | refine aOp2 ?_ | refine aOff1 ?_ | refine aOff2 ?_ | (refine aSplit ?_ ?_ <;> intro hsp) | (refine RegA.done ‹_› ?_; first | refine aKeep [0, 1, 4, 5, 6, 7, 8, 9, 10, 11, 12, 13, 14, 24, 40, 64, 68, 84, 88, 94, 132] ?_ | skip))
      | (refine isM ?_; first | refine aMop ?_ | refine aMoff1 ?_ | refine aMoff2 ?_ | (refine aMsplit ?_ ?_ <;> intro hsp) | refine aMnil ?_)
      | (refine isA ?_; first | refine awp_seq fun K hK => ?_ | refine Awp.reg ?_ | refine aDrawM 13 [[], [], [], [1, 2], [3], [4], [0, 5], [6], [], [], [8, 9], [10], [11], [7, 12]] [[], [], [], [1, 2], [3, 1, 2], [4, 3, 1, 2], [0, 5, 4, 3, 1, 2], [6, 0, 5, 4, 3, 1, 2], [], [], [8, 9], [10, 8, 9], [11, 10, 8, 9], [7, 12, 6, 0, 5, 4, 3, 1, 2, 11, 10, 8, 9]] ?_ | refine aDrawM 11 [[], [0], [1], [1], [2, 3, 1], [4, 1], [5, 1], [1], [1], [7, 8, 1], [9, 1], [6, 10, 1], [1, 11], [12, 1, 0, 1, 2, 3, 4, 5, 6, 7, 8, 9, 10, 11, 12]] [[], [0], [1, 0], [1, 0], [2, 3, 1, 0], [4, 1, 2, 3, 0], [5, 1, 4, 2, 3, 0], [1, 0], [1, 0], [7, 8, 1, 0], [9, 1, 7, 8, 0], [6, 10, 1, 5, 4, 2, 3, 0, 9, 7, 8], [1, 11, 0, 6, 10, 5, 4, 2, 3, 9, 7, 8], [12, 1, 0, 2, 3, 4, 5, 6, 7, 8, 9, 10, 11]] ?_ | refine Awp.skip ?_ | refine Awp.block ?_ | refine Awp.scope ?_ | refine aCt ?_ | refine aCf ?_ | (refine aCond ?_ ?_ <;> intro hsp) | (refine Awp.exit ?_; simp only [blockQ, thenQ, scopeQ, ↓reduceIte, Nat.reduceEqDiff]))
      | (refine viaK ‹_› ?_; first | refine aKeep [0, 1, 4, 5, 6, 7, 8, 9, 10, 11, 12, 13, 14, 24, 40, 64, 68, 84, 88, 94, 132] ?_ | skip)
      | simp only [thenQ_normal, blockQ_normal])); all_goals (clear XH; clear XG))
    · refine RegA.nil ⟨⟨i + 1, by omega⟩, [], ?_, ?_⟩
      · simp only [Wk, frIn, hpIn, lk_nil, lk_cons, renV, renX, renC, belV, belX, belC, belL, belB, List.cons_append, List.nil_append, ↓reduceIte, Nat.reduceEqDiff, and_self, and_true, true_and] <;> simp [-List.getD_eq_getElem?_getD, vv, one, renV, renX, renC, belV, belX, belC, belL, belB, rho, renO, belO, lk_nil, lk_cons]
      · (simp only []; omega)
    · clear hi1
      refine Awp.loopK (α := {i : Nat // i ≤ (dfL m l).length}) (fun x => [(4, vv (.bool false)), (12, vv (.int .i64 (x.1 : Int)))]) (fun x => []) [1, 9] [2] (fun x => (dfL m l).length - x.1) ⟨0, by omega⟩ [] (by simp only [List.filterMap_cons, List.filterMap_nil, lk_nil, lk_cons, ↓reduceIte, Nat.reduceEqDiff, Option.map_some, Option.map_none]; rfl) (by simp only [List.filterMap_cons, List.filterMap_nil, lk_nil, lk_cons, ↓reduceIte, Nat.reduceEqDiff, Option.map_some, Option.map_none]; rfl) rfl rfl ?_ ?_
      · simp only [Wk, frIn, hpIn, lk_nil, lk_cons, renV, renX, renC, belV, belX, belC, belL, belB, List.cons_append, List.nil_append, ↓reduceIte, Nat.reduceEqDiff, and_self, and_true, true_and] <;> simp [-List.getD_eq_getElem?_getD, vv, one, renV, renX, renC, belV, belX, belC, belL, belB, rho, renO, belO, lk_nil, lk_cons]
      · rintro ⟨i, hi⟩
        simp only [vv, one, List.cons_append, List.nil_append]
        rcases df_tri h1 hi with ⟨hi1, e0, e2, e3, e4⟩ | ⟨hi1, e0, e2, e3, e4, e5⟩ | ⟨hi1, e0⟩ <;>
        (have XH := @e0; have XG := @e0; (repeat' (first
          | (refine isR ?_; first | (refine isC ?_; first | (refine isF 16 ?_; first | (refine aCallF 16 ?_; apply aE3; exact k_alive8; exact flatA; refine aPost ?_))) | refine aOp ?_ | refine aOp2 ?_ | refine aOff1 ?_ | refine aOff2 ?_ | (refine aSplit ?_ ?_ <;> intro hsp) | (refine RegA.done ‹_› ?_; first | refine aKeep [0, 1, 4, 5, 6, 7, 8, 9, 10, 11, 12, 13, 14, 24, 40, 64, 68, 84, 88, 94, 132] ?_ | skip))
          | (refine isM ?_; first | (refine aMcall (f := 16) ?_; apply aE6; exact k_alive8; (refine aMr (by simp only [unV', unX, unXs, unC, unL, rN, rB, List.append_nil, List.nil_append, rBy, rSup, supP_len, rB2, rEn, rI64]; rfl) rfl rfl rfl); (first | exact .inl rfl | exact .inr flatA); refine aMpost ?_) | refine aMop ?_ | refine aMoff1 ?_ | refine aMoff2 ?_ | (refine aMsplit ?_ ?_ <;> intro hsp) | refine aMnil ?_)
          | (refine isA ?_; first | refine awp_seq fun K hK => ?_ | refine Awp.reg ?_ | refine aDrawM 13 [[], [], [], [1, 2], [3], [4], [0, 5], [6], [], [], [8, 9], [10], [11], [7, 12]] [[], [], [], [1, 2], [3, 1, 2], [4, 3, 1, 2], [0, 5, 4, 3, 1, 2], [6, 0, 5, 4, 3, 1, 2], [], [], [8, 9], [10, 8, 9], [11, 10, 8, 9], [7, 12, 6, 0, 5, 4, 3, 1, 2, 11, 10, 8, 9]] ?_ | refine aDrawM 11 [[], [0], [1], [1], [2, 3, 1], [4, 1], [5, 1], [1], [1], [7, 8, 1], [9, 1], [6, 10, 1], [1, 11], [12, 1, 0, 1, 2, 3, 4, 5, 6, 7, 8, 9, 10, 11, 12]] [[], [0], [1, 0], [1, 0], [2, 3, 1, 0], [4, 1, 2, 3, 0], [5, 1, 4, 2, 3, 0], [1, 0], [1, 0], [7, 8, 1, 0], [9, 1, 7, 8, 0], [6, 10, 1, 5, 4, 2, 3, 0, 9, 7, 8], [1, 11, 0, 6, 10, 5, 4, 2, 3, 9, 7, 8], [12, 1, 0, 2, 3, 4, 5, 6, 7, 8, 9, 10, 11]] ?_ | refine Awp.skip ?_ | refine Awp.block ?_ | refine Awp.scope ?_ | refine aCt ?_ | refine aCf ?_ | (refine aCond ?_ ?_ <;> intro hsp) | (refine Awp.exit ?_; simp only [blockQ, thenQ, scopeQ, ↓reduceIte, Nat.reduceEqDiff]))
          | (refine viaK ‹_› ?_; first | refine aKeep [0, 1, 4, 5, 6, 7, 8, 9, 10, 11, 12, 13, 14, 24, 40, 64, 68, 84, 88, 94, 132] ?_ | skip)
          | simp only [thenQ_normal, blockQ_normal])); all_goals (clear XH; clear XG))
        · refine Awp.loopK (α := {k : Nat // k ≤ l.length}) (fun x => [(13, vv (.bool (inB l ((dfL m l).getD i 0) x.1))), (14, vv (.int .i64 (x.1 : Int)))]) (fun x => []) [1, 4, 9, 12] [2] (fun x => l.length - x.1) ⟨0, by omega⟩ [] (by simp only [List.filterMap_cons, List.filterMap_nil, lk_nil, lk_cons, ↓reduceIte, Nat.reduceEqDiff, Option.map_some, Option.map_none]; rfl) (by simp only [List.filterMap_cons, List.filterMap_nil, lk_nil, lk_cons, ↓reduceIte, Nat.reduceEqDiff, Option.map_some, Option.map_none]; rfl) rfl rfl ?_ ?_
          · simp only [Wk, frIn, hpIn, lk_nil, lk_cons, renV, renX, renC, belV, belX, belC, belL, belB, List.cons_append, List.nil_append, ↓reduceIte, Nat.reduceEqDiff, and_self, and_true, true_and] <;> simp [-List.getD_eq_getElem?_getD, vv, one, renV, renX, renC, belV, belX, belC, belL, belB, rho, renO, belO, lk_nil, lk_cons, inB_zero]
          · rintro ⟨k, hk⟩
            simp only [vv, one, List.cons_append, List.nil_append]
            rcases in_tri e2 hk with ⟨hk1, b0, b1, b2⟩ | ⟨hk1, b0, b1, b2⟩ | ⟨hk1, b0, b1, b2⟩ <;>
            (have XH := (And.intro (And.intro @b0 @b1) (And.intro @e3 @e4)); have XG := @b0; (repeat' (first
              | (refine isR ?_; first | refine aOp ?_ | refine aOp2 ?_ | refine aOff1 ?_ | refine aOff2 ?_ | (refine aSplit ?_ ?_ <;> intro hsp) | (refine RegA.done ‹_› ?_; first | refine aKeep [0, 1, 4, 5, 6, 7, 8, 9, 10, 11, 12, 13, 14, 24, 40, 64, 68, 84, 88, 94, 132] ?_ | skip))
              | (refine isM ?_; first | refine aMop ?_ | refine aMoff1 ?_ | refine aMoff2 ?_ | (refine aMsplit ?_ ?_ <;> intro hsp) | refine aMnil ?_)
              | (refine isA ?_; first | refine awp_seq fun K hK => ?_ | refine Awp.reg ?_ | refine aDrawM 13 [[], [], [], [1, 2], [3], [4], [0, 5], [6], [], [], [8, 9], [10], [11], [7, 12]] [[], [], [], [1, 2], [3, 1, 2], [4, 3, 1, 2], [0, 5, 4, 3, 1, 2], [6, 0, 5, 4, 3, 1, 2], [], [], [8, 9], [10, 8, 9], [11, 10, 8, 9], [7, 12, 6, 0, 5, 4, 3, 1, 2, 11, 10, 8, 9]] ?_ | refine aDrawM 11 [[], [0], [1], [1], [2, 3, 1], [4, 1], [5, 1], [1], [1], [7, 8, 1], [9, 1], [6, 10, 1], [1, 11], [12, 1, 0, 1, 2, 3, 4, 5, 6, 7, 8, 9, 10, 11, 12]] [[], [0], [1, 0], [1, 0], [2, 3, 1, 0], [4, 1, 2, 3, 0], [5, 1, 4, 2, 3, 0], [1, 0], [1, 0], [7, 8, 1, 0], [9, 1, 7, 8, 0], [6, 10, 1, 5, 4, 2, 3, 0, 9, 7, 8], [1, 11, 0, 6, 10, 5, 4, 2, 3, 9, 7, 8], [12, 1, 0, 2, 3, 4, 5, 6, 7, 8, 9, 10, 11]] ?_ | refine Awp.skip ?_ | refine Awp.block ?_ | refine Awp.scope ?_ | refine aCt ?_ | refine aCf ?_ | (refine aCond ?_ ?_ <;> intro hsp) | (refine Awp.exit ?_; simp only [blockQ, thenQ, scopeQ, ↓reduceIte, Nat.reduceEqDiff]))
              | (refine viaK ‹_› ?_; first | refine aKeep [0, 1, 4, 5, 6, 7, 8, 9, 10, 11, 12, 13, 14, 24, 40, 64, 68, 84, 88, 94, 132] ?_ | skip)
              | simp only [thenQ_normal, blockQ_normal])); all_goals (clear XH; clear XG))
            · refine RegA.nil ⟨⟨k + 1, by omega⟩, [], ?_, ?_⟩
              · simp only [Wk, frIn, hpIn, lk_nil, lk_cons, renV, renX, renC, belV, belX, belC, belL, belB, List.cons_append, List.nil_append, ↓reduceIte, Nat.reduceEqDiff, and_self, and_true, true_and] <;> simp [-List.getD_eq_getElem?_getD, vv, one, renV, renX, renC, belV, belX, belC, belL, belB, rho, renO, belO, lk_nil, lk_cons, b2]
              · (simp only []; omega)
            · refine RegA.nil ⟨⟨k + 1, by omega⟩, [], ?_, ?_⟩
              · simp only [Wk, frIn, hpIn, lk_nil, lk_cons, renV, renX, renC, belV, belX, belC, belL, belB, List.cons_append, List.nil_append, ↓reduceIte, Nat.reduceEqDiff, and_self, and_true, true_and] <;> simp [-List.getD_eq_getElem?_getD, vv, one, renV, renX, renC, belV, belX, belC, belL, belB, rho, renO, belO, lk_nil, lk_cons, b2]
              · (simp only []; omega)
            · refine RegA.nil ⟨⟨i + 1, by omega⟩, [], ?_, ?_⟩
              · simp only [Wk, frIn, hpIn, lk_nil, lk_cons, renV, renX, renC, belV, belX, belC, belL, belB, List.cons_append, List.nil_append, ↓reduceIte, Nat.reduceEqDiff, and_self, and_true, true_and] <;> simp [-List.getD_eq_getElem?_getD, vv, one, renV, renX, renC, belV, belX, belC, belL, belB, rho, renO, belO, lk_nil, lk_cons]
              · (simp only []; omega)
        · refine Awp.loopK (α := {k : Nat // k ≤ l.length}) (fun x => [(13, vv (.bool (inB l ((dfL m l).getD i 0) x.1))), (14, vv (.int .i64 (x.1 : Int)))]) (fun x => []) [1, 4, 9, 12] [2] (fun x => l.length - x.1) ⟨0, by omega⟩ [] (by simp only [List.filterMap_cons, List.filterMap_nil, lk_nil, lk_cons, ↓reduceIte, Nat.reduceEqDiff, Option.map_some, Option.map_none]; rfl) (by simp only [List.filterMap_cons, List.filterMap_nil, lk_nil, lk_cons, ↓reduceIte, Nat.reduceEqDiff, Option.map_some, Option.map_none]; rfl) rfl rfl ?_ ?_
          · simp only [Wk, frIn, hpIn, lk_nil, lk_cons, renV, renX, renC, belV, belX, belC, belL, belB, List.cons_append, List.nil_append, ↓reduceIte, Nat.reduceEqDiff, and_self, and_true, true_and] <;> simp [-List.getD_eq_getElem?_getD, vv, one, renV, renX, renC, belV, belX, belC, belL, belB, rho, renO, belO, lk_nil, lk_cons, inB_zero]
          · rintro ⟨k, hk⟩
            simp only [vv, one, List.cons_append, List.nil_append]
            rcases in_tri e2 hk with ⟨hk1, b0, b1, b2⟩ | ⟨hk1, b0, b1, b2⟩ | ⟨hk1, b0, b1, b2⟩ <;>
            (have XH := (And.intro (And.intro @b0 @b1) (And.intro @e3 (And.intro @e4 @e5))); have XG := @b0; (repeat' (first
              | (refine isR ?_; first | refine aOp ?_ | refine aOp2 ?_ | refine aOff1 ?_ | refine aOff2 ?_ | (refine aSplit ?_ ?_ <;> intro hsp) | (refine RegA.done ‹_› ?_; first | refine aKeep [0, 1, 4, 5, 6, 7, 8, 9, 10, 11, 12, 13, 14, 24, 40, 64, 68, 84, 88, 94, 132] ?_ | skip))
              | (refine isM ?_; first | refine aMop ?_ | refine aMoff1 ?_ | refine aMoff2 ?_ | (refine aMsplit ?_ ?_ <;> intro hsp) | refine aMnil ?_)
              | (refine isA ?_; first | refine awp_seq fun K hK => ?_ | refine Awp.reg ?_ | refine aDrawM 13 [[], [], [], [1, 2], [3], [4], [0, 5], [6], [], [], [8, 9], [10], [11], [7, 12]] [[], [], [], [1, 2], [3, 1, 2], [4, 3, 1, 2], [0, 5, 4, 3, 1, 2], [6, 0, 5, 4, 3, 1, 2], [], [], [8, 9], [10, 8, 9], [11, 10, 8, 9], [7, 12, 6, 0, 5, 4, 3, 1, 2, 11, 10, 8, 9]] ?_ | refine aDrawM 11 [[], [0], [1], [1], [2, 3, 1], [4, 1], [5, 1], [1], [1], [7, 8, 1], [9, 1], [6, 10, 1], [1, 11], [12, 1, 0, 1, 2, 3, 4, 5, 6, 7, 8, 9, 10, 11, 12]] [[], [0], [1, 0], [1, 0], [2, 3, 1, 0], [4, 1, 2, 3, 0], [5, 1, 4, 2, 3, 0], [1, 0], [1, 0], [7, 8, 1, 0], [9, 1, 7, 8, 0], [6, 10, 1, 5, 4, 2, 3, 0, 9, 7, 8], [1, 11, 0, 6, 10, 5, 4, 2, 3, 9, 7, 8], [12, 1, 0, 2, 3, 4, 5, 6, 7, 8, 9, 10, 11]] ?_ | refine Awp.skip ?_ | refine Awp.block ?_ | refine Awp.scope ?_ | refine aCt ?_ | refine aCf ?_ | (refine aCond ?_ ?_ <;> intro hsp) | (refine Awp.exit ?_; simp only [blockQ, thenQ, scopeQ, ↓reduceIte, Nat.reduceEqDiff]))
              | (refine viaK ‹_› ?_; first | refine aKeep [0, 1, 4, 5, 6, 7, 8, 9, 10, 11, 12, 13, 14, 24, 40, 64, 68, 84, 88, 94, 132] ?_ | skip)
              | simp only [thenQ_normal, blockQ_normal])); all_goals (clear XH; clear XG))
            · refine RegA.nil ⟨⟨k + 1, by omega⟩, [], ?_, ?_⟩
              · simp only [Wk, frIn, hpIn, lk_nil, lk_cons, renV, renX, renC, belV, belX, belC, belL, belB, List.cons_append, List.nil_append, ↓reduceIte, Nat.reduceEqDiff, and_self, and_true, true_and] <;> simp [-List.getD_eq_getElem?_getD, vv, one, renV, renX, renC, belV, belX, belC, belL, belB, rho, renO, belO, lk_nil, lk_cons, b2]
              · (simp only []; omega)
            · refine RegA.nil ⟨⟨k + 1, by omega⟩, [], ?_, ?_⟩
              · simp only [Wk, frIn, hpIn, lk_nil, lk_cons, renV, renX, renC, belV, belX, belC, belL, belB, List.cons_append, List.nil_append, ↓reduceIte, Nat.reduceEqDiff, and_self, and_true, true_and] <;> simp [-List.getD_eq_getElem?_getD, vv, one, renV, renX, renC, belV, belX, belC, belL, belB, rho, renO, belO, lk_nil, lk_cons, b2]
              · (simp only []; omega)
            · refine RegA.nil ⟨⟨i + 1, by omega⟩, [], ?_, ?_⟩
              · simp only [Wk, frIn, hpIn, lk_nil, lk_cons, renV, renX, renC, belV, belX, belC, belL, belB, List.cons_append, List.nil_append, ↓reduceIte, Nat.reduceEqDiff, and_self, and_true, true_and] <;> simp [-List.getD_eq_getElem?_getD, vv, one, renV, renX, renC, belV, belX, belC, belL, belB, rho, renO, belO, lk_nil, lk_cons]
              · (simp only []; omega)
        · (refine Awp.ret ?_; refine aRet ?_; (simp [-List.getD_eq_getElem?_getD, laxR, laxX, laxC, laxCs, rB, rN, rO, rBy, rSup, supP_len, rB2, rEn, rI64] <;> (intros; omega)))
set_option maxHeartbeats 4000000 in
set_option maxRecDepth 10000 in
open Xe6618ec in
theorem k_TwiceC (m : List Int) (l : List Ent) (h : ¬ (chk m.length = 0 ∧ enE l m.length = 0)) : Con Try.prog 7 [sN .u64 m, sEn l] [rB true] := by
  refine con_of_awp hmix Try.func7 s7 rfl (by rw [n7]; simp) r7 n7 ?_
  simp only [Eng.start, startFr, inX, sN, vN, List.map_cons, List.map_nil, supA, supC, sEn, c7]
  (repeat' (first
    | (refine isR ?_; first | (refine isC ?_; first | (refine isF 27 ?_; first | (refine aCallF 27 ?_; apply aE3; exact k_ref02_Check _; exact flatA; refine aPost ?_)) | (refine isF 21 ?_; first | (refine aCallF 21 ?_; apply aE3; exact k_ref08_Check _ _; exact flatA; refine aPost ?_)) | (refine isF 16 ?_; first | (refine aCallF 16 ?_; apply aE3; exact k_alive8; exact flatA; refine aPost ?_))) | refine aOp ?_ | refine aOp2 ?_ | refine aOff1 ?_ | refine aOff2 ?_ | (refine aSplit ?_ ?_ <;> intro hsp) | (refine RegA.done ‹_› ?_; first | refine aKeep [0, 1, 4, 5, 6, 7, 8, 9, 10, 11, 12, 13, 14, 24, 40, 64, 68, 84, 88, 94, 132] ?_ | skip))
    | (refine isM ?_; first | (refine aMcall (f := 27) ?_; apply aE6; exact k_ref02_Check _; (refine aMr (by simp only [unV', unX, unXs, unC, unL, rN, rB, List.append_nil, List.nil_append, rBy, rSup, supP_len, rB2, rEn, rI64]; rfl) rfl rfl rfl); (first | exact .inl rfl | exact .inr flatA); refine aMpost ?_) | (refine aMcall (f := 21) ?_; apply aE6; exact k_ref08_Check _ _; (refine aMr (by simp only [unV', unX, unXs, unC, unL, rN, rB, List.append_nil, List.nil_append, rBy, rSup, supP_len, rB2, rEn, rI64]; rfl) rfl rfl rfl); (first | exact .inl rfl | exact .inr flatA); refine aMpost ?_) | (refine aMcall (f := 16) ?_; apply aE6; exact k_alive8; (refine aMr (by simp only [unV', unX, unXs, unC, unL, rN, rB, List.append_nil, List.nil_append, rBy, rSup, supP_len, rB2, rEn, rI64]; rfl) rfl rfl rfl); (first | exact .inl rfl | exact .inr flatA); refine aMpost ?_) | refine aMop ?_ | refine aMoff1 ?_ | refine aMoff2 ?_ | (refine aMsplit ?_ ?_ <;> intro hsp) | refine aMnil ?_)
    | (refine isA ?_; first | refine awp_seq fun K hK => ?_ | refine Awp.reg ?_ | refine aDrawM 13 [[], [], [], [1, 2], [3], [4], [0, 5], [6], [], [], [8, 9], [10], [11], [7, 12]] [[], [], [], [1, 2], [3, 1, 2], [4, 3, 1, 2], [0, 5, 4, 3, 1, 2], [6, 0, 5, 4, 3, 1, 2], [], [], [8, 9], [10, 8, 9], [11, 10, 8, 9], [7, 12, 6, 0, 5, 4, 3, 1, 2, 11, 10, 8, 9]] ?_ | refine aDrawM 11 [[], [0], [1], [1], [2, 3, 1], [4, 1], [5, 1], [1], [1], [7, 8, 1], [9, 1], [6, 10, 1], [1, 11], [12, 1, 0, 1, 2, 3, 4, 5, 6, 7, 8, 9, 10, 11, 12]] [[], [0], [1, 0], [1, 0], [2, 3, 1, 0], [4, 1, 2, 3, 0], [5, 1, 4, 2, 3, 0], [1, 0], [1, 0], [7, 8, 1, 0], [9, 1, 7, 8, 0], [6, 10, 1, 5, 4, 2, 3, 0, 9, 7, 8], [1, 11, 0, 6, 10, 5, 4, 2, 3, 9, 7, 8], [12, 1, 0, 2, 3, 4, 5, 6, 7, 8, 9, 10, 11]] ?_ | refine Awp.skip ?_ | refine Awp.block ?_ | refine Awp.scope ?_ | refine aCt ?_ | refine aCf ?_ | (refine aCond ?_ ?_ <;> intro hsp) | (refine Awp.exit ?_; simp only [blockQ, thenQ, scopeQ, ↓reduceIte, Nat.reduceEqDiff]))
    | (refine viaK ‹_› ?_; first | refine aKeep [0, 1, 4, 5, 6, 7, 8, 9, 10, 11, 12, 13, 14, 24, 40, 64, 68, 84, 88, 94, 132] ?_ | skip)
    | simp only [thenQ_normal, blockQ_normal]))
  all_goals first
  | (exfalso; omega)
  | (focus (
    (refine Awp.ret ?_; refine aRet ?_; (simp [-List.getD_eq_getElem?_getD, laxR, laxX, laxC, laxCs, rB, rN, rO, rBy, rSup, supP_len, rB2, rEn, rI64] <;> (intros; omega)))))
theorem k_law08_EntryTwice (m : List Int) (l : List Ent) : Con Try.prog 7 [sN .u64 m, sEn l] [rB true] := by
  by_cases hp : chk m.length = 0 ∧ enE l m.length = 0
  · have h1 := (enE_is hp.2).2.1
    exact k_TwiceA m l (by omega) hp.1 hp.2
  · exact k_TwiceC m l hp
end
end Go.Proofs.Ytmhnogmbpoeaeaa
