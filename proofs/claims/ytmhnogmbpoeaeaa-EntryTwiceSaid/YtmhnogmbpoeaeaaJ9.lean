/-
  The contracts of the program's functions, data in, data out. Conditions: those in the statements.
-/
import Derived.Test.YtmhnogmbpoeaeaaJ8
namespace Go.Proofs.Ytmhnogmbpoeaeaa
set_option linter.all false
open Go Go.Proofs.Ytmhnogmbpoeaeaa.Eng Go.RowKit
noncomputable section

theorem lsT_cons (e : Ent) (l : List Ent) : lsT (e :: l) = IntKind.u64.wrap e.at_ :: e.v :: lsT l := by rw [lsT_flat, lsT_flat, List.flatMap_cons]; rfl
theorem lsT_getD : ∀ (l : List Ent) (j : Nat), j < l.length → (lsT l).getD (2 * j) 0 = IntKind.u64.wrap (l.getD j default).at_ ∧ (lsT l).getD (2 * j + 1) 0 = (l.getD j default).v
  | [], j, h => absurd h (by simp)
  | e :: l, 0, _ => by rw [lsT_cons]; exact ⟨rfl, rfl⟩
  | e :: l, j + 1, h => by
    have ih := lsT_getD l j (by simpa using h)
    rw [lsT_cons, show 2 * (j + 1) = 2 * j + 1 + 1 by omega, List.getD_cons_succ, List.getD_cons_succ, List.getD_cons_succ, List.getD_cons_succ, List.getD_cons_succ]
    exact ih
theorem jrI_getD (m : List Int) {n j : Nat} (h : j < n) : (jrI m n).getD j default = ⟨IntKind.i64.wrap (m.getD (32 + 2 * j) 0), m.getD (33 + 2 * j) 0⟩ := by
  unfold jrI
  simp [List.getD, h]
theorem app_getD {p q r : List Int} {k : Nat} (hp : p.length = 32) (h : k < q.length) : (p ++ (q ++ r)).getD (32 + k) 0 = q.getD k 0 := by
  simp only [List.getD]
  rw [List.getElem?_append_right (by omega), List.getElem?_append_left (by omega)]
  congr 2
  omega
theorem ui_small {a : Int} (h : 16 ≤ a) (h2 : a < 2049) : IntKind.u64.wrap a = a ∧ IntKind.i64.wrap a = a := by
  refine ⟨by rw [u64w]; omega, by simp [IntKind.wrap, IntKind.bits, IntKind.signed]; omega⟩
theorem ent_at {l : List Ent} {w : Int} (h : enE l w = 0) {j : Nat} (hj : j < l.length) : 16 ≤ (l.getD j default).at_ ∧ (l.getD j default).at_ < w ∧ (l.getD j default).at_ < 2049 := by
  obtain ⟨h1, h2, h3⟩ := enE_is h
  have h4 := frB_iff.1 (h3 j hj).1
  have h5 := sz_le h1
  omega
theorem jr_back {p r : List Int} (hp : p.length = 32) {l : List Ent} {w : Int} (h : enE l w = 0) : jrI (p ++ (lsT l ++ r)) l.length = l := by
  refine ent_ext0 (jrI_len _ _) fun j hj => ?_
  rw [jrI_len] at hj
  have ha := ent_at h hj
  have hw := ui_small ha.1 ha.2.2
  have hk := lsT_len l
  rw [jrI_getD _ hj, app_getD hp (by omega), show 33 + 2 * j = 32 + (2 * j + 1) by omega, app_getD hp (by omega), (lsT_getD l j hj).1, (lsT_getD l j hj).2, hw.1, hw.2]
theorem lsT_inj {l o : List Ent} {w : Int} (h : enE l w = 0) (h2 : enE o w = 0) : decide (lsT l = lsT o) = decide (l = o) := by
  refine decide_eq_decide.2 ⟨fun e => ?_, fun e => by rw [e]⟩
  have e1 := lsT_len l
  have e2 := lsT_len o
  have e3 : l.length = o.length := by rw [e] at e1; omega
  have a := jr_back (p := List.replicate 32 0) (r := []) (by simp) h
  have b := jr_back (p := List.replicate 32 0) (r := []) (by simp) h2
  rw [e, e3] at a
  rw [← a, b]
theorem lsT_U {l : List Ent} (hv : ∀ e ∈ l, isU e.v) : ∀ x ∈ lsT l, isU x := by
  rw [lsT_flat]
  intro x hx
  obtain ⟨e, he, hxe⟩ := List.mem_flatMap.1 hx
  simp only [List.mem_cons, List.not_mem_nil, or_false] at hxe
  rcases hxe with rfl | rfl
  · exact wrap_U _
  · exact hv e he
theorem bk_all {m : List Int} {l : List Ent} (hm : ∀ x ∈ m, isU x) (hv : ∀ e ∈ l, isU e.v) (h0 : chk m.length = 0) (h1 : enE l m.length = 0) :
    getE m.length 32 (lsT l).length = 0 ∧ (putL m 32 (lsT l)).length = m.length ∧ (∀ x ∈ putL m 32 (lsT l), isU x) ∧ rdE (putL m 32 (lsT l)) l.length = 0 ∧ rdL (putL m 32 (lsT l)) l.length = l := by
  have hl := chk_le h0
  obtain ⟨h2, h3, h4⟩ := enE_is h1
  have hk := lsT_len l
  have hg : getE m.length 32 (lsT l).length = 0 := getE_0 h0 (by omega) (by omega) (by omega)
  have hp := putL_0 hg
  rw [show ((32 : Int).toNat) = 32 from rfl] at hp
  have ht : (m.take 32).length = 32 := by rw [List.length_take]; omega
  have hx : (putL m 32 (lsT l)).length = m.length := by
    rw [hp, List.length_append, List.length_append, List.length_drop, ht]; omega
  have hj : jrI (putL m 32 (lsT l)) l.length = l := by rw [hp]; exact jr_back ht h1
  have hto : jrTo (putL m 32 (lsT l)) l.length := fun j hj2 => by
    have ha := ent_at h1 hj2
    have hw := ui_small ha.1 ha.2.2
    rw [hx, hp, app_getD ht (by omega), (lsT_getD l j hj2).1, hw.1]
    exact ha.2.1
  have hr : rdE (putL m 32 (lsT l)) l.length = 0 := rdE_0 (by rw [hx]; exact h0) (by omega) (by
    rw [Int.toNat_natCast, (jr_good hto).2, hj, hx, h1]; rfl)
  refine ⟨hg, hx, ?_, hr, ?_⟩
  · rw [hp]
    intro x hx2
    rcases List.mem_append.1 hx2 with h | h
    · exact hm x (List.mem_of_mem_take h)
    · rcases List.mem_append.1 h with h | h
      · exact lsT_U hv x h
      · exact hm x (List.mem_of_mem_drop h)
  · rw [rdL_0 hr, Int.toNat_natCast, (jr_good hto).1, hj]
theorem dlen (l : List Ent) : decide (((lsT l).length : Int) = 2 * (l.length : Int)) = true := decide_eq_true (by rw [lsT_len]; omega)
namespace X5446758
def XX := (And.intro (And.intro (And.intro @tdiv8 (And.intro @tmod8 @toNatAddI)) (And.intro (And.intro @toNatSubI @takeAll) (And.intro @takeDropAll @getD_entC))) (And.intro (And.intro @List.all_cons.{0} (And.intro @List.all_nil.{0} @List.getElem?_cons_zero.{0})) (And.intro (And.intro @List.getElem?_cons_succ.{0} @Bool.and_self) (And.intro @List.cons_append.{0} @Nat.mul_one))))
def XN := @Nat.zero_add
def XR := (And.intro (And.intro @rBy.eq_1 @rSup.eq_1) (And.intro @supP_len (And.intro @rB2.eq_1 @rEn.eq_1)))
def XH := @Nat.zero_add
def XG := @Nat.zero_add
end X5446758
set_option maxHeartbeats 4000000 in
set_option maxRecDepth 10000 in
open X5446758 in
theorem k_BackA (m : List Int) (hm : ∀ x ∈ m, isU x) (l o : List Ent) (hv : ∀ e ∈ l, isU e.v) (hl2 : l.length ≤ 1000000) (ho2 : o.length ≤ 1000000) (h0 : chk m.length = 0) (h1 : enE l m.length = 0) (h2 : enE o m.length = 0) : Con Try.prog 6 [sN .u64 m, sEn l, sEn o] [rB true] := by
  obtain ⟨g1, g2, g3, g4, g5⟩ := bk_all hm hv h0 h1
  have hl := chk_le h0
  have f1 := (enE_is h1).2.1
  have f2 := (enE_is h2).2.1
  have k1 := lsT_len l
  have k2 := lsT_len o
  have w1 := enWs_0 h1
  have w2 := enWs_0 h2
  have hd := dlen l
  have hi := lsT_inj h1 h2
  refine con_of_awp hmix Try.func6 s6 rfl (by rw [n6]; simp) r6 n6 ?_
  simp only [Eng.start, startFr, inX, sN, vN, List.map_cons, List.map_nil, supA, supC, sEn, c6]
  (have XH := (And.intro (And.intro (And.intro @h0 (And.intro @h1 @h2)) (And.intro @w1 (And.intro @w2 @g1))) (And.intro (And.intro @g2 (And.intro @g4 @g5)) (And.intro @hd (And.intro @hi @eq_self.{1})))); have XG := (And.intro (And.intro (And.intro @h0 @h1) (And.intro @h2 (And.intro @w1 @w2))) (And.intro (And.intro @g1 @g4) (And.intro @g5 (And.intro @hd @hi)))); (repeat' (first
    | (refine isR ?_; first | (refine isC ?_; first | (refine isF 27 ?_; first | (refine aCallF 27 ?_; apply aE3; exact k_ref02_Check _; exact flatA; refine aPost ?_)) | (refine isF 21 ?_; first | (refine aCallF 21 ?_; apply aE3; exact k_ref08_Check _ _; exact flatA; refine aPost ?_)) | (refine isF 16 ?_; first | (refine aCallF 16 ?_; apply aE3; exact k_alive8; exact flatA; refine aPost ?_)) | (refine isF 11 ?_; first | (refine aCall 11 ?_; apply aE2; (first | exact k_entry_Words l (m.length : Int) (by omega) | exact k_entry_Words o (m.length : Int) (by omega)); refine aPost ?_)) | (refine isF 28 ?_; first | (refine aCall 28 ?_; apply aE2; exact k_image_Put m 32 (lsT l) (by omega) (by omega) (by omega); refine aPost ?_)) | (refine isF 14 ?_; first | (refine aCall 14 ?_; apply aE2; exact k_entry_Read (putL m 32 (lsT l)) g3 (l.length : Int) (by omega); refine aPost ?_)) | (refine isF 22 ?_; first | (refine aCallF 22 ?_; apply aE3; exact k_ref02_Same _ _ (by first | omega | (simp; omega)) (by first | omega | (simp; omega)); exact flatA; refine aPost ?_)) | (refine isF 15 ?_; first | (refine aCallF 15 ?_; apply aE3; exact k_ref07_Same _ _ (by omega) (by omega); exact flatA; refine aPost ?_))) | refine aOp ?_ | refine aOp2 ?_ | refine aOff1 ?_ | refine aOff2 ?_ | (refine aSplit ?_ ?_ <;> intro hsp) | (refine RegA.done ‹_› ?_; first | refine aKeep [0, 1, 2, 6, 7, 8, 9, 10, 11, 12, 13, 14, 31, 81] ?_ | skip))
    | (refine isA ?_; first | refine awp_seq fun K hK => ?_ | refine Awp.reg ?_ | refine Awp.skip ?_ | refine Awp.block ?_ | refine Awp.scope ?_ | refine aCt ?_ | refine aCf ?_ | (refine aCond ?_ ?_ <;> intro hsp) | (refine Awp.exit ?_; simp only [blockQ, thenQ, scopeQ, ↓reduceIte, Nat.reduceEqDiff]))
    | (refine viaK ‹_› ?_; first | refine aKeep [0, 1, 2, 6, 7, 8, 9, 10, 11, 12, 13, 14, 31, 81] ?_ | skip)
    | simp only [thenQ_normal, blockQ_normal])); all_goals (clear XH; clear XG))
  all_goals (refine Awp.ret ?_; refine aRet ?_; (simp [-List.getD_eq_getElem?_getD, laxR, laxX, laxC, laxCs, rB, rN, rO, rBy, rSup, supP_len, rB2, rEn] <;> (intros; omega)))
set_option maxHeartbeats 4000000 in
set_option maxRecDepth 10000 in
open X5446758 in
theorem k_BackC (m : List Int) (hm : ∀ x ∈ m, isU x) (l o : List Ent) (hv : ∀ e ∈ l, isU e.v) (h : ¬ (chk m.length = 0 ∧ enE l m.length = 0 ∧ enE o m.length = 0)) : Con Try.prog 6 [sN .u64 m, sEn l, sEn o] [rB true] := by
  refine con_of_awp hmix Try.func6 s6 rfl (by rw [n6]; simp) r6 n6 ?_
  simp only [Eng.start, startFr, inX, sN, vN, List.map_cons, List.map_nil, supA, supC, sEn, c6]
  (repeat' (first
    | (refine isR ?_; first | (refine isC ?_; first | (refine isF 27 ?_; first | (refine aCallF 27 ?_; apply aE3; exact k_ref02_Check _; exact flatA; refine aPost ?_)) | (refine isF 21 ?_; first | (refine aCallF 21 ?_; apply aE3; exact k_ref08_Check _ _; exact flatA; refine aPost ?_)) | (refine isF 16 ?_; first | (refine aCallF 16 ?_; apply aE3; exact k_alive8; exact flatA; refine aPost ?_))) | refine aOp ?_ | refine aOp2 ?_ | refine aOff1 ?_ | refine aOff2 ?_ | (refine aSplit ?_ ?_ <;> intro hsp) | (refine RegA.done ‹_› ?_; first | refine aKeep [0, 1, 2, 6, 7, 8, 9, 10, 11, 12, 13, 14, 31, 81] ?_ | skip))
    | (refine isA ?_; first | refine awp_seq fun K hK => ?_ | refine Awp.reg ?_ | refine Awp.skip ?_ | refine Awp.block ?_ | refine Awp.scope ?_ | refine aCt ?_ | refine aCf ?_ | (refine aCond ?_ ?_ <;> intro hsp) | (refine Awp.exit ?_; simp only [blockQ, thenQ, scopeQ, ↓reduceIte, Nat.reduceEqDiff]))
    | (refine viaK ‹_› ?_; first | refine aKeep [0, 1, 2, 6, 7, 8, 9, 10, 11, 12, 13, 14, 31, 81] ?_ | skip)
    | simp only [thenQ_normal, blockQ_normal]))
  all_goals first
  | (exfalso; omega)
  | (focus (
    (refine Awp.ret ?_; refine aRet ?_; (simp [-List.getD_eq_getElem?_getD, laxR, laxX, laxC, laxCs, rB, rN, rO, rBy, rSup, supP_len, rB2, rEn] <;> (intros; omega)))))
theorem k_law08_EntryBack (m : List Int) (hm : ∀ x ∈ m, isU x) (l o : List Ent) (hv : ∀ e ∈ l, isU e.v) : Con Try.prog 6 [sN .u64 m, sEn l, sEn o] [rB true] := by
  by_cases hp : chk m.length = 0 ∧ enE l m.length = 0 ∧ enE o m.length = 0
  · have h1 := (enE_is hp.2.1).2.1
    have h2 := (enE_is hp.2.2).2.1
    exact k_BackA m hm l o hv (by omega) (by omega) hp.1 hp.2.1 hp.2.2
  · exact k_BackC m hm l o hv hp
end
end Go.Proofs.Ytmhnogmbpoeaeaa
