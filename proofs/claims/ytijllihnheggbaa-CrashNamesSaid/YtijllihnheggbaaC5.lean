/-
  The contracts of the program's functions, data in, data out. Conditions: those in the statements.
-/
import Derived.Test.YtijllihnheggbaaC4
namespace Go.Proofs.Ytijllihnheggbaa
set_option linter.all false
open Go Go.Proofs.Ytijllihnheggbaa.Eng Go.RowKit
noncomputable section

def Srt (l : List Dty) : Prop := ∀ i j, i < j → j < l.length → (l.getD i default).at_ < (l.getD j default).at_
theorem incr_all {w : Int} : ∀ {l : List Dty} {last : Int}, incr w last l = true → (∀ i, i < l.length → last < (l.getD i default).at_ ∧ (l.getD i default).at_ < w) ∧ Srt l
  | [], _, _ => ⟨fun i h => by simp at h, fun i j _ h => by simp at h⟩
  | x :: r, last, h => by
    simp only [incr, Bool.and_eq_true, decide_eq_true_eq] at h
    obtain ⟨⟨h1, h2⟩, h3⟩ := h
    obtain ⟨k1, k2⟩ := incr_all h3
    refine ⟨fun i hi => ?_, fun i j hij hj => ?_⟩
    · cases i with
      | zero => exact ⟨h1, h2⟩
      | succ i =>
        have := k1 i (by simpa using hi)
        simp only [List.getD_cons_succ]
        omega
    · cases j with
      | zero => omega
      | succ j =>
        cases i with
        | zero =>
          have := k1 j (by simpa using hj)
          simp only [List.getD_cons_zero, List.getD_cons_succ]
          omega
        | succ i =>
          simp only [List.getD_cons_succ]
          exact k2 i j (by omega) (by simpa using hj)
theorem devOk_all {d : Dev} (h : chkD d = 0) : (∀ i, i < d.dirty.length → 0 ≤ (d.dirty.getD i default).at_ ∧ (d.dirty.getD i default).at_ < d.img.length) ∧ Srt d.dirty := by
  obtain ⟨k1, k2⟩ := incr_all (chkD_inc h)
  exact ⟨fun i hi => by have := k1 i hi; omega, k2⟩
/-- How many dirty words lie ahead of an address. -/
@[irreducible] def lb (l : List Dty) (a : Int) : Nat := (l.takeWhile fun x => decide (x.at_ < a)).length
theorem lb_eq {a : Int} : ∀ {l : List Dty} {i : Nat}, i ≤ l.length → (∀ k, k < i → (l.getD k default).at_ < a) → (∀ k, i ≤ k → k < l.length → a ≤ (l.getD k default).at_) → lb l a = i
  | [], i, h, _, _ => by simp at h; subst h; unfold lb; rfl
  | x :: r, 0, _, _, h => by
    have := h 0 (Nat.le_refl _) (by simp)
    simp only [List.getD_cons_zero] at this
    unfold lb
    rw [List.takeWhile_cons, if_neg (by simp; omega)]; rfl
  | x :: r, i + 1, h0, h1, h2 => by
    have hx := h1 0 (by omega)
    simp only [List.getD_cons_zero] at hx
    have ih := lb_eq (l := r) (i := i) (a := a) (by simpa using h0) (fun k hk => by have := h1 (k + 1) (by omega); simpa using this) (fun k hk hk' => by have := h2 (k + 1) (by omega) (by simpa using hk'); simpa using this)
    unfold lb at ih ⊢
    rw [List.takeWhile_cons, if_pos (by simpa using hx), List.length_cons, ih]
theorem lb_le (l : List Dty) (a : Int) : lb l a ≤ l.length := by
  unfold lb
  induction l with
  | nil => simp
  | cons x r ih => rw [List.takeWhile_cons]; split <;> simp <;> omega
theorem lb_lt {l : List Dty} {a : Int} : ∀ k, k < lb l a → (l.getD k default).at_ < a := by
  unfold lb
  induction l with
  | nil => simp
  | cons x r ih =>
    intro k hk
    rw [List.takeWhile_cons] at hk
    split at hk
    · rename_i hx
      cases k with
      | zero => simpa using hx
      | succ k => simp only [List.getD_cons_succ]; exact ih k (by simpa using hk)
    · simp at hk
theorem lb_ge {l : List Dty} {a : Int} (hs : Srt l) : ∀ k, lb l a ≤ k → k < l.length → a ≤ (l.getD k default).at_ := by
  have h0 : lb l a < l.length → a ≤ (l.getD (lb l a) default).at_ := by
    unfold lb
    clear hs
    induction l with
    | nil => simp
    | cons x r ih =>
      intro h
      rw [List.takeWhile_cons] at h ⊢
      split
      · rename_i hx
        rw [if_pos hx] at h
        simp only [List.length_cons, List.getD_cons_succ]
        exact ih (by simpa using h)
      · rename_i hx
        simpa using hx
  intro k hk hk'
  rcases Nat.eq_or_lt_of_le hk with h | h
  · subst h; exact h0 hk'
  · have h1 := h0 (by omega)
    have h2 := hs _ _ h hk'
    omega
@[irreducible] def hasAt (l : List Dty) (a : Int) : Bool := decide (lb l a < l.length) && decide ((l.getD (lb l a) default).at_ = a)
@[irreducible] def cmpI (x a : Int) : Int := if x < a then -1 else if a < x then 1 else 0
theorem cmpI_lt (x a : Int) : cmpI x a < 0 ↔ x < a := by unfold cmpI; split <;> (try split) <;> simp <;> omega
theorem cmpI_eq (x a : Int) : cmpI x a = 0 ↔ x = a := by unfold cmpI; split <;> (try split) <;> simp <;> omega
theorem cv_3_89 (n : Int) : cvV Try.prog 3 89 (.int .i64 n) = some (.int .u64 (IntKind.u64.wrap n)) := by kernel_rfl
theorem cv_89_3 (n : Int) : cvV Try.prog 89 3 (.int .u64 n) = some (.int .i64 (IntKind.i64.wrap n)) := by kernel_rfl
theorem u64_small {n : Int} (h : 0 ≤ n ∧ n < 18446744073709551616) : IntKind.u64.wrap n = n := by
  simp only [IntKind.wrap_u64]
  omega
theorem shr_one (n : Int) : n.fdiv (2 ^ min 1 IntKind.u64.bits) = n / 2 := by
  show n.fdiv 2 = n / 2
  exact Int.fdiv_eq_ediv_of_nonneg n (by decide)
theorem k_find_1 (x v : Int) (f : Bool) (b : Int) : Con Try.prog 47 [.agg [.v (.int .i64 x), .v (.int .u64 v), .v (.bool f)], vN .i64 b] [rN .i64 (cmpI x b)] := by
  have h := k_cache_find_1 ⟨x, v, f⟩ b
  unfold cmpI
  exact h
namespace X4c71018
def XX := (And.intro (And.intro @getD_dty (And.intro @tdiv8 @tmod8)) (And.intro (And.intro @takeAll @takeDropAll) (And.intro @toNatAdd @toNatSub)))
def XN := @Nat.zero_add
def XR := (And.intro @rDev.eq_1 @dtyD.eq_1)
def XH := @Nat.zero_add
def XG := @Nat.zero_add
end X4c71018
set_option maxHeartbeats 4000000 in
set_option maxRecDepth 10000 in
open X4c71018 in
theorem k_slices_BinarySearchFunc (l : List Dty) (a : Int) (hl : l.length ≤ 1000000) (hs : Srt l) : Con Try.prog 46 [sD l, vN .i64 a, .one (.v (.func (.func 47) #[] #[]))] [rN .i64 (lb l a), rB (hasAt l a)] := by
  refine con_of_awp hmix Try.func46 s46 rfl (by rw [n46]; simp) r46 n46 ?_
  simp only [Eng.start, startFr, inX, sN, vN, List.map_cons, List.map_nil, devA, devC, dtyD, sD, c46]
  (repeat' (first
    | refine aOp ?_
    | refine aOff1 ?_
    | refine aOff2 ?_
    | (refine aSplit ?_ ?_ <;> intro hsp)
    | (refine RegA.done ‹_› ?_)
    | refine awp_seq fun K hK => ?_
    | refine Awp.reg ?_
    | refine Awp.skip ?_
    | refine Awp.block ?_
    | refine Awp.scope ?_
    | refine aCt ?_
    | refine aCf ?_
    | (refine aCond ?_ ?_ <;> intro hsp)
    | (refine Awp.exit ?_; simp only [blockQ, thenQ, scopeQ, ↓reduceIte, Nat.reduceEqDiff])
    | (refine viaK ‹_› ?_)
    | simp only [thenQ_normal, blockQ_normal]))
  refine Awp.loopK (α := {p : Nat × Nat // p.1 ≤ p.2 ∧ p.2 ≤ l.length ∧ (∀ k, k < p.1 → (l.getD k default).at_ < a) ∧ (∀ k, p.2 ≤ k → k < l.length → a ≤ (l.getD k default).at_)}) (fun x => [(9, vv (.int .i64 (x.1.1 : Int))), (10, vv (.int .i64 (x.1.2 : Int)))]) (fun x => []) [0, 1, 2, 6, 7, 8] [] (fun x => x.1.2 - x.1.1) ⟨(0, l.length), by simp, by simp, by simp, fun k h h' => by simp at h; omega⟩ [] (by simp only [List.filterMap_cons, List.filterMap_nil, lk_nil, lk_cons, ↓reduceIte, Nat.reduceEqDiff, Option.map_some, Option.map_none]; rfl) (by simp only [List.filterMap_cons, List.filterMap_nil, lk_nil, lk_cons, ↓reduceIte, Nat.reduceEqDiff, Option.map_some, Option.map_none]; rfl) rfl rfl ?_ ?_
  · simp only [Wk, frIn, hpIn, lk_nil, lk_cons, renV, renX, renC, belV, belX, belC, belL, belB, List.cons_append, List.nil_append, ↓reduceIte, Nat.reduceEqDiff, and_self, and_true, true_and] <;> simp [-List.getD_eq_getElem?_getD, vv, one, renV, renX, renC, belV, belX, belC, belL, belB, rho, renO, belO, lk_nil, lk_cons]
  · rintro ⟨⟨i, j⟩, hij, hj, h1, h2⟩
    have hij' : i ≤ j := hij
    have hj' : j ≤ l.length := hj
    obtain ⟨h, hh⟩ : ∃ h : Nat, ((i : Int) + (j : Int)) / 2 = (h : Int) := ⟨(i + j) / 2, by omega⟩
    simp only [vv, one, List.cons_append, List.nil_append]
    (have XH := (And.intro (And.intro @cv_3_89 @cv_89_3) (And.intro @u64_small (And.intro @shr_one @hh))); (repeat' (first
      | (refine aCallF 47 ?_; apply aE3; exact k_find_1 _ _ _ _; exact flatA; refine aPost ?_)
      | refine aOp ?_
      | refine aOff1 ?_
      | refine aOff2 ?_
      | (refine aSplit ?_ ?_ <;> intro hsp)
      | (refine RegA.done ‹_› ?_)
      | refine awp_seq fun K hK => ?_
      | refine Awp.reg ?_
      | refine Awp.skip ?_
      | refine Awp.block ?_
      | refine Awp.scope ?_
      | refine aCt ?_
      | refine aCf ?_
      | (refine aCond ?_ ?_ <;> intro hsp)
      | (refine Awp.exit ?_; simp only [blockQ, thenQ, scopeQ, ↓reduceIte, Nat.reduceEqDiff])
      | (refine viaK ‹_› ?_)
      | simp only [thenQ_normal, blockQ_normal])); all_goals (clear XH))
    · have hm : ∀ k, k < h + 1 → (l.getD k default).at_ < a := fun k hk => by
        have hx := (cmpI_lt _ _).1 hsp
        rcases Nat.lt_or_ge k h with h' | h'
        · have := hs k h h' (by omega); omega
        · rw [show k = h by omega]; exact hx
      refine RegA.nil ⟨⟨(h + 1, j), by simp only []; omega, hj, hm, h2⟩, [], ?_, ?_⟩
      · simp only [Wk, frIn, hpIn, lk_nil, lk_cons, renV, renX, renC, belV, belX, belC, belL, belB, List.cons_append, List.nil_append, ↓reduceIte, Nat.reduceEqDiff, and_self, and_true, true_and] <;> simp [-List.getD_eq_getElem?_getD, vv, one, renV, renX, renC, belV, belX, belC, belL, belB, rho, renO, belO, lk_nil, lk_cons]
      · (simp only []; omega)
    · have hm : ∀ k, h ≤ k → k < l.length → a ≤ (l.getD k default).at_ := fun k hk hk' => by
        have hx : a ≤ (l.getD h default).at_ := by have := cmpI_lt (l.getD h default).at_ a; omega
        rcases Nat.lt_or_ge h k with h' | h'
        · have := hs h k h' hk'; omega
        · rw [show k = h by omega]; exact hx
      refine RegA.nil ⟨⟨(i, h), by simp only []; omega, by simp only []; omega, h1, hm⟩, [], ?_, ?_⟩
      · simp only [Wk, frIn, hpIn, lk_nil, lk_cons, renV, renX, renC, belV, belX, belC, belL, belB, List.cons_append, List.nil_append, ↓reduceIte, Nat.reduceEqDiff, and_self, and_true, true_and] <;> simp [-List.getD_eq_getElem?_getD, vv, one, renV, renX, renC, belV, belX, belC, belL, belB, rho, renO, belO, lk_nil, lk_cons]
      · (simp only []; omega)
    · have e : lb l a = i := lb_eq (by omega) h1 (fun k hk hk' => h2 k (by simp only []; omega) hk')
      have e2 : hasAt l a = decide (cmpI (l.getD i default).at_ a = 0) := by
        unfold hasAt; rw [e, decide_eq_true (by omega : i < l.length), Bool.true_and]
        exact decide_eq_decide.2 (cmpI_eq _ _).symm
      (refine Awp.ret ?_; refine aRet ?_; (simp [-List.getD_eq_getElem?_getD, laxR, laxX, laxC, laxCs, rB, rN, rO, rDev, dtyD, e, e2] <;> (intros; omega)))
    · have e : lb l a = i := lb_eq (by omega) h1 (fun k hk hk' => h2 k (by simp only []; omega) hk')
      have e2 : hasAt l a = false := by
        unfold hasAt; rw [e, decide_eq_false (by omega : ¬ i < l.length), Bool.false_and]
      (refine Awp.ret ?_; refine aRet ?_; (simp [-List.getD_eq_getElem?_getD, laxR, laxX, laxC, laxCs, rB, rN, rO, rDev, dtyD, e, e2] <;> (intros; omega)))
set_option maxHeartbeats 4000000 in
set_option maxRecDepth 10000 in
open X4c71018 in
theorem k_cache_find (l : List Dty) (a : Int) (hl : l.length ≤ 1000000) (hs : Srt l) : Con Try.prog 39 [sD l, vN .i64 a] [rN .i64 (lb l a), rB (hasAt l a)] := by
  refine con_of_awp hmix Try.func39 s39 rfl (by rw [n39]; simp) r39 n39 ?_
  simp only [Eng.start, startFr, inX, sN, vN, List.map_cons, List.map_nil, devA, devC, dtyD, sD, c39]
  (repeat' (first
    | (refine aCallF 46 ?_; apply aE3; exact k_slices_BinarySearchFunc _ _ (by omega) hs; exact flatA; refine aPost ?_)
    | refine aOp ?_
    | refine aOff1 ?_
    | refine aOff2 ?_
    | (refine aSplit ?_ ?_ <;> intro hsp)
    | (refine RegA.done ‹_› ?_)
    | refine awp_seq fun K hK => ?_
    | refine Awp.reg ?_
    | refine Awp.skip ?_
    | refine Awp.block ?_
    | refine Awp.scope ?_
    | refine aCt ?_
    | refine aCf ?_
    | (refine aCond ?_ ?_ <;> intro hsp)
    | (refine Awp.exit ?_; simp only [blockQ, thenQ, scopeQ, ↓reduceIte, Nat.reduceEqDiff])
    | (refine viaK ‹_› ?_)
    | simp only [thenQ_normal, blockQ_normal]))
  all_goals (refine Awp.ret ?_; refine aRet ?_; (simp [-List.getD_eq_getElem?_getD, laxR, laxX, laxC, laxCs, rB, rN, rO, rDev, dtyD] <;> (intros; omega)))

def words (d : Dev) : List Int := d.dirty.foldl (fun m x => m.set x.at_.toNat x.v) d.img
def wordAt (d : Dev) (a : Int) : Int := if hasAt d.dirty a then (d.dirty.getD (lb d.dirty a) default).v else d.img.getD a.toNat 0
@[irreducible] def loadV (d : Dev) (a : Int) : Int := if asked d a = 0 then wordAt d a else 0
@[irreducible] def viewL (d : Dev) : List Int := if chkD d = 0 then words d else []
theorem asked_chk {d : Dev} {a : Int} (h : asked d a = 0) : chkD d = 0 ∧ 0 ≤ a ∧ a < d.img.length := by
  unfold asked at h
  split at h
  · rename_i h1
    split at h
    · rename_i h2; exact ⟨h1, h2⟩
    · omega
  · omega
theorem setAll_len (l : List Dty) : ∀ m : List Int, (l.foldl (fun m x => m.set x.at_.toNat x.v) m).length = m.length := by
  induction l with
  | nil => intro m; rfl
  | cons x r ih => intro m; rw [List.foldl_cons, ih]; simp
theorem words_len (d : Dev) : (words d).length = d.img.length := setAll_len _ _

theorem hasAt_lt {l : List Dty} {a : Int} (h : hasAt l a = true) : lb l a < l.length := by
  unfold hasAt at h
  simp only [Bool.and_eq_true, decide_eq_true_eq] at h
  exact h.1
set_option maxHeartbeats 4000000 in
set_option maxRecDepth 10000 in
open X4c71018 in
theorem k_cache_Load (d : Dev) (a : Int) (hm : d.img.length ≤ 1000000) (hl : d.dirty.length ≤ 1000000) (ha : -9223372036854775808 ≤ a ∧ a ≤ 9223372036854775807) : Con Try.prog 27 [devA d, vN .i64 a] [rN .u64 (loadV d a), rN .i64 (asked d a)] := by
  have hk : asked d a = 0 → 0 ≤ a ∧ a < d.img.length := fun h => (asked_chk h).2
  refine con_of_awp hmix Try.func27 s27 rfl (by rw [n27]; simp) r27 n27 ?_
  simp only [Eng.start, startFr, inX, sN, vN, List.map_cons, List.map_nil, devA, devC, dtyD, sD, c27]
  (repeat' (first
    | (refine aCallF 37 ?_; apply aE3; exact k_cache_lineStart _ _ (by omega) (by omega) (by omega); exact flatA; refine aPost ?_)
    | (refine aCallF 39 ?_; apply aE3; exact k_cache_find _ _ (by omega) (devOk_all (asked_chk ‹asked d a = 0›).1).2; exact flatA; refine aPost ?_)
    | refine aOp ?_
    | refine aOff1 ?_
    | refine aOff2 ?_
    | (refine aSplit ?_ ?_ <;> intro hsp)
    | (refine RegA.done ‹_› ?_)
    | refine awp_seq fun K hK => ?_
    | refine Awp.reg ?_
    | refine Awp.skip ?_
    | refine Awp.block ?_
    | refine Awp.scope ?_
    | refine aCt ?_
    | refine aCf ?_
    | (refine aCond ?_ ?_ <;> intro hsp)
    | (refine Awp.exit ?_; simp only [blockQ, thenQ, scopeQ, ↓reduceIte, Nat.reduceEqDiff])
    | (refine viaK ‹_› ?_)
    | simp only [thenQ_normal, blockQ_normal]))
  · have e : loadV d a = 0 := by unfold loadV; rw [if_neg ‹_›]
    (refine Awp.ret ?_; refine aRet ?_; (simp [-List.getD_eq_getElem?_getD, laxR, laxX, laxC, laxCs, rB, rN, rO, rDev, dtyD, e] <;> (intros; omega)))
  · have hq := hasAt_lt ‹hasAt d.dirty a = true›
    (repeat' (first
        | (refine aCallF 37 ?_; apply aE3; exact k_cache_lineStart _ _ (by omega) (by omega) (by omega); exact flatA; refine aPost ?_)
        | (refine aCallF 39 ?_; apply aE3; exact k_cache_find _ _ (by omega) (devOk_all (asked_chk ‹asked d a = 0›).1).2; exact flatA; refine aPost ?_)
        | refine aOp ?_
        | refine aOff1 ?_
        | refine aOff2 ?_
        | (refine aSplit ?_ ?_ <;> intro hsp)
        | (refine RegA.done ‹_› ?_)
        | refine awp_seq fun K hK => ?_
        | refine Awp.reg ?_
        | refine Awp.skip ?_
        | refine Awp.block ?_
        | refine Awp.scope ?_
        | refine aCt ?_
        | refine aCf ?_
        | (refine aCond ?_ ?_ <;> intro hsp)
        | (refine Awp.exit ?_; simp only [blockQ, thenQ, scopeQ, ↓reduceIte, Nat.reduceEqDiff])
        | (refine viaK ‹_› ?_)
        | simp only [thenQ_normal, blockQ_normal]))
    have e : loadV d a = (d.dirty.getD (lb d.dirty a) default).v := by unfold loadV wordAt; rw [if_pos ‹asked d a = 0›, if_pos ‹_›]
    (refine Awp.ret ?_; refine aRet ?_; (simp [-List.getD_eq_getElem?_getD, laxR, laxX, laxC, laxCs, rB, rN, rO, rDev, dtyD, e, *] <;> (intros; omega)))
  · have e : loadV d a = d.img.getD a.toNat 0 := by unfold loadV wordAt; rw [if_pos ‹asked d a = 0›, if_neg (by simp [*])]
    (refine Awp.ret ?_; refine aRet ?_; (simp [-List.getD_eq_getElem?_getD, laxR, laxX, laxC, laxCs, rB, rN, rO, rDev, dtyD, e, *] <;> (intros; omega)))
end
end Go.Proofs.Ytijllihnheggbaa
