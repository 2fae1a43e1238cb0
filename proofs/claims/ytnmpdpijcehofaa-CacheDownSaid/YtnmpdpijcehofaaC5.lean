/-
  The contracts of the program's functions, data in, data out. Conditions: those in the statements.
-/
import Derived.Test.YtnmpdpijcehofaaC4
namespace Go.Proofs.Ytnmpdpijcehofaa
set_option linter.all false
open Go Go.Proofs.Ytnmpdpijcehofaa.Eng Go.RowKit
noncomputable section

def Srt (l : List Dty) : Prop := ∀ i j, i < j → j < l.length → (l.getD i default).at_ < (l.getD j default).at_
theorem incr_all {w : Int} : ∀ {l : List Dty} {last : Int}, incr w last l = true → (∀ i, i < l.length → last < (l.getD i default).at_ ∧ (l.getD i default).at_ < w) ∧ Srt l
  | [], _, _ => ⟨fun i h => by simp at h, fun i j _ h => by simp at h⟩
  | x :: r, last, h => by
    simp only [incr, Bool.and_eq_true, decide_eq_true_eq] at h
    obtain ⟨⟨h1, h2⟩, h3⟩ := h
    obtain ⟨k1, k2⟩ := incr_all h3
    refine ⟨fun i hi => ?_, fun i j hij hj => ?_⟩
    · cases i with
      | zero => exact ⟨h1, h2⟩
      | succ i =>
        have := k1 i (by simpa using hi)
        simp only [List.getD_cons_succ]
        omega
    · cases j with
      | zero => omega
      | succ j =>
        cases i with
        | zero =>
          have := k1 j (by simpa using hj)
          simp only [List.getD_cons_zero, List.getD_cons_succ]
          omega
        | succ i =>
          simp only [List.getD_cons_succ]
          exact k2 i j (by omega) (by simpa using hj)
theorem devOk_all {d : Dev} (h : chkD d = 0) : (∀ i, i < d.dirty.length → 0 ≤ (d.dirty.getD i default).at_ ∧ (d.dirty.getD i default).at_ < d.img.length) ∧ Srt d.dirty := by
  obtain ⟨k1, k2⟩ := incr_all (chkD_inc h)
  exact ⟨fun i hi => by have := k1 i hi; omega, k2⟩
/-- How many dirty words lie ahead of an address. -/
@[irreducible] def lb (l : List Dty) (a : Int) : Nat := (l.takeWhile fun x => decide (x.at_ < a)).length
theorem lb_eq {a : Int} : ∀ {l : List Dty} {i : Nat}, i ≤ l.length → (∀ k, k < i → (l.getD k default).at_ < a) → (∀ k, i ≤ k → k < l.length → a ≤ (l.getD k default).at_) → lb l a = i
  | [], i, h, _, _ => by simp at h; subst h; unfold lb; rfl
  | x :: r, 0, _, _, h => by
    have := h 0 (Nat.le_refl _) (by simp)
    simp only [List.getD_cons_zero] at this
    unfold lb
    rw [List.takeWhile_cons, if_neg (by simp; omega)]; rfl
  | x :: r, i + 1, h0, h1, h2 => by
    have hx := h1 0 (by omega)
    simp only [List.getD_cons_zero] at hx
    have ih := lb_eq (l := r) (i := i) (a := a) (by simpa using h0) (fun k hk => by have := h1 (k + 1) (by omega); simpa using this) (fun k hk hk' => by have := h2 (k + 1) (by omega) (by simpa using hk'); simpa using this)
    unfold lb at ih ⊢
    rw [List.takeWhile_cons, if_pos (by simpa using hx), List.length_cons, ih]
theorem lb_le (l : List Dty) (a : Int) : lb l a ≤ l.length := by
  unfold lb
  induction l with
  | nil => simp
  | cons x r ih => rw [List.takeWhile_cons]; split <;> simp <;> omega
theorem lb_lt {l : List Dty} {a : Int} : ∀ k, k < lb l a → (l.getD k default).at_ < a := by
  unfold lb
  induction l with
  | nil => simp
  | cons x r ih =>
    intro k hk
    rw [List.takeWhile_cons] at hk
    split at hk
    · rename_i hx
      cases k with
      | zero => simpa using hx
      | succ k => simp only [List.getD_cons_succ]; exact ih k (by simpa using hk)
    · simp at hk
theorem lb_ge {l : List Dty} {a : Int} (hs : Srt l) : ∀ k, lb l a ≤ k → k < l.length → a ≤ (l.getD k default).at_ := by
  have h0 : lb l a < l.length → a ≤ (l.getD (lb l a) default).at_ := by
    unfold lb
    clear hs
    induction l with
    | nil => simp
    | cons x r ih =>
      intro h
      rw [List.takeWhile_cons] at h ⊢
      split
      · rename_i hx
        rw [if_pos hx] at h
        simp only [List.length_cons, List.getD_cons_succ]
        exact ih (by simpa using h)
      · rename_i hx
        simpa using hx
  intro k hk hk'
  rcases Nat.eq_or_lt_of_le hk with h | h
  · subst h; exact h0 hk'
  · have h1 := h0 (by omega)
    have h2 := hs _ _ h hk'
    omega
@[irreducible] def hasAt (l : List Dty) (a : Int) : Bool := decide (lb l a < l.length) && decide ((l.getD (lb l a) default).at_ = a)
@[irreducible] def cmpI (x a : Int) : Int := if x < a then -1 else if a < x then 1 else 0
theorem cmpI_lt (x a : Int) : cmpI x a < 0 ↔ x < a := by unfold cmpI; split <;> (try split) <;> simp <;> omega
theorem cmpI_eq (x a : Int) : cmpI x a = 0 ↔ x = a := by unfold cmpI; split <;> (try split) <;> simp <;> omega
theorem cv_3_96 (n : Int) : cvV Try.prog 3 96 (.int .i64 n) = some (.int .u64 (IntKind.u64.wrap n)) := by kernel_rfl
theorem cv_96_3 (n : Int) : cvV Try.prog 96 3 (.int .u64 n) = some (.int .i64 (IntKind.i64.wrap n)) := by kernel_rfl
theorem u64_small {n : Int} (h : 0 ≤ n ∧ n < 18446744073709551616) : IntKind.u64.wrap n = n := by
  simp only [IntKind.wrap_u64]
  omega
theorem shr_one (n : Int) : n.fdiv (2 ^ min 1 IntKind.u64.bits) = n / 2 := by
  show n.fdiv 2 = n / 2
  exact Int.fdiv_eq_ediv_of_nonneg n (by decide)
theorem k_find_1 (x v : Int) (f : Bool) (b : Int) : Con Try.prog 55 [.agg [.v (.int .i64 x), .v (.int .u64 v), .v (.bool f)], vN .i64 b] [rN .i64 (cmpI x b)] := by
  have h := k_cache_find_1 ⟨x, v, f⟩ b
  unfold cmpI
  exact h
set_option maxHeartbeats 4000000 in
set_option maxRecDepth 10000 in
theorem k_slices_BinarySearchFunc (l : List Dty) (a : Int) (hl : l.length ≤ 1000000) (hs : Srt l) : Con Try.prog 54 [sD l, vN .i64 a, .one (.v (.func (.func 55) #[] #[]))] [rN .i64 (lb l a), rB (hasAt l a)] := by
  refine con_of_awp hmix Try.func54 s54 rfl (by rw [n54]; simp) r54 n54 ?_
  simp only [Eng.start, startFr, inX, sN, vN, List.map_cons, List.map_nil, devA, devC, dtyD, sD, c54]
  (repeat' (first
    | (apply RegA.op (hd := rfl); (first | exact trivial | rfl | exact congrArg some ‹_› | (focus (simp (disch := omega) only [gOk, boolV, lk_nil, lk_cons, ↓reduceIte, Nat.reduceEqDiff, decide_true, decide_false]; done))); (simp (disch := omega) only [binX, List.replicate_succ, List.set_cons_zero, List.set_cons_succ, List.drop_replicate, Nat.sub_self, List.length_replicate, true_or, or_true, or_false, List.replicate_zero, List.nil_append, List.append_nil, maxLen, List.length_append, List.length_take, List.length_drop, Nat.min_self, List.take_length, Option.getD_some, Option.getD_none, Option.isSome_some, Option.isSome_none, forall_const, Bool.false_eq_true, false_implies, imp_self, implies_true, decide_true, decide_false, dropMap, takeMap, effect, callEff, evO, evP, evL, argL, argX, dataL, plain, plainC, plainL, lk_nil, lk_cons, one, vv, one1, isNil, binV, unV, cvV, load1, store1, fieldOf, cellsOf, cellsAt_ptr, cellsAt_eptr, cellsAt_cptr, asVal, shift_ptr, shift_eptr, shift_cptr, partOf, dataC_d, dataC_own, dataC_view, elemsC, app1, cop1, len1, mslice1, bslice1, rowsA, build1, fillA, idx1, index1, slice1, optInt, addrAt, cutC, putAt_ptr, putAt_eptr, allD, dv, spl, boolV, Option.map_some, Option.bind_some, Option.map_none, Option.bind_none, ↓reduceIte, Bool.not_true, Bool.not_false, Bool.false_eq_true, and_true, true_and, Option.some.injEq, List.length_map, Nat.reduceEqDiff, Nat.reduceLeDiff, Nat.reduceAdd, Int.reduceLT, Int.reduceLE, Int.reduceToNat, Int.toNat_natCast, List.length_cons, List.length_nil, List.take_succ_cons, List.take_zero, List.drop_zero, List.map_cons, List.map_nil, Nat.zero_add, Nat.le_refl, List.getD_cons_zero, List.getD_cons_succ, List.drop_succ_cons, List.drop_nil, getD_num, ite_and, ite_le, ite_lt, ite_eq, ite_lei, ite_lti, ite_nei, IntWalk.i64_in, bt4, ti3, ti4, ti22, ti23, ti25, ti26, ti28, ti30, ti60, ti61, ti63, ti96, getD_dty, tdiv8, tmod8, takeAll, takeDropAll, toNatAdd, toNatSub]; first | rfl | done); simp (disch := omega) only [List.length_replicate, List.length_map, Nat.reduceBEq, Bool.not_false, Bool.not_true, ↓reduceIte, Bool.false_eq_true, BEq.rfl, put1, skip1, frOf, know, vv, one, del, decide_true, decide_false, List.filter_cons, List.filter_nil, List.nil_append, List.cons_append, Nat.reduceAdd, Nat.add_zero])
    | (refine RegA.off1 rfl rfl ?_; simp (disch := omega) only [List.length_replicate, List.length_map, Nat.reduceBEq, Bool.not_false, Bool.not_true, ↓reduceIte, Bool.false_eq_true, BEq.rfl, put1, skip1, frOf, know, vv, one, del, decide_true, decide_false, List.filter_cons, List.filter_nil, List.nil_append, List.cons_append, Nat.reduceAdd, Nat.add_zero])
    | (refine RegA.off2 rfl rfl ?_; simp (disch := omega) only [List.length_replicate, List.length_map, Nat.reduceBEq, Bool.not_false, Bool.not_true, ↓reduceIte, Bool.false_eq_true, BEq.rfl, put1, skip1, frOf, know, vv, one, del, decide_true, decide_false, List.filter_cons, List.filter_nil, List.nil_append, List.cons_append, Nat.reduceAdd, Nat.add_zero])
    | (refine RegA.split rfl ?_ ?_ <;> (intro hsp; (try simp only [Bool.not_eq_true', Bool.not_eq_false', decide_eq_true_eq, decide_eq_false_iff_not, Decidable.not_not, Int.not_lt, Int.not_le, Int.natCast_inj, Bool.and_eq_true, Bool.or_eq_true, Bool.not_not, ne_eq, Bool.false_eq_true, Bool.true_eq_false] at hsp); revert hsp; intro hsp; simp (disch := omega) only [List.length_replicate, List.length_map, Nat.reduceBEq, Bool.not_false, Bool.not_true, ↓reduceIte, Bool.false_eq_true, BEq.rfl, put1, skip1, frOf, know, vv, one, del, decide_true, decide_false, List.filter_cons, List.filter_nil, List.nil_append, List.cons_append, Nat.reduceAdd, Nat.add_zero]))
    | (refine RegA.done ‹_› ?_)
    | (refine awp_seq fun K hK => ?_)
    | (refine Awp.reg ?_)
    | (refine Awp.skip ?_)
    | (refine Awp.block ?_)
    | (refine Awp.scope ?_)
    | (refine Awp.ct rfl ?_)
    | (refine Awp.cf rfl ?_)
    | (refine Awp.ct (congrArg some (congrArg Value.bool ?_)) ?_; focus (simp (disch := omega) only [decide_eq_true_eq, decide_eq_false_iff_not, Bool.not_eq_true', Bool.not_eq_false', decide_true, decide_false, Bool.not_true, Bool.not_false, getD_num, ite_and, ite_le, ite_lt, ite_eq, ite_lei, ite_lti, ite_nei, IntWalk.i64_in, bt4, ti3, ti4, ti22, ti23, ti25, ti26, ti28, ti30, ti60, ti61, ti63, ti96, getD_dty, tdiv8, tmod8, takeAll, takeDropAll, toNatAdd, toNatSub]; done))
    | (refine Awp.cf (congrArg some (congrArg Value.bool ?_)) ?_; focus (simp (disch := omega) only [decide_eq_true_eq, decide_eq_false_iff_not, Bool.not_eq_true', Bool.not_eq_false', decide_true, decide_false, Bool.not_true, Bool.not_false, getD_num, ite_and, ite_le, ite_lt, ite_eq, ite_lei, ite_lti, ite_nei, IntWalk.i64_in, bt4, ti3, ti4, ti22, ti23, ti25, ti26, ti28, ti30, ti60, ti61, ti63, ti96, getD_dty, tdiv8, tmod8, takeAll, takeDropAll, toNatAdd, toNatSub]; done))
    | (refine Awp.cond rfl ?_ ?_ <;> (intro hsp; (try simp only [Bool.not_eq_true', Bool.not_eq_false', decide_eq_true_eq, decide_eq_false_iff_not, Decidable.not_not, Int.not_lt, Int.not_le, Int.natCast_inj, Bool.and_eq_true, Bool.or_eq_true, Bool.not_not, ne_eq] at hsp)))
    | (refine Awp.exit ?_; simp only [blockQ, thenQ, scopeQ, ↓reduceIte, Nat.reduceEqDiff])
    | (refine viaK ‹_› ?_)
    | (simp only [thenQ_normal, blockQ_normal])))
  refine Awp.loopK (α := {p : Nat × Nat // p.1 ≤ p.2 ∧ p.2 ≤ l.length ∧ (∀ k, k < p.1 → (l.getD k default).at_ < a) ∧ (∀ k, p.2 ≤ k → k < l.length → a ≤ (l.getD k default).at_)}) (fun x => [(9, vv (.int .i64 (x.1.1 : Int))), (10, vv (.int .i64 (x.1.2 : Int)))]) (fun x => []) [0, 1, 2, 6, 7, 8] [] (fun x => x.1.2 - x.1.1) ⟨(0, l.length), by simp, by simp, by simp, fun k h h' => by simp at h; omega⟩ [] (by simp only [List.filterMap_cons, List.filterMap_nil, lk_nil, lk_cons, ↓reduceIte, Nat.reduceEqDiff, Option.map_some, Option.map_none]; rfl) (by simp only [List.filterMap_cons, List.filterMap_nil, lk_nil, lk_cons, ↓reduceIte, Nat.reduceEqDiff, Option.map_some, Option.map_none]; rfl) rfl rfl ?_ ?_
  · simp only [Wk, frIn, hpIn, lk_nil, lk_cons, renV, renX, renC, belV, belX, belC, belL, List.cons_append, List.nil_append, ↓reduceIte, Nat.reduceEqDiff, and_self, and_true, true_and] <;> simp [-List.getD_eq_getElem?_getD, vv, one, renV, renX, renC, belV, belX, belC, belL, rho, renO, belO, lk_nil, lk_cons]
  · rintro ⟨⟨i, j⟩, hij, hj, h1, h2⟩
    have hij' : i ≤ j := hij
    have hj' : j ≤ l.length := hj
    obtain ⟨h, hh⟩ : ∃ h : Nat, ((i : Int) + (j : Int)) / 2 = (h : Int) := ⟨(i + j) / 2, by omega⟩
    simp only [vv, one, List.cons_append, List.nil_append]
    (repeat' (first
      | (apply RegA.callD 55 false (hd := rfl); (first | exact trivial | rfl | exact congrArg some ‹_› | (focus (simp (disch := omega) only [gOk, boolV, lk_nil, lk_cons, ↓reduceIte, Nat.reduceEqDiff, decide_true, decide_false]; done))); ((simp only [evP, evO, lk_nil, lk_cons, ↓reduceIte, Nat.reduceEqDiff, plain, plainC, Option.bind_some, one, vv])); (simp only [lk_nil, lk_cons, evL, evO, one, vv, ↓reduceIte, Nat.reduceEqDiff]; first | rfl | done); (simp (disch := omega) only [lk_nil, lk_cons, argL, argX, dataL, dataC_d, dataC_own, dataC_view, one, vv, ↓reduceIte, Nat.reduceEqDiff, Option.map_some, List.length_map, List.length_cons, List.length_nil, List.length_append, List.length_set, ite_eq, ite_and, and_self, true_and, and_true, Nat.le_refl, Nat.zero_add, takeMap, dropMap, List.map_cons, List.map_nil, numD, cv_3_96, cv_96_3, u64_small, shr_one, hh]; first | rfl | done); (exact k_find_1 _ _ _ _); (exact .inr (by first | (simp [Flat, RXFlat, RCFlat, DFlat, rN, rB]; done) | exact flat_dev2 _ _ _ | exact flat_dev1 _ | exact flat_img2 _ _ _)); simp (disch := omega) only [List.length_replicate, List.length_map, Nat.reduceBEq, Bool.not_false, Bool.not_true, ↓reduceIte, Bool.false_eq_true, BEq.rfl, put1, skip1, frOf, know, vv, one, del, decide_true, decide_false, List.filter_cons, List.filter_nil, List.nil_append, List.cons_append, Nat.reduceAdd, Nat.add_zero]; simp only [callHp, frz, unV', unX, unXs, unC, unL, List.flatMap_cons, List.flatMap_nil, idsX, idsC, List.append_nil, ↓reduceIte, Bool.false_eq_true, List.nil_append, List.cons_append, lk_nil, lk_cons, Nat.reduceEqDiff, Nat.reduceAdd, List.length_map, List.length_cons, List.length_nil, rB, rN, rO, rDev, dtyD])
      | (apply RegA.op (hd := rfl); (first | exact trivial | rfl | exact congrArg some ‹_› | (focus (simp (disch := omega) only [gOk, boolV, lk_nil, lk_cons, ↓reduceIte, Nat.reduceEqDiff, decide_true, decide_false]; done))); (simp (disch := omega) only [binX, List.replicate_succ, List.set_cons_zero, List.set_cons_succ, List.drop_replicate, Nat.sub_self, List.length_replicate, true_or, or_true, or_false, List.replicate_zero, List.nil_append, List.append_nil, maxLen, List.length_append, List.length_take, List.length_drop, Nat.min_self, List.take_length, Option.getD_some, Option.getD_none, Option.isSome_some, Option.isSome_none, forall_const, Bool.false_eq_true, false_implies, imp_self, implies_true, decide_true, decide_false, dropMap, takeMap, effect, callEff, evO, evP, evL, argL, argX, dataL, plain, plainC, plainL, lk_nil, lk_cons, one, vv, one1, isNil, binV, unV, cvV, load1, store1, fieldOf, cellsOf, cellsAt_ptr, cellsAt_eptr, cellsAt_cptr, asVal, shift_ptr, shift_eptr, shift_cptr, partOf, dataC_d, dataC_own, dataC_view, elemsC, app1, cop1, len1, mslice1, bslice1, rowsA, build1, fillA, idx1, index1, slice1, optInt, addrAt, cutC, putAt_ptr, putAt_eptr, allD, dv, spl, boolV, Option.map_some, Option.bind_some, Option.map_none, Option.bind_none, ↓reduceIte, Bool.not_true, Bool.not_false, Bool.false_eq_true, and_true, true_and, Option.some.injEq, List.length_map, Nat.reduceEqDiff, Nat.reduceLeDiff, Nat.reduceAdd, Int.reduceLT, Int.reduceLE, Int.reduceToNat, Int.toNat_natCast, List.length_cons, List.length_nil, List.take_succ_cons, List.take_zero, List.drop_zero, List.map_cons, List.map_nil, Nat.zero_add, Nat.le_refl, List.getD_cons_zero, List.getD_cons_succ, List.drop_succ_cons, List.drop_nil, getD_num, ite_and, ite_le, ite_lt, ite_eq, ite_lei, ite_lti, ite_nei, IntWalk.i64_in, bt4, ti3, ti4, ti22, ti23, ti25, ti26, ti28, ti30, ti60, ti61, ti63, ti96, getD_dty, tdiv8, tmod8, takeAll, takeDropAll, toNatAdd, toNatSub, cv_3_96, cv_96_3, u64_small, shr_one, hh]; first | rfl | done); simp (disch := omega) only [List.length_replicate, List.length_map, Nat.reduceBEq, Bool.not_false, Bool.not_true, ↓reduceIte, Bool.false_eq_true, BEq.rfl, put1, skip1, frOf, know, vv, one, del, decide_true, decide_false, List.filter_cons, List.filter_nil, List.nil_append, List.cons_append, Nat.reduceAdd, Nat.add_zero])
      | (refine RegA.off1 rfl rfl ?_; simp (disch := omega) only [List.length_replicate, List.length_map, Nat.reduceBEq, Bool.not_false, Bool.not_true, ↓reduceIte, Bool.false_eq_true, BEq.rfl, put1, skip1, frOf, know, vv, one, del, decide_true, decide_false, List.filter_cons, List.filter_nil, List.nil_append, List.cons_append, Nat.reduceAdd, Nat.add_zero])
      | (refine RegA.off2 rfl rfl ?_; simp (disch := omega) only [List.length_replicate, List.length_map, Nat.reduceBEq, Bool.not_false, Bool.not_true, ↓reduceIte, Bool.false_eq_true, BEq.rfl, put1, skip1, frOf, know, vv, one, del, decide_true, decide_false, List.filter_cons, List.filter_nil, List.nil_append, List.cons_append, Nat.reduceAdd, Nat.add_zero])
      | (refine RegA.split rfl ?_ ?_ <;> (intro hsp; (try simp only [Bool.not_eq_true', Bool.not_eq_false', decide_eq_true_eq, decide_eq_false_iff_not, Decidable.not_not, Int.not_lt, Int.not_le, Int.natCast_inj, Bool.and_eq_true, Bool.or_eq_true, Bool.not_not, ne_eq, Bool.false_eq_true, Bool.true_eq_false] at hsp); revert hsp; intro hsp; simp (disch := omega) only [List.length_replicate, List.length_map, Nat.reduceBEq, Bool.not_false, Bool.not_true, ↓reduceIte, Bool.false_eq_true, BEq.rfl, put1, skip1, frOf, know, vv, one, del, decide_true, decide_false, List.filter_cons, List.filter_nil, List.nil_append, List.cons_append, Nat.reduceAdd, Nat.add_zero]))
      | (refine RegA.done ‹_› ?_)
      | (refine awp_seq fun K hK => ?_)
      | (refine Awp.reg ?_)
      | (refine Awp.skip ?_)
      | (refine Awp.block ?_)
      | (refine Awp.scope ?_)
      | (refine Awp.ct rfl ?_)
      | (refine Awp.cf rfl ?_)
      | (refine Awp.ct (congrArg some (congrArg Value.bool ?_)) ?_; focus (simp (disch := omega) only [decide_eq_true_eq, decide_eq_false_iff_not, Bool.not_eq_true', Bool.not_eq_false', decide_true, decide_false, Bool.not_true, Bool.not_false, getD_num, ite_and, ite_le, ite_lt, ite_eq, ite_lei, ite_lti, ite_nei, IntWalk.i64_in, bt4, ti3, ti4, ti22, ti23, ti25, ti26, ti28, ti30, ti60, ti61, ti63, ti96, getD_dty, tdiv8, tmod8, takeAll, takeDropAll, toNatAdd, toNatSub, cv_3_96, cv_96_3, u64_small, shr_one, hh]; done))
      | (refine Awp.cf (congrArg some (congrArg Value.bool ?_)) ?_; focus (simp (disch := omega) only [decide_eq_true_eq, decide_eq_false_iff_not, Bool.not_eq_true', Bool.not_eq_false', decide_true, decide_false, Bool.not_true, Bool.not_false, getD_num, ite_and, ite_le, ite_lt, ite_eq, ite_lei, ite_lti, ite_nei, IntWalk.i64_in, bt4, ti3, ti4, ti22, ti23, ti25, ti26, ti28, ti30, ti60, ti61, ti63, ti96, getD_dty, tdiv8, tmod8, takeAll, takeDropAll, toNatAdd, toNatSub, cv_3_96, cv_96_3, u64_small, shr_one, hh]; done))
      | (refine Awp.cond rfl ?_ ?_ <;> (intro hsp; (try simp only [Bool.not_eq_true', Bool.not_eq_false', decide_eq_true_eq, decide_eq_false_iff_not, Decidable.not_not, Int.not_lt, Int.not_le, Int.natCast_inj, Bool.and_eq_true, Bool.or_eq_true, Bool.not_not, ne_eq] at hsp)))
      | (refine Awp.exit ?_; simp only [blockQ, thenQ, scopeQ, ↓reduceIte, Nat.reduceEqDiff])
      | (refine viaK ‹_› ?_)
      | (simp only [thenQ_normal, blockQ_normal])))
    · have hm : ∀ k, k < h + 1 → (l.getD k default).at_ < a := fun k hk => by
        have hx := (cmpI_lt _ _).1 hsp
        rcases Nat.lt_or_ge k h with h' | h'
        · have := hs k h h' (by omega); omega
        · rw [show k = h by omega]; exact hx
      refine RegA.nil ⟨⟨(h + 1, j), by simp only []; omega, hj, hm, h2⟩, [], ?_, ?_⟩
      · simp only [Wk, frIn, hpIn, lk_nil, lk_cons, renV, renX, renC, belV, belX, belC, belL, List.cons_append, List.nil_append, ↓reduceIte, Nat.reduceEqDiff, and_self, and_true, true_and] <;> simp [-List.getD_eq_getElem?_getD, vv, one, renV, renX, renC, belV, belX, belC, belL, rho, renO, belO, lk_nil, lk_cons]
      · (simp only []; omega)
    · have hm : ∀ k, h ≤ k → k < l.length → a ≤ (l.getD k default).at_ := fun k hk hk' => by
        have hx : a ≤ (l.getD h default).at_ := by have := cmpI_lt (l.getD h default).at_ a; omega
        rcases Nat.lt_or_ge h k with h' | h'
        · have := hs h k h' hk'; omega
        · rw [show k = h by omega]; exact hx
      refine RegA.nil ⟨⟨(i, h), by simp only []; omega, by simp only []; omega, h1, hm⟩, [], ?_, ?_⟩
      · simp only [Wk, frIn, hpIn, lk_nil, lk_cons, renV, renX, renC, belV, belX, belC, belL, List.cons_append, List.nil_append, ↓reduceIte, Nat.reduceEqDiff, and_self, and_true, true_and] <;> simp [-List.getD_eq_getElem?_getD, vv, one, renV, renX, renC, belV, belX, belC, belL, rho, renO, belO, lk_nil, lk_cons]
      · (simp only []; omega)
    · have e : lb l a = i := lb_eq (by omega) h1 (fun k hk hk' => h2 k (by simp only []; omega) hk')
      have e2 : hasAt l a = decide (cmpI (l.getD i default).at_ a = 0) := by
        unfold hasAt; rw [e, decide_eq_true (by omega : i < l.length), Bool.true_and]
        exact decide_eq_decide.2 (cmpI_eq _ _).symm
      (refine Awp.ret ?_; apply ret_of (.inl rfl); rfl; (simp (disch := omega) only [outXs, outX, outC, outL, lk_nil, lk_cons, ↓reduceIte, Nat.reduceEqDiff, List.length_map, List.length_nil, List.length_replicate, List.length_cons, List.length_take, List.length_drop, List.length_append, List.length_set, ite_eq, Option.map_some, Bool.false_eq_true]; rfl); (focus simp [ownsX, ownsC]); (simp [-List.getD_eq_getElem?_getD, laxR, laxX, laxC, laxCs, rB, rN, rO, rDev, dtyD, e, e2] <;> (intros; omega)))
    · have e : lb l a = i := lb_eq (by omega) h1 (fun k hk hk' => h2 k (by simp only []; omega) hk')
      have e2 : hasAt l a = false := by
        unfold hasAt; rw [e, decide_eq_false (by omega : ¬ i < l.length), Bool.false_and]
      (refine Awp.ret ?_; apply ret_of (.inl rfl); rfl; (simp (disch := omega) only [outXs, outX, outC, outL, lk_nil, lk_cons, ↓reduceIte, Nat.reduceEqDiff, List.length_map, List.length_nil, List.length_replicate, List.length_cons, List.length_take, List.length_drop, List.length_append, List.length_set, ite_eq, Option.map_some, Bool.false_eq_true]; rfl); (focus simp [ownsX, ownsC]); (simp [-List.getD_eq_getElem?_getD, laxR, laxX, laxC, laxCs, rB, rN, rO, rDev, dtyD, e, e2] <;> (intros; omega)))
set_option maxHeartbeats 4000000 in
set_option maxRecDepth 10000 in
theorem k_cache_find (l : List Dty) (a : Int) (hl : l.length ≤ 1000000) (hs : Srt l) : Con Try.prog 38 [sD l, vN .i64 a] [rN .i64 (lb l a), rB (hasAt l a)] := by
  refine con_of_awp hmix Try.func38 s38 rfl (by rw [n38]; simp) r38 n38 ?_
  simp only [Eng.start, startFr, inX, sN, vN, List.map_cons, List.map_nil, devA, devC, dtyD, sD, c38]
  (repeat' (first
    | (apply RegA.callD 54 false (hd := rfl); (first | exact trivial | rfl | exact congrArg some ‹_› | (focus (simp (disch := omega) only [gOk, boolV, lk_nil, lk_cons, ↓reduceIte, Nat.reduceEqDiff, decide_true, decide_false]; done))); (rfl); (simp only [lk_nil, lk_cons, evL, evO, one, vv, ↓reduceIte, Nat.reduceEqDiff]; first | rfl | done); (simp (disch := omega) only [lk_nil, lk_cons, argL, argX, dataL, dataC_d, dataC_own, dataC_view, one, vv, ↓reduceIte, Nat.reduceEqDiff, Option.map_some, List.length_map, List.length_cons, List.length_nil, List.length_append, List.length_set, ite_eq, ite_and, and_self, true_and, and_true, Nat.le_refl, Nat.zero_add, takeMap, dropMap, List.map_cons, List.map_nil, numD]; first | rfl | done); (exact k_slices_BinarySearchFunc _ _ (by omega) hs); (exact .inr (by first | (simp [Flat, RXFlat, RCFlat, DFlat, rN, rB]; done) | exact flat_dev2 _ _ _ | exact flat_dev1 _ | exact flat_img2 _ _ _)); simp (disch := omega) only [List.length_replicate, List.length_map, Nat.reduceBEq, Bool.not_false, Bool.not_true, ↓reduceIte, Bool.false_eq_true, BEq.rfl, put1, skip1, frOf, know, vv, one, del, decide_true, decide_false, List.filter_cons, List.filter_nil, List.nil_append, List.cons_append, Nat.reduceAdd, Nat.add_zero]; simp only [callHp, frz, unV', unX, unXs, unC, unL, List.flatMap_cons, List.flatMap_nil, idsX, idsC, List.append_nil, ↓reduceIte, Bool.false_eq_true, List.nil_append, List.cons_append, lk_nil, lk_cons, Nat.reduceEqDiff, Nat.reduceAdd, List.length_map, List.length_cons, List.length_nil, rB, rN, rO, rDev, dtyD])
    | (apply RegA.op (hd := rfl); (first | exact trivial | rfl | exact congrArg some ‹_› | (focus (simp (disch := omega) only [gOk, boolV, lk_nil, lk_cons, ↓reduceIte, Nat.reduceEqDiff, decide_true, decide_false]; done))); (simp (disch := omega) only [binX, List.replicate_succ, List.set_cons_zero, List.set_cons_succ, List.drop_replicate, Nat.sub_self, List.length_replicate, true_or, or_true, or_false, List.replicate_zero, List.nil_append, List.append_nil, maxLen, List.length_append, List.length_take, List.length_drop, Nat.min_self, List.take_length, Option.getD_some, Option.getD_none, Option.isSome_some, Option.isSome_none, forall_const, Bool.false_eq_true, false_implies, imp_self, implies_true, decide_true, decide_false, dropMap, takeMap, effect, callEff, evO, evP, evL, argL, argX, dataL, plain, plainC, plainL, lk_nil, lk_cons, one, vv, one1, isNil, binV, unV, cvV, load1, store1, fieldOf, cellsOf, cellsAt_ptr, cellsAt_eptr, cellsAt_cptr, asVal, shift_ptr, shift_eptr, shift_cptr, partOf, dataC_d, dataC_own, dataC_view, elemsC, app1, cop1, len1, mslice1, bslice1, rowsA, build1, fillA, idx1, index1, slice1, optInt, addrAt, cutC, putAt_ptr, putAt_eptr, allD, dv, spl, boolV, Option.map_some, Option.bind_some, Option.map_none, Option.bind_none, ↓reduceIte, Bool.not_true, Bool.not_false, Bool.false_eq_true, and_true, true_and, Option.some.injEq, List.length_map, Nat.reduceEqDiff, Nat.reduceLeDiff, Nat.reduceAdd, Int.reduceLT, Int.reduceLE, Int.reduceToNat, Int.toNat_natCast, List.length_cons, List.length_nil, List.take_succ_cons, List.take_zero, List.drop_zero, List.map_cons, List.map_nil, Nat.zero_add, Nat.le_refl, List.getD_cons_zero, List.getD_cons_succ, List.drop_succ_cons, List.drop_nil, getD_num, ite_and, ite_le, ite_lt, ite_eq, ite_lei, ite_lti, ite_nei, IntWalk.i64_in, bt4, ti3, ti4, ti22, ti23, ti25, ti26, ti28, ti30, ti60, ti61, ti63, ti96, getD_dty, tdiv8, tmod8, takeAll, takeDropAll, toNatAdd, toNatSub]; first | rfl | done); simp (disch := omega) only [List.length_replicate, List.length_map, Nat.reduceBEq, Bool.not_false, Bool.not_true, ↓reduceIte, Bool.false_eq_true, BEq.rfl, put1, skip1, frOf, know, vv, one, del, decide_true, decide_false, List.filter_cons, List.filter_nil, List.nil_append, List.cons_append, Nat.reduceAdd, Nat.add_zero])
    | (refine RegA.off1 rfl rfl ?_; simp (disch := omega) only [List.length_replicate, List.length_map, Nat.reduceBEq, Bool.not_false, Bool.not_true, ↓reduceIte, Bool.false_eq_true, BEq.rfl, put1, skip1, frOf, know, vv, one, del, decide_true, decide_false, List.filter_cons, List.filter_nil, List.nil_append, List.cons_append, Nat.reduceAdd, Nat.add_zero])
    | (refine RegA.off2 rfl rfl ?_; simp (disch := omega) only [List.length_replicate, List.length_map, Nat.reduceBEq, Bool.not_false, Bool.not_true, ↓reduceIte, Bool.false_eq_true, BEq.rfl, put1, skip1, frOf, know, vv, one, del, decide_true, decide_false, List.filter_cons, List.filter_nil, List.nil_append, List.cons_append, Nat.reduceAdd, Nat.add_zero])
    | (refine RegA.split rfl ?_ ?_ <;> (intro hsp; (try simp only [Bool.not_eq_true', Bool.not_eq_false', decide_eq_true_eq, decide_eq_false_iff_not, Decidable.not_not, Int.not_lt, Int.not_le, Int.natCast_inj, Bool.and_eq_true, Bool.or_eq_true, Bool.not_not, ne_eq, Bool.false_eq_true, Bool.true_eq_false] at hsp); revert hsp; intro hsp; simp (disch := omega) only [List.length_replicate, List.length_map, Nat.reduceBEq, Bool.not_false, Bool.not_true, ↓reduceIte, Bool.false_eq_true, BEq.rfl, put1, skip1, frOf, know, vv, one, del, decide_true, decide_false, List.filter_cons, List.filter_nil, List.nil_append, List.cons_append, Nat.reduceAdd, Nat.add_zero]))
    | (refine RegA.done ‹_› ?_)
    | (refine awp_seq fun K hK => ?_)
    | (refine Awp.reg ?_)
    | (refine Awp.skip ?_)
    | (refine Awp.block ?_)
    | (refine Awp.scope ?_)
    | (refine Awp.ct rfl ?_)
    | (refine Awp.cf rfl ?_)
    | (refine Awp.ct (congrArg some (congrArg Value.bool ?_)) ?_; focus (simp (disch := omega) only [decide_eq_true_eq, decide_eq_false_iff_not, Bool.not_eq_true', Bool.not_eq_false', decide_true, decide_false, Bool.not_true, Bool.not_false, getD_num, ite_and, ite_le, ite_lt, ite_eq, ite_lei, ite_lti, ite_nei, IntWalk.i64_in, bt4, ti3, ti4, ti22, ti23, ti25, ti26, ti28, ti30, ti60, ti61, ti63, ti96, getD_dty, tdiv8, tmod8, takeAll, takeDropAll, toNatAdd, toNatSub]; done))
    | (refine Awp.cf (congrArg some (congrArg Value.bool ?_)) ?_; focus (simp (disch := omega) only [decide_eq_true_eq, decide_eq_false_iff_not, Bool.not_eq_true', Bool.not_eq_false', decide_true, decide_false, Bool.not_true, Bool.not_false, getD_num, ite_and, ite_le, ite_lt, ite_eq, ite_lei, ite_lti, ite_nei, IntWalk.i64_in, bt4, ti3, ti4, ti22, ti23, ti25, ti26, ti28, ti30, ti60, ti61, ti63, ti96, getD_dty, tdiv8, tmod8, takeAll, takeDropAll, toNatAdd, toNatSub]; done))
    | (refine Awp.cond rfl ?_ ?_ <;> (intro hsp; (try simp only [Bool.not_eq_true', Bool.not_eq_false', decide_eq_true_eq, decide_eq_false_iff_not, Decidable.not_not, Int.not_lt, Int.not_le, Int.natCast_inj, Bool.and_eq_true, Bool.or_eq_true, Bool.not_not, ne_eq] at hsp)))
    | (refine Awp.exit ?_; simp only [blockQ, thenQ, scopeQ, ↓reduceIte, Nat.reduceEqDiff])
    | (refine viaK ‹_› ?_)
    | (simp only [thenQ_normal, blockQ_normal])))
  all_goals (refine Awp.ret ?_; apply ret_of (.inl rfl); rfl; (simp (disch := omega) only [outXs, outX, outC, outL, lk_nil, lk_cons, ↓reduceIte, Nat.reduceEqDiff, List.length_map, List.length_nil, List.length_replicate, List.length_cons, List.length_take, List.length_drop, List.length_append, List.length_set, ite_eq, Option.map_some, Bool.false_eq_true]; rfl); (focus simp [ownsX, ownsC]); (simp [-List.getD_eq_getElem?_getD, laxR, laxX, laxC, laxCs, rB, rN, rO, rDev, dtyD] <;> (intros; omega)))

def words (d : Dev) : List Int := d.dirty.foldl (fun m x => m.set x.at_.toNat x.v) d.img
def wordAt (d : Dev) (a : Int) : Int := if hasAt d.dirty a then (d.dirty.getD (lb d.dirty a) default).v else d.img.getD a.toNat 0
@[irreducible] def loadV (d : Dev) (a : Int) : Int := if asked d a = 0 then wordAt d a else 0
@[irreducible] def viewL (d : Dev) : List Int := if chkD d = 0 then words d else []
theorem asked_chk {d : Dev} {a : Int} (h : asked d a = 0) : chkD d = 0 ∧ 0 ≤ a ∧ a < d.img.length := by
  unfold asked at h
  split at h
  · rename_i h1
    split at h
    · rename_i h2; exact ⟨h1, h2⟩
    · omega
  · omega
theorem setAll_len (l : List Dty) : ∀ m : List Int, (l.foldl (fun m x => m.set x.at_.toNat x.v) m).length = m.length := by
  induction l with
  | nil => intro m; rfl
  | cons x r ih => intro m; rw [List.foldl_cons, ih]; simp
theorem words_len (d : Dev) : (words d).length = d.img.length := setAll_len _ _

theorem hasAt_lt {l : List Dty} {a : Int} (h : hasAt l a = true) : lb l a < l.length := by
  unfold hasAt at h
  simp only [Bool.and_eq_true, decide_eq_true_eq] at h
  exact h.1
set_option maxHeartbeats 4000000 in
set_option maxRecDepth 10000 in
theorem k_cache_Load (d : Dev) (a : Int) (hm : d.img.length ≤ 1000000) (hl : d.dirty.length ≤ 1000000) (ha : -9223372036854775808 ≤ a ∧ a ≤ 9223372036854775807) : Con Try.prog 11 [devA d, vN .i64 a] [rN .u64 (loadV d a), rN .i64 (asked d a)] := by
  have hk : asked d a = 0 → 0 ≤ a ∧ a < d.img.length := fun h => (asked_chk h).2
  refine con_of_awp hmix Try.func11 s11 rfl (by rw [n11]; simp) r11 n11 ?_
  simp only [Eng.start, startFr, inX, sN, vN, List.map_cons, List.map_nil, devA, devC, dtyD, sD, c11]
  (repeat' (first
    | (apply RegA.callD 37 false (hd := rfl); (first | exact trivial | rfl | exact congrArg some ‹_› | (focus (simp (disch := omega) only [gOk, boolV, lk_nil, lk_cons, ↓reduceIte, Nat.reduceEqDiff, decide_true, decide_false]; done))); (rfl); (simp only [lk_nil, lk_cons, evL, evO, one, vv, ↓reduceIte, Nat.reduceEqDiff]; first | rfl | done); (simp (disch := omega) only [lk_nil, lk_cons, argL, argX, dataL, dataC_d, dataC_own, dataC_view, one, vv, ↓reduceIte, Nat.reduceEqDiff, Option.map_some, List.length_map, List.length_cons, List.length_nil, List.length_append, List.length_set, ite_eq, ite_and, and_self, true_and, and_true, Nat.le_refl, Nat.zero_add, takeMap, dropMap, List.map_cons, List.map_nil, numD]; first | rfl | done); (exact k_cache_lineStart _ _ (by omega) (by omega) (by omega)); (exact .inr (by first | (simp [Flat, RXFlat, RCFlat, DFlat, rN, rB]; done) | exact flat_dev2 _ _ _ | exact flat_dev1 _ | exact flat_img2 _ _ _)); simp (disch := omega) only [List.length_replicate, List.length_map, Nat.reduceBEq, Bool.not_false, Bool.not_true, ↓reduceIte, Bool.false_eq_true, BEq.rfl, put1, skip1, frOf, know, vv, one, del, decide_true, decide_false, List.filter_cons, List.filter_nil, List.nil_append, List.cons_append, Nat.reduceAdd, Nat.add_zero]; simp only [callHp, frz, unV', unX, unXs, unC, unL, List.flatMap_cons, List.flatMap_nil, idsX, idsC, List.append_nil, ↓reduceIte, Bool.false_eq_true, List.nil_append, List.cons_append, lk_nil, lk_cons, Nat.reduceEqDiff, Nat.reduceAdd, List.length_map, List.length_cons, List.length_nil, rB, rN, rO, rDev, dtyD])
    | (apply RegA.callD 38 false (hd := rfl); (first | exact trivial | rfl | exact congrArg some ‹_› | (focus (simp (disch := omega) only [gOk, boolV, lk_nil, lk_cons, ↓reduceIte, Nat.reduceEqDiff, decide_true, decide_false]; done))); (rfl); (simp only [lk_nil, lk_cons, evL, evO, one, vv, ↓reduceIte, Nat.reduceEqDiff]; first | rfl | done); (simp (disch := omega) only [lk_nil, lk_cons, argL, argX, dataL, dataC_d, dataC_own, dataC_view, one, vv, ↓reduceIte, Nat.reduceEqDiff, Option.map_some, List.length_map, List.length_cons, List.length_nil, List.length_append, List.length_set, ite_eq, ite_and, and_self, true_and, and_true, Nat.le_refl, Nat.zero_add, takeMap, dropMap, List.map_cons, List.map_nil, numD]; first | rfl | done); (exact k_cache_find _ _ (by omega) (devOk_all (asked_chk ‹asked d a = 0›).1).2); (exact .inr (by first | (simp [Flat, RXFlat, RCFlat, DFlat, rN, rB]; done) | exact flat_dev2 _ _ _ | exact flat_dev1 _ | exact flat_img2 _ _ _)); simp (disch := omega) only [List.length_replicate, List.length_map, Nat.reduceBEq, Bool.not_false, Bool.not_true, ↓reduceIte, Bool.false_eq_true, BEq.rfl, put1, skip1, frOf, know, vv, one, del, decide_true, decide_false, List.filter_cons, List.filter_nil, List.nil_append, List.cons_append, Nat.reduceAdd, Nat.add_zero]; simp only [callHp, frz, unV', unX, unXs, unC, unL, List.flatMap_cons, List.flatMap_nil, idsX, idsC, List.append_nil, ↓reduceIte, Bool.false_eq_true, List.nil_append, List.cons_append, lk_nil, lk_cons, Nat.reduceEqDiff, Nat.reduceAdd, List.length_map, List.length_cons, List.length_nil, rB, rN, rO, rDev, dtyD])
    | (apply RegA.op (hd := rfl); (first | exact trivial | rfl | exact congrArg some ‹_› | (focus (simp (disch := omega) only [gOk, boolV, lk_nil, lk_cons, ↓reduceIte, Nat.reduceEqDiff, decide_true, decide_false]; done))); (simp (disch := omega) only [binX, List.replicate_succ, List.set_cons_zero, List.set_cons_succ, List.drop_replicate, Nat.sub_self, List.length_replicate, true_or, or_true, or_false, List.replicate_zero, List.nil_append, List.append_nil, maxLen, List.length_append, List.length_take, List.length_drop, Nat.min_self, List.take_length, Option.getD_some, Option.getD_none, Option.isSome_some, Option.isSome_none, forall_const, Bool.false_eq_true, false_implies, imp_self, implies_true, decide_true, decide_false, dropMap, takeMap, effect, callEff, evO, evP, evL, argL, argX, dataL, plain, plainC, plainL, lk_nil, lk_cons, one, vv, one1, isNil, binV, unV, cvV, load1, store1, fieldOf, cellsOf, cellsAt_ptr, cellsAt_eptr, cellsAt_cptr, asVal, shift_ptr, shift_eptr, shift_cptr, partOf, dataC_d, dataC_own, dataC_view, elemsC, app1, cop1, len1, mslice1, bslice1, rowsA, build1, fillA, idx1, index1, slice1, optInt, addrAt, cutC, putAt_ptr, putAt_eptr, allD, dv, spl, boolV, Option.map_some, Option.bind_some, Option.map_none, Option.bind_none, ↓reduceIte, Bool.not_true, Bool.not_false, Bool.false_eq_true, and_true, true_and, Option.some.injEq, List.length_map, Nat.reduceEqDiff, Nat.reduceLeDiff, Nat.reduceAdd, Int.reduceLT, Int.reduceLE, Int.reduceToNat, Int.toNat_natCast, List.length_cons, List.length_nil, List.take_succ_cons, List.take_zero, List.drop_zero, List.map_cons, List.map_nil, Nat.zero_add, Nat.le_refl, List.getD_cons_zero, List.getD_cons_succ, List.drop_succ_cons, List.drop_nil, getD_num, ite_and, ite_le, ite_lt, ite_eq, ite_lei, ite_lti, ite_nei, IntWalk.i64_in, bt4, ti3, ti4, ti22, ti23, ti25, ti26, ti28, ti30, ti60, ti61, ti63, ti96, getD_dty, tdiv8, tmod8, takeAll, takeDropAll, toNatAdd, toNatSub]; first | rfl | done); simp (disch := omega) only [List.length_replicate, List.length_map, Nat.reduceBEq, Bool.not_false, Bool.not_true, ↓reduceIte, Bool.false_eq_true, BEq.rfl, put1, skip1, frOf, know, vv, one, del, decide_true, decide_false, List.filter_cons, List.filter_nil, List.nil_append, List.cons_append, Nat.reduceAdd, Nat.add_zero])
    | (refine RegA.off1 rfl rfl ?_; simp (disch := omega) only [List.length_replicate, List.length_map, Nat.reduceBEq, Bool.not_false, Bool.not_true, ↓reduceIte, Bool.false_eq_true, BEq.rfl, put1, skip1, frOf, know, vv, one, del, decide_true, decide_false, List.filter_cons, List.filter_nil, List.nil_append, List.cons_append, Nat.reduceAdd, Nat.add_zero])
    | (refine RegA.off2 rfl rfl ?_; simp (disch := omega) only [List.length_replicate, List.length_map, Nat.reduceBEq, Bool.not_false, Bool.not_true, ↓reduceIte, Bool.false_eq_true, BEq.rfl, put1, skip1, frOf, know, vv, one, del, decide_true, decide_false, List.filter_cons, List.filter_nil, List.nil_append, List.cons_append, Nat.reduceAdd, Nat.add_zero])
    | (refine RegA.split rfl ?_ ?_ <;> (intro hsp; (try simp only [Bool.not_eq_true', Bool.not_eq_false', decide_eq_true_eq, decide_eq_false_iff_not, Decidable.not_not, Int.not_lt, Int.not_le, Int.natCast_inj, Bool.and_eq_true, Bool.or_eq_true, Bool.not_not, ne_eq, Bool.false_eq_true, Bool.true_eq_false] at hsp); revert hsp; intro hsp; simp (disch := omega) only [List.length_replicate, List.length_map, Nat.reduceBEq, Bool.not_false, Bool.not_true, ↓reduceIte, Bool.false_eq_true, BEq.rfl, put1, skip1, frOf, know, vv, one, del, decide_true, decide_false, List.filter_cons, List.filter_nil, List.nil_append, List.cons_append, Nat.reduceAdd, Nat.add_zero]))
    | (refine RegA.done ‹_› ?_)
    | (refine awp_seq fun K hK => ?_)
    | (refine Awp.reg ?_)
    | (refine Awp.skip ?_)
    | (refine Awp.block ?_)
    | (refine Awp.scope ?_)
    | (refine Awp.ct rfl ?_)
    | (refine Awp.cf rfl ?_)
    | (refine Awp.ct (congrArg some (congrArg Value.bool ?_)) ?_; focus (simp (disch := omega) only [decide_eq_true_eq, decide_eq_false_iff_not, Bool.not_eq_true', Bool.not_eq_false', decide_true, decide_false, Bool.not_true, Bool.not_false, getD_num, ite_and, ite_le, ite_lt, ite_eq, ite_lei, ite_lti, ite_nei, IntWalk.i64_in, bt4, ti3, ti4, ti22, ti23, ti25, ti26, ti28, ti30, ti60, ti61, ti63, ti96, getD_dty, tdiv8, tmod8, takeAll, takeDropAll, toNatAdd, toNatSub]; done))
    | (refine Awp.cf (congrArg some (congrArg Value.bool ?_)) ?_; focus (simp (disch := omega) only [decide_eq_true_eq, decide_eq_false_iff_not, Bool.not_eq_true', Bool.not_eq_false', decide_true, decide_false, Bool.not_true, Bool.not_false, getD_num, ite_and, ite_le, ite_lt, ite_eq, ite_lei, ite_lti, ite_nei, IntWalk.i64_in, bt4, ti3, ti4, ti22, ti23, ti25, ti26, ti28, ti30, ti60, ti61, ti63, ti96, getD_dty, tdiv8, tmod8, takeAll, takeDropAll, toNatAdd, toNatSub]; done))
    | (refine Awp.cond rfl ?_ ?_ <;> (intro hsp; (try simp only [Bool.not_eq_true', Bool.not_eq_false', decide_eq_true_eq, decide_eq_false_iff_not, Decidable.not_not, Int.not_lt, Int.not_le, Int.natCast_inj, Bool.and_eq_true, Bool.or_eq_true, Bool.not_not, ne_eq] at hsp)))
    | (refine Awp.exit ?_; simp only [blockQ, thenQ, scopeQ, ↓reduceIte, Nat.reduceEqDiff])
    | (refine viaK ‹_› ?_)
    | (simp only [thenQ_normal, blockQ_normal])))
  · have e : loadV d a = 0 := by unfold loadV; rw [if_neg ‹_›]
    (refine Awp.ret ?_; apply ret_of (.inl rfl); rfl; (simp (disch := omega) only [outXs, outX, outC, outL, lk_nil, lk_cons, ↓reduceIte, Nat.reduceEqDiff, List.length_map, List.length_nil, List.length_replicate, List.length_cons, List.length_take, List.length_drop, List.length_append, List.length_set, ite_eq, Option.map_some, Bool.false_eq_true]; rfl); (focus simp [ownsX, ownsC]); (simp [-List.getD_eq_getElem?_getD, laxR, laxX, laxC, laxCs, rB, rN, rO, rDev, dtyD, e] <;> (intros; omega)))
  · have hq := hasAt_lt ‹hasAt d.dirty a = true›
    (repeat' (first
        | (apply RegA.callD 37 false (hd := rfl); (first | exact trivial | rfl | exact congrArg some ‹_› | (focus (simp (disch := omega) only [gOk, boolV, lk_nil, lk_cons, ↓reduceIte, Nat.reduceEqDiff, decide_true, decide_false]; done))); (rfl); (simp only [lk_nil, lk_cons, evL, evO, one, vv, ↓reduceIte, Nat.reduceEqDiff]; first | rfl | done); (simp (disch := omega) only [lk_nil, lk_cons, argL, argX, dataL, dataC_d, dataC_own, dataC_view, one, vv, ↓reduceIte, Nat.reduceEqDiff, Option.map_some, List.length_map, List.length_cons, List.length_nil, List.length_append, List.length_set, ite_eq, ite_and, and_self, true_and, and_true, Nat.le_refl, Nat.zero_add, takeMap, dropMap, List.map_cons, List.map_nil, numD]; first | rfl | done); (exact k_cache_lineStart _ _ (by omega) (by omega) (by omega)); (exact .inr (by first | (simp [Flat, RXFlat, RCFlat, DFlat, rN, rB]; done) | exact flat_dev2 _ _ _ | exact flat_dev1 _ | exact flat_img2 _ _ _)); simp (disch := omega) only [List.length_replicate, List.length_map, Nat.reduceBEq, Bool.not_false, Bool.not_true, ↓reduceIte, Bool.false_eq_true, BEq.rfl, put1, skip1, frOf, know, vv, one, del, decide_true, decide_false, List.filter_cons, List.filter_nil, List.nil_append, List.cons_append, Nat.reduceAdd, Nat.add_zero]; simp only [callHp, frz, unV', unX, unXs, unC, unL, List.flatMap_cons, List.flatMap_nil, idsX, idsC, List.append_nil, ↓reduceIte, Bool.false_eq_true, List.nil_append, List.cons_append, lk_nil, lk_cons, Nat.reduceEqDiff, Nat.reduceAdd, List.length_map, List.length_cons, List.length_nil, rB, rN, rO, rDev, dtyD])
        | (apply RegA.callD 38 false (hd := rfl); (first | exact trivial | rfl | exact congrArg some ‹_› | (focus (simp (disch := omega) only [gOk, boolV, lk_nil, lk_cons, ↓reduceIte, Nat.reduceEqDiff, decide_true, decide_false]; done))); (rfl); (simp only [lk_nil, lk_cons, evL, evO, one, vv, ↓reduceIte, Nat.reduceEqDiff]; first | rfl | done); (simp (disch := omega) only [lk_nil, lk_cons, argL, argX, dataL, dataC_d, dataC_own, dataC_view, one, vv, ↓reduceIte, Nat.reduceEqDiff, Option.map_some, List.length_map, List.length_cons, List.length_nil, List.length_append, List.length_set, ite_eq, ite_and, and_self, true_and, and_true, Nat.le_refl, Nat.zero_add, takeMap, dropMap, List.map_cons, List.map_nil, numD]; first | rfl | done); (exact k_cache_find _ _ (by omega) (devOk_all (asked_chk ‹asked d a = 0›).1).2); (exact .inr (by first | (simp [Flat, RXFlat, RCFlat, DFlat, rN, rB]; done) | exact flat_dev2 _ _ _ | exact flat_dev1 _ | exact flat_img2 _ _ _)); simp (disch := omega) only [List.length_replicate, List.length_map, Nat.reduceBEq, Bool.not_false, Bool.not_true, ↓reduceIte, Bool.false_eq_true, BEq.rfl, put1, skip1, frOf, know, vv, one, del, decide_true, decide_false, List.filter_cons, List.filter_nil, List.nil_append, List.cons_append, Nat.reduceAdd, Nat.add_zero]; simp only [callHp, frz, unV', unX, unXs, unC, unL, List.flatMap_cons, List.flatMap_nil, idsX, idsC, List.append_nil, ↓reduceIte, Bool.false_eq_true, List.nil_append, List.cons_append, lk_nil, lk_cons, Nat.reduceEqDiff, Nat.reduceAdd, List.length_map, List.length_cons, List.length_nil, rB, rN, rO, rDev, dtyD])
        | (apply RegA.op (hd := rfl); (first | exact trivial | rfl | exact congrArg some ‹_› | (focus (simp (disch := omega) only [gOk, boolV, lk_nil, lk_cons, ↓reduceIte, Nat.reduceEqDiff, decide_true, decide_false]; done))); (simp (disch := omega) only [binX, List.replicate_succ, List.set_cons_zero, List.set_cons_succ, List.drop_replicate, Nat.sub_self, List.length_replicate, true_or, or_true, or_false, List.replicate_zero, List.nil_append, List.append_nil, maxLen, List.length_append, List.length_take, List.length_drop, Nat.min_self, List.take_length, Option.getD_some, Option.getD_none, Option.isSome_some, Option.isSome_none, forall_const, Bool.false_eq_true, false_implies, imp_self, implies_true, decide_true, decide_false, dropMap, takeMap, effect, callEff, evO, evP, evL, argL, argX, dataL, plain, plainC, plainL, lk_nil, lk_cons, one, vv, one1, isNil, binV, unV, cvV, load1, store1, fieldOf, cellsOf, cellsAt_ptr, cellsAt_eptr, cellsAt_cptr, asVal, shift_ptr, shift_eptr, shift_cptr, partOf, dataC_d, dataC_own, dataC_view, elemsC, app1, cop1, len1, mslice1, bslice1, rowsA, build1, fillA, idx1, index1, slice1, optInt, addrAt, cutC, putAt_ptr, putAt_eptr, allD, dv, spl, boolV, Option.map_some, Option.bind_some, Option.map_none, Option.bind_none, ↓reduceIte, Bool.not_true, Bool.not_false, Bool.false_eq_true, and_true, true_and, Option.some.injEq, List.length_map, Nat.reduceEqDiff, Nat.reduceLeDiff, Nat.reduceAdd, Int.reduceLT, Int.reduceLE, Int.reduceToNat, Int.toNat_natCast, List.length_cons, List.length_nil, List.take_succ_cons, List.take_zero, List.drop_zero, List.map_cons, List.map_nil, Nat.zero_add, Nat.le_refl, List.getD_cons_zero, List.getD_cons_succ, List.drop_succ_cons, List.drop_nil, getD_num, ite_and, ite_le, ite_lt, ite_eq, ite_lei, ite_lti, ite_nei, IntWalk.i64_in, bt4, ti3, ti4, ti22, ti23, ti25, ti26, ti28, ti30, ti60, ti61, ti63, ti96, getD_dty, tdiv8, tmod8, takeAll, takeDropAll, toNatAdd, toNatSub]; first | rfl | done); simp (disch := omega) only [List.length_replicate, List.length_map, Nat.reduceBEq, Bool.not_false, Bool.not_true, ↓reduceIte, Bool.false_eq_true, BEq.rfl, put1, skip1, frOf, know, vv, one, del, decide_true, decide_false, List.filter_cons, List.filter_nil, List.nil_append, List.cons_append, Nat.reduceAdd, Nat.add_zero])
        | (refine RegA.off1 rfl rfl ?_; simp (disch := omega) only [List.length_replicate, List.length_map, Nat.reduceBEq, Bool.not_false, Bool.not_true, ↓reduceIte, Bool.false_eq_true, BEq.rfl, put1, skip1, frOf, know, vv, one, del, decide_true, decide_false, List.filter_cons, List.filter_nil, List.nil_append, List.cons_append, Nat.reduceAdd, Nat.add_zero])
        | (refine RegA.off2 rfl rfl ?_; simp (disch := omega) only [List.length_replicate, List.length_map, Nat.reduceBEq, Bool.not_false, Bool.not_true, ↓reduceIte, Bool.false_eq_true, BEq.rfl, put1, skip1, frOf, know, vv, one, del, decide_true, decide_false, List.filter_cons, List.filter_nil, List.nil_append, List.cons_append, Nat.reduceAdd, Nat.add_zero])
        | (refine RegA.split rfl ?_ ?_ <;> (intro hsp; (try simp only [Bool.not_eq_true', Bool.not_eq_false', decide_eq_true_eq, decide_eq_false_iff_not, Decidable.not_not, Int.not_lt, Int.not_le, Int.natCast_inj, Bool.and_eq_true, Bool.or_eq_true, Bool.not_not, ne_eq, Bool.false_eq_true, Bool.true_eq_false] at hsp); revert hsp; intro hsp; simp (disch := omega) only [List.length_replicate, List.length_map, Nat.reduceBEq, Bool.not_false, Bool.not_true, ↓reduceIte, Bool.false_eq_true, BEq.rfl, put1, skip1, frOf, know, vv, one, del, decide_true, decide_false, List.filter_cons, List.filter_nil, List.nil_append, List.cons_append, Nat.reduceAdd, Nat.add_zero]))
        | (refine RegA.done ‹_› ?_)
        | (refine awp_seq fun K hK => ?_)
        | (refine Awp.reg ?_)
        | (refine Awp.skip ?_)
        | (refine Awp.block ?_)
        | (refine Awp.scope ?_)
        | (refine Awp.ct rfl ?_)
        | (refine Awp.cf rfl ?_)
        | (refine Awp.ct (congrArg some (congrArg Value.bool ?_)) ?_; focus (simp (disch := omega) only [decide_eq_true_eq, decide_eq_false_iff_not, Bool.not_eq_true', Bool.not_eq_false', decide_true, decide_false, Bool.not_true, Bool.not_false, getD_num, ite_and, ite_le, ite_lt, ite_eq, ite_lei, ite_lti, ite_nei, IntWalk.i64_in, bt4, ti3, ti4, ti22, ti23, ti25, ti26, ti28, ti30, ti60, ti61, ti63, ti96, getD_dty, tdiv8, tmod8, takeAll, takeDropAll, toNatAdd, toNatSub]; done))
        | (refine Awp.cf (congrArg some (congrArg Value.bool ?_)) ?_; focus (simp (disch := omega) only [decide_eq_true_eq, decide_eq_false_iff_not, Bool.not_eq_true', Bool.not_eq_false', decide_true, decide_false, Bool.not_true, Bool.not_false, getD_num, ite_and, ite_le, ite_lt, ite_eq, ite_lei, ite_lti, ite_nei, IntWalk.i64_in, bt4, ti3, ti4, ti22, ti23, ti25, ti26, ti28, ti30, ti60, ti61, ti63, ti96, getD_dty, tdiv8, tmod8, takeAll, takeDropAll, toNatAdd, toNatSub]; done))
        | (refine Awp.cond rfl ?_ ?_ <;> (intro hsp; (try simp only [Bool.not_eq_true', Bool.not_eq_false', decide_eq_true_eq, decide_eq_false_iff_not, Decidable.not_not, Int.not_lt, Int.not_le, Int.natCast_inj, Bool.and_eq_true, Bool.or_eq_true, Bool.not_not, ne_eq] at hsp)))
        | (refine Awp.exit ?_; simp only [blockQ, thenQ, scopeQ, ↓reduceIte, Nat.reduceEqDiff])
        | (refine viaK ‹_› ?_)
        | (simp only [thenQ_normal, blockQ_normal])))
    have e : loadV d a = (d.dirty.getD (lb d.dirty a) default).v := by unfold loadV wordAt; rw [if_pos ‹asked d a = 0›, if_pos ‹_›]
    (refine Awp.ret ?_; apply ret_of (.inl rfl); rfl; (simp (disch := omega) only [outXs, outX, outC, outL, lk_nil, lk_cons, ↓reduceIte, Nat.reduceEqDiff, List.length_map, List.length_nil, List.length_replicate, List.length_cons, List.length_take, List.length_drop, List.length_append, List.length_set, ite_eq, Option.map_some, Bool.false_eq_true]; rfl); (focus simp [ownsX, ownsC]); (simp [-List.getD_eq_getElem?_getD, laxR, laxX, laxC, laxCs, rB, rN, rO, rDev, dtyD, e, *] <;> (intros; omega)))
  · have e : loadV d a = d.img.getD a.toNat 0 := by unfold loadV wordAt; rw [if_pos ‹asked d a = 0›, if_neg (by simp [*])]
    (refine Awp.ret ?_; apply ret_of (.inl rfl); rfl; (simp (disch := omega) only [outXs, outX, outC, outL, lk_nil, lk_cons, ↓reduceIte, Nat.reduceEqDiff, List.length_map, List.length_nil, List.length_replicate, List.length_cons, List.length_take, List.length_drop, List.length_append, List.length_set, ite_eq, Option.map_some, Bool.false_eq_true]; rfl); (focus simp [ownsX, ownsC]); (simp [-List.getD_eq_getElem?_getD, laxR, laxX, laxC, laxCs, rB, rN, rO, rDev, dtyD, e, *] <;> (intros; omega)))
end
end Go.Proofs.Ytnmpdpijcehofaa
