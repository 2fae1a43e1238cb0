/-
  Values seen as data: a part of the engine, of no one program. No condition.
-/
import Derived.Test.YtnmpdpijcehofaaE26
import Derived.Orders
namespace Go.Proofs.Ytnmpdpijcehofaa.Eng
set_option linter.all false
noncomputable section
open Go.RowKit

/-- Each waits only for those before it. -/
def preOk (pre : List (List Nat)) : Bool := (List.range pre.length).all fun j => (pre.getD j []).all fun i => decide (i < j)
theorem preOk_lt {pre : List (List Nat)} (h : preOk pre = true) {j i : Nat} {p : List Nat} (hp : pre[j]? = some p) (hi : i ∈ p) : i < j := by
  have hj := (List.getElem?_eq_some_iff.1 hp).1
  have h1 := List.all_eq_true.1 (List.all_eq_true.1 h j (by simpa using hj)) i (by simpa [List.getD, hp] using hi)
  simpa using h1
theorem ancs_lt {pre : List (List Nat)} (h : preOk pre = true) : ∀ (j i : Nat), i ∈ (ancs pre).getD j [] → i < j := by
  intro j
  induction j using Nat.strongRecOn with
  | _ j ih =>
    intro i hi
    obtain ⟨p, hp, hi⟩ := ancs_spec hi
    rcases hi with hi | ⟨k, hk, hi⟩
    · exact preOk_lt h hp hi
    · have h1 := preOk_lt h hp hk
      have h2 := ih k h1 i hi
      omega
theorem entOk_ext {P : Program} {s0 : St} {A : List (List Nat)} {l : List SO} {xs ys : Ents} {j : Nat} {o : SO} {x : Option Eff} (hA : ∀ i ∈ A.getD j [], i < xs.length) (h : entOk P s0 A l xs j o x) : entOk P s0 A l (xs ++ ys) j o x := by
  have e : mk (A.getD j []) 0 l (xs ++ ys) s0 = mk (A.getD j []) 0 l xs s0 := mk_short _ _ _ _ _ _ (fun k hk => by have := hA k hk; omega)
  refine ⟨h.1, ?_⟩
  have h2 := h.2
  cases x with
  | some e' => simp only at h2 ⊢; rw [e]; exact h2
  | none => simp only at h2 ⊢; rw [e]; exact h2
theorem draw_ents {P : Program} {K : St → Prop} {s0 : St} {pre : List (List Nat)} {l : List SO} (hp : preOk pre = true) {rest : List SO} {xs : Ents} (h : DrawA P K s0 (ancs pre) l rest xs) :
    ∀ dn, l = dn ++ rest → dn.length = xs.length → (∀ (j : Nat) (o : SO) (x : Option Eff), l[j]? = some o → xs[j]? = some x → entOk P s0 (ancs pre) l xs j o x) →
    ∃ xs', xs'.length = l.length ∧ (∀ (j : Nat) (o : SO) (x : Option Eff), l[j]? = some o → xs'[j]? = some x → entOk P s0 (ancs pre) l xs' j o x) ∧ K { mk (allIn l.length) 0 l xs' s0 with nx := s0.nx + 16 * l.length } := by
  have step : ∀ {dn rest : List SO} {o : SO} {x : Option Eff} {xs : Ents}, l = dn ++ o :: rest → dn.length = xs.length → (∀ (j : Nat) (o : SO) (x : Option Eff), l[j]? = some o → xs[j]? = some x → entOk P s0 (ancs pre) l xs j o x) →
      entOk P s0 (ancs pre) l xs xs.length o x → ∀ (j : Nat) (o' : SO) (x' : Option Eff), l[j]? = some o' → (xs ++ [x])[j]? = some x' → entOk P s0 (ancs pre) l (xs ++ [x]) j o' x' := by
    intro dn rest o x xs hl hlen hE ho j o' x' hj hx
    rcases Nat.lt_trichotomy j xs.length with hlt | heq | hgt
    · rw [List.getElem?_append_left hlt] at hx
      exact entOk_ext (fun i hi => by have := ancs_lt hp j i hi; omega) (hE j o' x' hj hx)
    · subst heq
      rw [List.getElem?_append_right (Nat.le_refl _), Nat.sub_self] at hx
      have hxx : x = x' := by simpa using hx
      subst hxx
      have hoo : o = o' := by
        rw [hl, List.getElem?_append_right (by omega), hlen, Nat.sub_self] at hj
        simpa using hj
      subst hoo
      exact entOk_ext (fun i hi => ancs_lt hp _ i hi) ho
    · rw [List.getElem?_eq_none (by simp; omega)] at hx; cases hx
  induction h with
  | @nil xs hk =>
    intro dn hl hlen hE
    refine ⟨xs, ?_, hE, hk⟩
    rw [hl, List.append_nil, hlen]
  | @op dst op g rest xs e hd hg he hc hn _ ih =>
    intro dn hl hlen hE
    exact ih (dn ++ [⟨dst, op, g⟩]) (by rw [hl]; simp) (by simp [hlen]) (step hl hlen hE ⟨hd, hg, he, hc, hn⟩)
  | @off dst op t w rest xs hd hb _ ih =>
    intro dn hl hlen hE
    exact ih (dn ++ [⟨dst, op, some (t, w)⟩]) (by rw [hl]; simp) (by simp [hlen]) (step hl hlen hE ⟨hd, t, w, rfl, hb⟩)
  | @split rest xs b _ _ iht ihf =>
    cases b with
    | true => exact iht rfl
    | false => exact ihf rfl

section
variable {P : Program} {U : Nat → Prop} {w0 : Base} {s0 : St} {pre : List (List Nat)} {l : List SO} {xs : Ents} {ops : Array Oper} {Q : Exit → Act → World → Prop}

theorem all2_get {α β : Type} {R : α → β → Prop} : ∀ {xs : List α} {ys : List β}, All2 R xs ys → ∀ {j : Nat} {x : α}, xs[j]? = some x → ∃ y, ys[j]? = some y ∧ R x y
  | _, _, .cons h t, j, x, hx => by
    cases j with
    | zero => simp only [List.getElem?_cons_zero, Option.some.injEq] at hx; subst hx; exact ⟨_, rfl, h⟩
    | succ j => exact all2_get t (by simpa using hx)
  | _, _, .nil, j, x, hx => by simp at hx
theorem preds_get {l : List Oper} {j : Nat} {o : Oper} (h : l[j]? = some o) : (preds l)[j]? = some ((o.after.toList.filter fun e => Region.binds .any e).map (·.on)) := by
  simp [preds, h]
theorem setOf_set {n : Nat} {listed : Array Bool} {j : Nat} (hj : j < n) (hs : listed.size = n) (i : Nat) : i ∈ setOf n (listed.setIfInBounds j true) ↔ i ∈ setOf n listed ∨ i = j := by
  simp only [mem_setOf]
  by_cases hij : i = j
  · subst hij
    have : (listed.setIfInBounds i true).getD i false = true := by simp [hs, hj]
    simp [this, hj]
  · rw [getD_set_ne false (Ne.symm hij)]
    simp [hij]
def left (n : Nat) (listed : Array Bool) : Nat := (List.range n).countP fun j => !listed.getD j false
theorem left_set {n : Nat} {listed : Array Bool} {j : Nat} (hj : j < n) (hs : listed.size = n) (hu : listed.getD j false = false) : left n (listed.setIfInBounds j true) < left n listed := by
  refine countP_lt (x := j) (fun y hy => ?_) (by simpa using hj) (by simp [hu]) (by simp [hs, hj])
  by_cases hyj : j = y
  · subst hyj; simp [hu]
  · rw [getD_set_ne false hyj] at hy; exact hy
theorem getD_ft {listed : Array Bool} {j : Nat} (hj : j < listed.size) (d d' : Bool) : listed.getD j d = listed.getD j d' := by
  simp [hj]
/-- If none is ready then all are listed. -/
theorem all_listed (hp : preOk (preds ops.toList) = true) {listed : Array Bool} (hsz : listed.size = ops.size) (hr : Region.ready .any ops listed = []) : ∀ j, j < ops.size → listed.getD j false = true := by
  intro j
  induction j using Nat.strongRecOn with
  | _ j ih =>
    intro hj
    cases hl : listed.getD j false with
    | true => rfl
    | false =>
      have : j ∈ Region.ready .any ops listed := by
        rw [mem_ready]
        refine ⟨by rw [getD_ft (by omega) true false]; exact hl, ops[j], Array.getElem?_eq_getElem hj, fun e he hb => ?_⟩
        have hlt : e.on < j := preOk_lt hp (preds_get (l := ops.toList) (j := j) (o := ops[j]) (by simp [hj])) (by
          refine List.mem_map.2 ⟨e, List.mem_filter.2 ⟨by simpa using he, hb⟩, rfl⟩)
        exact ih e.on hlt (by omega)
      rw [hr] at this
      cases this
theorem boolV_cong {s s' : St} {t : Nat} (h : lk s.fr t = lk s'.fr t) : boolV s t = boolV s' t := by unfold boolV; rw [h]
theorem offB_cong {s s' : St} {t : Nat} {w : Bool} (h : lk s.fr t = lk s'.fr t) (hb : offB s t w) : offB s' t w := by
  unfold offB at hb ⊢
  rw [boolV_cong h, h] at hb
  exact hb
theorem temps_g {o : SO} {t : Nat} {w : Bool} (h : o.g = some (t, w)) : t ∈ temps o := by simp [temps, h]
theorem temps_op {o : SO} {t : Nat} (h : Operand.tmp t ∈ o.op.operands.toList) : t ∈ temps o := by
  simp only [temps, List.mem_append, List.mem_filterMap]
  exact .inl ⟨_, h, rfl⟩
theorem wanted_yes {s : St} {N : Nat → Prop} {a : Act} {w : World} {ι : Nat → Option Nat} {o : Oper} {so : SO} (h : Rel U w0 N s a w ι) (hso : SOk ops o so) (hg : gOk s so.g) : Region.wanted o (yielded ops a.tmps) = true := by
  obtain ⟨_, _, e3⟩ := hso
  cases hog : o.guard with
  | none => simp [Region.wanted, hog]
  | some jw =>
    obtain ⟨j, w'⟩ := jw
    rw [hog] at e3
    cases hsg : so.g with
    | none => rw [hsg] at e3; exact e3.elim
    | some tw =>
      obtain ⟨t, w''⟩ := tw
      rw [hsg] at e3 hg
      obtain ⟨et, rfl⟩ := e3
      have hy : yielded ops a.tmps j = some w'' := by unfold yielded; rw [et]; simp [bool_val h hg]
      simp [Region.wanted, hog, hy]
theorem wanted_no {s : St} {N : Nat → Prop} {a : Act} {w : World} {ι : Nat → Option Nat} {o : Oper} {so : SO} (h : Rel U w0 N s a w ι) (hso : SOk ops o so) {t : Nat} {w' : Bool} (hg : so.g = some (t, w')) (hb : offB s t w') : Region.wanted o (yielded ops a.tmps) = false := by
  obtain ⟨_, _, e3⟩ := hso
  cases hog : o.guard with
  | none => rw [hog, hg] at e3; exact e3.elim
  | some jw =>
    obtain ⟨j, w''⟩ := jw
    rw [hog, hg] at e3
    obtain ⟨et, rfl⟩ := e3
    simp only [Region.wanted, hog]
    exact off_yield h et hb

/-- In every order. -/
theorem draw_any (hT : Trace P s0 pre l xs) (hp : preOk pre = true) (hpre : pre = preds ops.toList) (hU : ∀ b, w0.w.heap.size ≤ b → U b) (h0 : ∀ b o, lk s0.hp b = some o → b < s0.nx) (hl : All2 (SOk ops) ops.toList l)
    (hQ : ∀ a w, RS U w0 { mk (allIn l.length) 0 l xs s0 with nx := s0.nx + 16 * l.length } a w → Q .normal a w) :
    ∀ (fuel : Nat) (listed : Array Bool) (a : Act) (w : World) (ι : Nat → Option Nat), listed.size = ops.size → left ops.size listed ≤ fuel →
      (∀ k ∈ setOf ops.size listed, ∀ i ∈ (ancs pre).getD k [], i ∈ setOf ops.size listed) → Rel U w0 (NX s0 (setOf ops.size listed)) (mk (setOf ops.size listed) 0 l xs s0) a w ι → wpAny P .any ops Q fuel listed a w := by
  have hll : l.length = ops.size := by have := hl.length; simpa using this.symm
  have fin : ∀ (listed : Array Bool) (a : Act) (w : World) (ι : Nat → Option Nat), listed.size = ops.size → Rel U w0 (NX s0 (setOf ops.size listed)) (mk (setOf ops.size listed) 0 l xs s0) a w ι → Region.ready .any ops listed = [] → Q .normal a w := by
    intro listed a w ι hsz hr hnil
    have hall := all_listed (hpre ▸ hp) hsz hnil
    have hset : setOf ops.size listed = allIn l.length := by
      rw [hll]
      unfold setOf allIn
      exact List.filter_eq_self.2 fun j hj => hall j (by simpa using hj)
    rw [hset] at hr
    refine hQ a w ⟨ι, hr.weakN fun b hb => ?_⟩
    simp only [Lt]
    rcases hb with hb | ⟨i, hi, h1, h2⟩
    · omega
    · have : i < l.length := by simpa [allIn] using hi
      unfold seedOf at h2
      have : 16 * i + 16 ≤ 16 * l.length := by omega
      omega
  intro fuel
  induction fuel with
  | zero =>
    intro listed a w ι hsz hf hcl hr
    have hnil : Region.ready .any ops listed = [] := by
      cases hrd : Region.ready .any ops listed with
      | nil => rfl
      | cons j js =>
        have hj : j ∈ Region.ready .any ops listed := by rw [hrd]; simp
        obtain ⟨hu, o, ho, _⟩ := mem_ready.1 hj
        have hlt : j < ops.size := (Array.getElem?_eq_some_iff.1 ho).1
        have := left_set (n := ops.size) hlt hsz (by rw [getD_ft (by omega) false true]; exact hu)
        omega
    exact ⟨hnil, fin listed a w ι hsz hr hnil⟩
  | succ fuel ih =>
    intro listed a w ι hsz hf hcl hr
    refine ⟨fin listed a w ι hsz hr, fun j hj => ?_⟩
    obtain ⟨hu, o, ho, hbe⟩ := mem_ready.1 hj
    have hlt : j < ops.size := (Array.getElem?_eq_some_iff.1 ho).1
    have hu' : listed.getD j false = false := by rw [getD_ft (by omega) false true]; exact hu
    have hjX : j ∉ setOf ops.size listed := fun hm => by rw [(mem_setOf.1 hm).2] at hu'; cases hu'
    have hX' := setOf_set hlt hsz
    have hA : ∀ i ∈ (ancs pre).getD j [], i ∈ setOf ops.size listed := fun i hi => by
      obtain ⟨p, hpj, hi⟩ := ancs_spec hi
      rw [hpre, preds_get (l := ops.toList) (j := j) (o := o) (by simpa using ho)] at hpj
      cases hpj
      have hin : ∀ k ∈ (o.after.toList.filter fun e => Region.binds .any e).map (·.on), k ∈ setOf ops.size listed := fun k hk => by
        obtain ⟨e, he, rfl⟩ := List.mem_map.1 hk
        obtain ⟨he1, he2⟩ := List.mem_filter.1 he
        have hb := hbe e (by simpa using he1) he2
        refine mem_setOf.2 ⟨?_, hb⟩
        rcases Nat.lt_or_ge e.on listed.size with h' | h'
        · omega
        · simp [Array.getElem?_eq_none h'] at hb
      rcases hi with hi | ⟨k, hk, hi⟩
      · exact hin i hi
      · exact hcl k (hin k hk) i hi
    obtain ⟨so, hso, hsok⟩ := all2_get hl (j := j) (x := o) (by simpa using ho)
    have hxj : ∃ x, xs[j]? = some x := ⟨xs[j]'(by rw [hT.len, hll]; exact hlt), List.getElem?_eq_getElem _⟩
    obtain ⟨x, hx⟩ := hxj
    obtain ⟨hd, hent⟩ := hT.ent j so x hso hx
    obtain ⟨ask1, ask2⟩ := ask_same hT h0 hso hjX hA hcl
    have hcl' : ∀ k ∈ setOf ops.size (listed.setIfInBounds j true), ∀ i ∈ (ancs pre).getD k [], i ∈ setOf ops.size (listed.setIfInBounds j true) := fun k hk i hi => by
      rw [hX'] at hk ⊢
      rcases hk with hk | rfl
      · exact .inl (hcl k hk i hi)
      · exact .inl (hA i hi)
    have hf' : left ops.size (listed.setIfInBounds j true) ≤ fuel := by
      have := left_set (n := ops.size) hlt hsz hu'
      omega
    have hlike := like_step hT hso hx hjX hX'
    have hnX : ∀ b, NX s0 (setOf ops.size listed) b → NX s0 (setOf ops.size (listed.setIfInBounds j true)) b := fun b hb => by
      rcases hb with hb | ⟨i, hi, hb⟩
      · exact .inl hb
      · exact .inr ⟨i, (hX' i).2 (.inl hi), hb⟩
    obtain ⟨e1, e2, _⟩ := id hsok
    have hd' : ∀ X, dstOk (mk X 0 l xs s0) o.dst = true := fun X => by
      rw [← e1]
      have hnt := (mk_nt X l xs 0 s0).1
      unfold dstOk at hd ⊢
      rw [hnt]; exact hd
    unfold wpOp
    rw [ho]
    simp only
    cases x with
    | some e =>
      obtain ⟨hg, hst, hcnt, hups⟩ := hent
      have hg' : gOk (mk (setOf ops.size listed) 0 l xs s0) so.g := by
        unfold gOk at hg ⊢
        split
        · trivial
        · rename_i t w' hgg
          rw [hgg] at hg
          rw [boolV_cong (ask1 t (temps_g hgg))]
          exact hg
      rw [if_pos (wanted_yes hr hsok hg')]
      have hsub : Sub so.op (mk ((ancs pre).getD j []) 0 l xs s0) (mk (setOf ops.size listed) 0 l xs s0) := by
        refine ⟨?_, ask2⟩
        intro y hy
        cases y with
        | tmp t => exact ask1 t (temps_op (by simpa using hy))
        | _ => rfl
      have hst' := stepE_mono hsub hst
      refine .inl (stepE_sound (seed := seedOf s0 j) hr hU (e := e) (hd' _) (fun k hk hk' hn => ?_) (e2 ▸ hst') (fun ι' a' w' hr' => ?_))
      · rcases hn with hn | ⟨i, hi, h1, h2⟩
        · unfold seedOf at hk; omega
        · have : i ≠ j := fun h => hjX (h ▸ hi)
          unfold seedOf at hk hk' h1 h2
          omega
      · refine ih _ a' w' ι' (by simpa using hsz) hf' hcl' ?_
        have hr2 : Rel U w0 (Span (NX s0 (setOf ops.size listed)) (seedOf s0 j) (seedOf s0 j + e.cnt)) (entSt (mk (setOf ops.size listed) 0 l xs s0) so (some e)) a' w' ι' := by
          unfold entSt
          rw [e1]; exact hr'
        have hr3 := hr2.like hlike
        exact (hr3.weakN (nx' := (mk (setOf ops.size (listed.setIfInBounds j true)) 0 l xs s0).nx) fun b hb => by
          rcases hb with hb | ⟨h1, h2⟩
          · exact hnX b hb
          · exact .inr ⟨j, (hX' j).2 (.inr rfl), h1, by omega⟩)
    | none =>
      obtain ⟨t, w', hgt, hb⟩ := hent
      have hb' : offB (mk (setOf ops.size listed) 0 l xs s0) t w' := offB_cong (ask1 t (temps_g hgt)).symm hb
      rw [if_neg (by rw [wanted_no hr hsok hgt hb']; decide)]
      refine ih _ _ w ι (by simpa using hsz) hf' hcl' ?_
      have hr2 : Rel U w0 (NX s0 (setOf ops.size listed)) (entSt (mk (setOf ops.size listed) 0 l xs s0) so none) (a.put o.dst undef) w ι := by
        unfold entSt skip1 put1
        rw [e1]
        cases hdst : o.dst with
        | none => exact hr
        | some d =>
          have hd2 := hd' (setOf ops.size listed)
          exact hr.put (by simpa [dstOk, hdst] using hd2) rep_undef
      have hr3 := hr2.like hlike
      exact (hr3.weakN (nx' := (mk (setOf ops.size (listed.setIfInBounds j true)) 0 l xs s0).nx) hnX)
end
end
end Go.Proofs.Ytnmpdpijcehofaa.Eng
