/-
  Values seen as data: a part of the engine, of no one program. No condition.
-/
import Derived.Test.YtnmpdpijcehofaaE27
namespace Go.Proofs.Ytnmpdpijcehofaa.Eng
set_option linter.all false
noncomputable section
open Go.RowKit

/-! ### A drawn region whose last operations wait for all before them -/
def tailOk (m n : Nat) (A : List (List Nat)) : Bool := (List.range n).all fun t => (List.range (m + t)).all fun i => (A.getD (m + t) []).contains i
theorem tailOk_mem {m n : Nat} {A : List (List Nat)} (h : tailOk m n A = true) {t i : Nat} (ht : t < n) (hi : i < m + t) : i ∈ A.getD (m + t) [] := by
  have := List.all_eq_true.1 (List.all_eq_true.1 h t (by simpa using ht)) i (by simpa using hi)
  simpa using this
theorem setOf_set2 {n : Nat} {listed : Array Bool} {j : Nat} (hj : j < n) (hs : j < listed.size) (i : Nat) : i ∈ setOf n (listed.setIfInBounds j true) ↔ i ∈ setOf n listed ∨ i = j := by
  simp only [mem_setOf]
  by_cases hij : i = j
  · subst hij
    have : (listed.setIfInBounds i true).getD i false = true := by simp [hs]
    simp [this, hj]
  · rw [getD_set_ne false (Ne.symm hij)]
    simp [hij]
section
variable {P : Program} {U : Nat → Prop} {w0 : Base} {s0 : St} {pre : List (List Nat)} {l : List SO} {xs : Ents} {ops : Array Oper} {Q : Exit → Act → World → Prop}
/-- Whoever is ready has all those behind him that he waits for. -/
theorem hA0 (hpre : pre = preds ops.toList) {listed : Array Bool} {m : Nat} (hsz : listed.size = ops.size) (hlt : ∀ k, listed.getD k false = true → k < m) (hcl : ∀ k ∈ setOf m listed, ∀ i ∈ (ancs pre).getD k [], i ∈ setOf m listed)
    {j : Nat} {o : Oper} (ho : ops[j]? = some o) (hbe : ∀ e ∈ o.after, Region.binds .any e = true → listed.getD e.on false = true) : ∀ i ∈ (ancs pre).getD j [], i ∈ setOf m listed := fun i hi => by
  obtain ⟨p, hpj, hi⟩ := ancs_spec hi
  rw [hpre, preds_get (l := ops.toList) (j := j) (o := o) (by simpa using ho)] at hpj
  cases hpj
  have hin : ∀ k ∈ (o.after.toList.filter fun e => Region.binds .any e).map (·.on), k ∈ setOf m listed := fun k hk => by
    obtain ⟨e, he, rfl⟩ := List.mem_map.1 hk
    obtain ⟨he1, he2⟩ := List.mem_filter.1 he
    have hb := hbe e (by simpa using he1) he2
    exact mem_setOf.2 ⟨hlt _ hb, hb⟩
  rcases hi with hi | ⟨k, hk, hi⟩
  · exact hin i hi
  · exact hcl k (hin k hk) i hi
theorem tail_any (hp : preOk pre = true) (hpre : pre = preds ops.toList) {m n : Nat} (hmn : m + n = ops.size) (hta : tailOk m n (ancs pre) = true) : ∀ (k : Nat), k ≤ n → ∀ (fuel : Nat) (listed : Array Bool) (a : Act) (w : World), listed.size = ops.size → left ops.size listed ≤ fuel →
    (∀ j, j < m + k → listed.getD j false = true) → (∀ j, m + k ≤ j → listed.getD j false = false) → wpList P ops Q (ops.toList.drop (m + k)) a w → wpAny P .any ops Q fuel listed a w := by
  have key : ∀ (r k : Nat), k + r = n → ∀ (fuel : Nat) (listed : Array Bool) (a : Act) (w : World), listed.size = ops.size → left ops.size listed ≤ fuel →
      (∀ j, j < m + k → listed.getD j false = true) → (∀ j, m + k ≤ j → listed.getD j false = false) → wpList P ops Q (ops.toList.drop (m + k)) a w → wpAny P .any ops Q fuel listed a w := by
    intro r
    induction r with
    | zero =>
      intro k hk fuel listed a w hsz hf hall hno hw
      have hdrop : ops.toList.drop (m + k) = [] := List.drop_eq_nil_of_le (by simp; omega)
      rw [hdrop] at hw
      have hnil : Region.ready .any ops listed = [] := by
        cases hrd : Region.ready .any ops listed with
        | nil => rfl
        | cons j js =>
          have hj : j ∈ Region.ready .any ops listed := by rw [hrd]; simp
          obtain ⟨hu, o, ho, _⟩ := mem_ready.1 hj
          have hlt : j < ops.size := (Array.getElem?_eq_some_iff.1 ho).1
          have h1 := hall j (by omega)
          rw [getD_ft (by omega) false true, hu] at h1
          cases h1
      cases fuel with
      | zero => exact ⟨hnil, hw⟩
      | succ fuel => exact ⟨fun _ => hw, fun j hj => by rw [hnil] at hj; cases hj⟩
    | succ r ih =>
      intro k hk fuel listed a w hsz hf hall hno hw
      have hlt0 : m + k < ops.size := by omega
      have hu0 : listed.getD (m + k) false = false := hno _ (Nat.le_refl _)
      have hls := left_set (n := ops.size) hlt0 hsz hu0
      cases fuel with
      | zero => omega
      | succ fuel =>
        have hcl : ∀ i ∈ setOf (m + k) listed, ∀ q ∈ (ancs pre).getD i [], q ∈ setOf (m + k) listed := fun i hi q hq => by
          have h1 := ancs_lt hp i q hq
          have h2 := (mem_setOf.1 hi).1
          exact mem_setOf.2 ⟨by omega, hall q (by omega)⟩
        have hcons : ops.toList.drop (m + k) = ops[m + k] :: ops.toList.drop (m + (k + 1)) := by
          rw [List.drop_eq_getElem_cons (by simpa using hlt0)]; simp; rfl
        rw [hcons] at hw
        refine ⟨fun hnil => ?_, fun j hj => ?_⟩
        · have := all_listed (hpre ▸ hp) hsz hnil (m + k) hlt0
          rw [hu0] at this; cases this
        · obtain ⟨hu, o, ho, hbe⟩ := mem_ready.1 hj
          have hlt : j < ops.size := (Array.getElem?_eq_some_iff.1 ho).1
          have hjk : j = m + k := by
            have hu' : listed.getD j false = false := by rw [getD_ft (by omega) false true]; exact hu
            rcases Nat.lt_trichotomy j (m + k) with h' | h' | h'
            · have := hall j h'; rw [hu'] at this; cases this
            · exact h'
            · exfalso
              have hin := tailOk_mem hta (t := j - m) (by omega) (i := m + k) (by omega)
              rw [show m + (j - m) = j by omega] at hin
              have := hA0 hpre hsz (m := m + k) (fun q hq => by rcases Nat.lt_or_ge q (m + k) with h2 | h2; exact h2; rw [hno q h2] at hq; cases hq) hcl ho hbe _ hin
              have := (mem_setOf.1 this).1
              omega
          subst hjk
          have hoe : ops[m + k] = o := (Array.getElem?_eq_some_iff.1 ho).2
          rw [hoe] at hw
          have next : ∀ a w, wpList P ops Q (ops.toList.drop (m + (k + 1))) a w → wpAny P .any ops Q fuel (listed.setIfInBounds (m + k) true) a w := fun a w h => by
            refine ih (k + 1) (by omega) fuel _ a w (by simpa using hsz) (by omega) (fun q hq => ?_) (fun q hq => ?_) h
            · by_cases hqe : q = m + k
              · subst hqe; simp [hsz, hlt0]
              · rw [getD_set_ne false (by omega)]; exact hall q (by omega)
            · rw [getD_set_ne false (by omega)]; exact hno q (by omega)
          unfold wpOp
          rw [ho]
          simp only
          unfold wpList at hw
          by_cases hwt : Region.wanted o (yielded ops a.tmps) = true
          · rw [if_pos hwt] at hw ⊢
            exact hw.imp (Oper.wp_mono next) id
          · rw [if_neg hwt] at hw ⊢
            exact next _ _ hw
  intro k hk
  exact key (n - k) k (by omega)
/-- In every order. -/
theorem draw_anyT {tl : List SO} (hT : Trace P s0 pre l xs) (hp : preOk pre = true) (hpre : pre = preds ops.toList) (hU : ∀ b, w0.w.heap.size ≤ b → U b) (h0 : ∀ b o, lk s0.hp b = some o → b < s0.nx) (hl : All2 (SOk ops) ops.toList (l ++ tl)) (hta : tailOk l.length tl.length (ancs pre) = true)
    (hQ : ∀ a w, RS U w0 { mk (allIn l.length) 0 l xs s0 with nx := s0.nx + 16 * l.length } a w → wpList P ops Q (ops.toList.drop l.length) a w) :
    ∀ (fuel : Nat) (listed : Array Bool) (a : Act) (w : World) (ι : Nat → Option Nat), listed.size = ops.size → left ops.size listed ≤ fuel → (∀ j, l.length ≤ j → listed.getD j false = false) →
      (∀ k ∈ setOf l.length listed, ∀ i ∈ (ancs pre).getD k [], i ∈ setOf l.length listed) → Rel U w0 (NX s0 (setOf l.length listed)) (mk (setOf l.length listed) 0 l xs s0) a w ι → wpAny P .any ops Q fuel listed a w := by
  have hll : l.length + tl.length = ops.size := by have := hl.length; simp at this; omega
  have fin : ∀ (fuel : Nat) (listed : Array Bool) (a : Act) (w : World) (ι : Nat → Option Nat), listed.size = ops.size → left ops.size listed ≤ fuel → (∀ j, l.length ≤ j → listed.getD j false = false) → (∀ j, j < l.length → listed.getD j false = true) →
      Rel U w0 (NX s0 (setOf l.length listed)) (mk (setOf l.length listed) 0 l xs s0) a w ι → wpAny P .any ops Q fuel listed a w := by
    intro fuel listed a w ι hsz hf htl hall hr
    have hset : setOf l.length listed = allIn l.length := by
      unfold setOf allIn
      exact List.filter_eq_self.2 fun j hj => hall j (by simpa using hj)
    rw [hset] at hr
    refine tail_any (m := l.length) (n := tl.length) hp hpre hll hta 0 (Nat.zero_le _) fuel listed a w hsz hf (fun j hj => hall j (by simpa using hj)) (fun j hj => htl j (by simpa using hj)) ?_
    refine hQ a w ⟨ι, hr.weakN fun b hb => ?_⟩
    simp only [Lt]
    rcases hb with hb | ⟨i, hi, h1, h2⟩
    · omega
    · have : i < l.length := by simpa [allIn] using hi
      unfold seedOf at h2
      have : 16 * i + 16 ≤ 16 * l.length := by omega
      omega
  intro fuel
  induction fuel with
  | zero =>
    intro listed a w ι hsz hf htl hcl hr
    have hnil : Region.ready .any ops listed = [] := by
      cases hrd : Region.ready .any ops listed with
      | nil => rfl
      | cons j js =>
        have hj : j ∈ Region.ready .any ops listed := by rw [hrd]; simp
        obtain ⟨hu, o, ho, _⟩ := mem_ready.1 hj
        have hlt : j < ops.size := (Array.getElem?_eq_some_iff.1 ho).1
        have := left_set (n := ops.size) hlt hsz (by rw [getD_ft (by omega) false true]; exact hu)
        omega
    have hall := all_listed (hpre ▸ hp) hsz hnil
    exact fin 0 listed a w ι hsz hf htl (fun j hj => hall j (by omega)) hr
  | succ fuel ih =>
    intro listed a w ι hsz hf htl hcl hr
    by_cases hal : ∀ j, j < l.length → listed.getD j false = true
    · exact fin (fuel + 1) listed a w ι hsz hf htl hal hr
    refine ⟨fun hnil => absurd (fun j hj => all_listed (hpre ▸ hp) hsz hnil j (by omega)) hal, fun j hj => ?_⟩
    obtain ⟨hu, o, ho, hbe⟩ := mem_ready.1 hj
    have hlt : j < ops.size := (Array.getElem?_eq_some_iff.1 ho).1
    have hu' : listed.getD j false = false := by rw [getD_ft (by omega) false true]; exact hu
    have hjl : j < l.length := by
      rcases Nat.lt_or_ge j l.length with h' | h'
      · exact h'
      · exfalso
        refine hal fun i hi => ?_
        have hin := tailOk_mem hta (t := j - l.length) (by omega) (i := i) (by omega)
        rw [show l.length + (j - l.length) = j by omega] at hin
        exact (mem_setOf.1 (hA0 hpre hsz (fun k hk => by rcases Nat.lt_or_ge k l.length with h2 | h2; exact h2; rw [htl k h2] at hk; cases hk) hcl ho hbe i hin)).2
    have hjX : j ∉ setOf l.length listed := fun hm => by rw [(mem_setOf.1 hm).2] at hu'; cases hu'
    have hX' := fun i => setOf_set2 (n := l.length) (listed := listed) hjl (by omega) i
    have hA : ∀ i ∈ (ancs pre).getD j [], i ∈ setOf l.length listed := fun i hi => by
      obtain ⟨p, hpj, hi⟩ := ancs_spec hi
      rw [hpre, preds_get (l := ops.toList) (j := j) (o := o) (by simpa using ho)] at hpj
      cases hpj
      have hin : ∀ k ∈ (o.after.toList.filter fun e => Region.binds .any e).map (·.on), k ∈ setOf l.length listed := fun k hk => by
        obtain ⟨e, he, rfl⟩ := List.mem_map.1 hk
        obtain ⟨he1, he2⟩ := List.mem_filter.1 he
        have hb := hbe e (by simpa using he1) he2
        refine mem_setOf.2 ⟨?_, hb⟩
        rcases Nat.lt_or_ge e.on l.length with h' | h'
        · exact h'
        · rw [htl _ h'] at hb; cases hb
      rcases hi with hi | ⟨k, hk, hi⟩
      · exact hin i hi
      · exact hcl k (hin k hk) i hi
    obtain ⟨so, hso0, hsok⟩ := all2_get hl (j := j) (x := o) (by simpa using ho)
    have hso : l[j]? = some so := by rw [List.getElem?_append_left hjl] at hso0; exact hso0
    have hxj : ∃ x, xs[j]? = some x := ⟨xs[j]'(by rw [hT.len]; exact hjl), List.getElem?_eq_getElem _⟩
    have htl' : ∀ k, l.length ≤ k → (listed.setIfInBounds j true).getD k false = false := fun k hk => by rw [getD_set_ne false (by omega)]; exact htl k hk
    obtain ⟨x, hx⟩ := hxj
    obtain ⟨hd, hent⟩ := hT.ent j so x hso hx
    obtain ⟨ask1, ask2⟩ := ask_same hT h0 hso hjX hA hcl
    have hcl' : ∀ k ∈ setOf l.length (listed.setIfInBounds j true), ∀ i ∈ (ancs pre).getD k [], i ∈ setOf l.length (listed.setIfInBounds j true) := fun k hk i hi => by
      rw [hX'] at hk ⊢
      rcases hk with hk | rfl
      · exact .inl (hcl k hk i hi)
      · exact .inl (hA i hi)
    have hf' : left ops.size (listed.setIfInBounds j true) ≤ fuel := by
      have := left_set (n := ops.size) hlt hsz hu'
      omega
    have hlike := like_step hT hso hx hjX hX'
    have hnX : ∀ b, NX s0 (setOf l.length listed) b → NX s0 (setOf l.length (listed.setIfInBounds j true)) b := fun b hb => by
      rcases hb with hb | ⟨i, hi, hb⟩
      · exact .inl hb
      · exact .inr ⟨i, (hX' i).2 (.inl hi), hb⟩
    obtain ⟨e1, e2, _⟩ := id hsok
    have hd' : ∀ X, dstOk (mk X 0 l xs s0) o.dst = true := fun X => by
      rw [← e1]
      have hnt := (mk_nt X l xs 0 s0).1
      unfold dstOk at hd ⊢
      rw [hnt]; exact hd
    unfold wpOp
    rw [ho]
    simp only
    cases x with
    | some e =>
      obtain ⟨hg, hst, hcnt, hups⟩ := hent
      have hg' : gOk (mk (setOf l.length listed) 0 l xs s0) so.g := by
        unfold gOk at hg ⊢
        split
        · trivial
        · rename_i t w' hgg
          rw [hgg] at hg
          rw [boolV_cong (ask1 t (temps_g hgg))]
          exact hg
      rw [if_pos (wanted_yes hr hsok hg')]
      have hsub : Sub so.op (mk ((ancs pre).getD j []) 0 l xs s0) (mk (setOf l.length listed) 0 l xs s0) := by
        refine ⟨?_, ask2⟩
        intro y hy
        cases y with
        | tmp t => exact ask1 t (temps_op (by simpa using hy))
        | _ => rfl
      have hst' := stepE_mono hsub hst
      refine .inl (stepE_sound (seed := seedOf s0 j) hr hU (e := e) (hd' _) (fun k hk hk' hn => ?_) (e2 ▸ hst') (fun ι' a' w' hr' => ?_))
      · rcases hn with hn | ⟨i, hi, h1, h2⟩
        · unfold seedOf at hk; omega
        · have : i ≠ j := fun h => hjX (h ▸ hi)
          unfold seedOf at hk hk' h1 h2
          omega
      · refine ih _ a' w' ι' (by simpa using hsz) hf' htl' hcl' ?_
        have hr2 : Rel U w0 (Span (NX s0 (setOf l.length listed)) (seedOf s0 j) (seedOf s0 j + e.cnt)) (entSt (mk (setOf l.length listed) 0 l xs s0) so (some e)) a' w' ι' := by
          unfold entSt
          rw [e1]; exact hr'
        have hr3 := hr2.like hlike
        exact (hr3.weakN (nx' := (mk (setOf l.length (listed.setIfInBounds j true)) 0 l xs s0).nx) fun b hb => by
          rcases hb with hb | ⟨h1, h2⟩
          · exact hnX b hb
          · exact .inr ⟨j, (hX' j).2 (.inr rfl), h1, by omega⟩)
    | none =>
      obtain ⟨t, w', hgt, hb⟩ := hent
      have hb' : offB (mk (setOf l.length listed) 0 l xs s0) t w' := offB_cong (ask1 t (temps_g hgt)).symm hb
      rw [if_neg (by rw [wanted_no hr hsok hgt hb']; decide)]
      refine ih _ _ w ι (by simpa using hsz) hf' htl' hcl' ?_
      have hr2 : Rel U w0 (NX s0 (setOf l.length listed)) (entSt (mk (setOf l.length listed) 0 l xs s0) so none) (a.put o.dst undef) w ι := by
        unfold entSt skip1 put1
        rw [e1]
        cases hdst : o.dst with
        | none => exact hr
        | some d =>
          have hd2 := hd' (setOf l.length listed)
          exact hr.put (by simpa [dstOk, hdst] using hd2) rep_undef
      have hr3 := hr2.like hlike
      exact (hr3.weakN (nx' := (mk (setOf l.length (listed.setIfInBounds j true)) 0 l xs s0).nx) hnX)
end
end
end Go.Proofs.Ytnmpdpijcehofaa.Eng
