/-
  Values seen as data: a part of the engine, of no one program. No condition.
-/
import Derived.Test.YtnmpdpijcehofaaE37
namespace Go.Proofs.Ytnmpdpijcehofaa.Eng
set_option linter.all false
noncomputable section
open Go.RowKit

/-! ### A drawn region that writes nothing: one order tells all -/
inductive DrawP (P : Program) (K : St → Prop) : List SO → St → Prop
  | nil {s} (h : K s) : DrawP P K [] s
  | op {dst op g rest s v} (hd : dstOk s dst = true) (hg : gOk s g) (he : ∀ seed, effect P s seed op = some { val := some v }) (h : DrawP P K rest (put1 s dst (some v) [] s.nx)) : DrawP P K (⟨dst, op, g⟩ :: rest) s
  | call {dst f args ts g rest s vs ds r v} (hd : dstOk s dst = true) (hg : gOk s g) (hv : evL s args.toList = some vs) (ha : argL s.hp vs = some ds) (hc : Con P f ds r) (hfl : Flat r) (hr : ∀ seed, unV' seed r = (v, [], seed))
      (h : DrawP P K rest (put1 s dst (some v) [] s.nx)) : DrawP P K (⟨dst, .call ⟨.value (.func f), args, ts⟩, g⟩ :: rest) s
  | off {dst op t w rest s} (hd : dstOk s dst = true) (hb : offB s t w) (h : DrawP P K rest (skip1 s dst)) : DrawP P K (⟨dst, op, some (t, w)⟩ :: rest) s
  | know {l s b} (t : Nat) (hb : boolV s t = some b) (ht : b = true → DrawP P K l (know s t true)) (hf : b = false → DrawP P K l (know s t false)) : DrawP P K l s
theorem mk_fr_old2 (anc : List Nat) (t : Nat) : ∀ (l : List SO) (xs : Ents) (i : Nat) (s : St), (∀ j o, j < xs.length → l[j]? = some o → anc.contains (i + j) = true → o.dst ≠ some t) → lk (mk anc i l xs s).fr t = lk s.fr t
  | [], xs, i, s, _ => by cases xs <;> rfl
  | o :: l, [], i, s, _ => rfl
  | o :: l, x :: xs, i, s, h => by
    rw [mk_cons, mk_fr_old2 anc t l xs (i + 1) _ (fun j o' hj0 hj hc => h (j + 1) o' (by simpa using hj0) (by simpa using hj) (by rw [show i + (j + 1) = i + 1 + j by omega]; exact hc))]
    by_cases hc : anc.contains i = true
    · rw [if_pos hc, entSt_fr, if_neg (h 0 o (by simp) rfl (by simpa using hc))]
    · rw [if_neg hc]
theorem mk_snoc (anc : List Nat) : ∀ (l : List SO) (xs : Ents) (i : Nat) (s : St) (o : SO) (x : Option Eff), l[xs.length]? = some o → mk anc i l (xs ++ [x]) s = if anc.contains (i + xs.length) then entSt (mk anc i l xs s) o x else mk anc i l xs s
  | [], xs, i, s, o, x, h => by simp at h
  | o0 :: l, [], i, s, o, x, h => by
    simp only [List.length_nil, List.getElem?_cons_zero, Option.some.injEq] at h
    subst h
    rw [List.nil_append, mk_cons, List.length_nil, Nat.add_zero]
    have e : ∀ s, mk anc (i + 1) l [] s = s := fun s => by cases l <;> rfl
    rw [e]
    have e2 : mk anc i (o0 :: l) [] s = s := rfl
    rw [e2]
    rfl
  | o0 :: l, x0 :: xs, i, s, o, x, h => by
    rw [List.cons_append, mk_cons, mk_cons, mk_snoc anc l xs (i + 1) _ o x (by simpa using h), List.length_cons, show i + 1 + xs.length = i + (xs.length + 1) by omega]
theorem drawP_A {P : Program} {K : St → Prop} {s0 : St} {pre : List (List Nat)} {l : List SO} (hp : preOk pre = true) (hdr : drawOk l (ancs pre) = true) {rest : List SO} {s : St} (h : DrawP P K rest s) :
    ∀ (dn : List SO) (xs : Ents), l = dn ++ rest → dn.length = xs.length → s.nt = s0.nt → s.nx = s0.nx + 16 * l.length → (∀ x ∈ xs, upsOf x = []) → (∀ b, lk s.hp b = lk s0.hp b) → (∀ t, lk s.fr t = lk (mk (allIn l.length) 0 l xs s0).fr t) →
    DrawA P (fun D => ∃ s', Like D s' ∧ s'.nx = D.nx ∧ K s') s0 (ancs pre) l rest xs := by
  have hallc : ∀ (k : Nat), k < l.length → (allIn l.length).contains k = true := fun k hk => by simp [allIn, hk]
  have hhp : ∀ (anc : List Nat) (xs : Ents) (b : Nat), (∀ x ∈ xs, upsOf x = []) → lk (mk anc 0 l xs s0).hp b = lk s0.hp b := fun anc xs b hu =>
    mk_hp_old anc b l xs 0 s0 fun j x hx _ _ => by rw [hu x (List.mem_of_getElem? hx)]; rfl
  -- what an operation asks for
  have ask : ∀ (dn rest : List SO) (o : SO) (xs : Ents), l = dn ++ o :: rest → dn.length = xs.length → ∀ t ∈ temps o, lk (mk ((ancs pre).getD xs.length []) 0 l xs s0).fr t = lk (mk (allIn l.length) 0 l xs s0).fr t := fun dn rest o xs hl hlen t ht => by
    have hj : l[xs.length]? = some o := by rw [hl, ← hlen, List.getElem?_append_right (Nat.le_refl _), Nat.sub_self]; rfl
    have hjl : xs.length < l.length := (List.getElem?_eq_some_iff.1 hj).1
    by_cases hw : ∃ (i : Nat) (oi : SO), i < xs.length ∧ l[i]? = some oi ∧ oi.dst = some t
    · obtain ⟨i, oi, hix, hi, hdi⟩ := hw
      have hxi : xs[i]? = some xs[i] := List.getElem?_eq_getElem hix
      have hu : ∀ (j' : Nat) (o' : SO), l[j']? = some o' → o'.dst = some t → j' = i := fun j' o' hj' hd' => drawOk_uniq hdr hj' hi hd' hdi
      have hin : i ∈ (ancs pre).getD xs.length [] := by
        rcases drawOk_cmp hdr hi hj hdi ht (by omega) with h' | h'
        · exact h'
        · have := ancs_lt hp _ _ h'; omega
      rw [mk_fr_new _ t l xs 0 s0 i oi _ hi hxi (by rw [contains_iff]; simpa using hin) hdi hu, mk_fr_new _ t l xs 0 s0 i oi _ hi hxi (by rw [Nat.zero_add]; exact hallc i (by omega)) hdi hu]
    · rw [mk_fr_old2 _ t l xs 0 s0 fun k ok hk0 hk _ hdk => hw ⟨k, ok, hk0, hk, hdk⟩, mk_fr_old2 _ t l xs 0 s0 fun k ok hk0 hk _ hdk => hw ⟨k, ok, hk0, hk, hdk⟩]
  -- behind it
  have behind : ∀ (dn rest : List SO) (o : SO) (xs : Ents) (x : Option Eff), l = dn ++ o :: rest → dn.length = xs.length → ∀ t, lk (mk (allIn l.length) 0 l (xs ++ [x]) s0).fr t = if o.dst = some t then valOf x else lk (mk (allIn l.length) 0 l xs s0).fr t := fun dn rest o xs x hl hlen t => by
    have hj : l[xs.length]? = some o := by rw [hl, ← hlen, List.getElem?_append_right (Nat.le_refl _), Nat.sub_self]; rfl
    have hjl : xs.length < l.length := (List.getElem?_eq_some_iff.1 hj).1
    rw [mk_snoc _ l xs 0 s0 o x hj, if_pos (by rw [Nat.zero_add]; exact hallc _ hjl), entSt_fr]
  have putfr : ∀ (s : St) (dst : Option Tmp) (v : AV) (t : Nat), lk (put1 s dst (some v) [] s.nx).fr t = if dst = some t then some v else lk s.fr t := fun s dst v t => by
    cases dst with
    | none => simp [put1, frOf]
    | some d => simp only [put1, frOf, lk_cons, Option.some.injEq]
  induction h with
  | @nil s hk =>
    intro dn xs hl hlen hnt hnx hu hh hf
    exact .nil ⟨s, ⟨fun t => (hf t).symm, fun b => by rw [hh b]; exact hhp _ xs b hu, by rw [hnt]; exact (mk_nt _ _ _ _ _).1⟩, hnx, hk⟩
  | @op dst op g rest s v hd hg he _ ih =>
    intro dn xs hl hlen hnt hnx hu hh hf
    have hask := ask dn rest ⟨dst, op, g⟩ xs hl hlen
    have hsub : Sub op s (mk ((ancs pre).getD xs.length []) 0 l xs s0) := by
      refine ⟨fun y hy => ?_, fun b o hb => by rw [hhp _ xs b hu, ← hh b]; exact hb⟩
      cases y with
      | tmp t => show lk _ t = lk _ t; rw [hask t (temps_op (o := ⟨dst, op, g⟩) (by simpa using hy)), ← hf t]
      | _ => rfl
    refine .op (e := { val := some v }) (by unfold dstOk at hd ⊢; rw [← hnt]; exact hd) ?_ (.inl (effect_mono hsub (he _))) (by show 0 ≤ 14; omega) (fun p hp => by cases hp) (ih (dn ++ [⟨dst, op, g⟩]) (xs ++ [some { val := some v }]) (by rw [hl]; simp) (by simp [hlen]) hnt hnx (fun x hx => ?_) hh (fun t => ?_))
    · cases g with
      | none => trivial
      | some tw =>
        obtain ⟨t, w⟩ := tw
        simp only [gOk] at hg ⊢
        rw [boolV_cong (s' := s) ((hask t (temps_g (o := ⟨dst, op, some (t, w)⟩) rfl)).trans (hf t).symm)]
        exact hg
    · rcases List.mem_append.1 hx with hx | hx
      · exact hu x hx
      · simp at hx; subst hx; rfl
    · rw [putfr, behind dn rest ⟨dst, op, g⟩ xs _ hl hlen t, hf t]; rfl
  | @call dst f args ts g rest s vs ds r v hd hg hv ha hc hfl hr _ ih =>
    intro dn xs hl hlen hnt hnx hu hh hf
    have hask := ask dn rest ⟨dst, .call ⟨.value (.func f), args, ts⟩, g⟩ xs hl hlen
    have hev : ∀ y ∈ args.toList, evO (mk ((ancs pre).getD xs.length []) 0 l xs s0) y = evO s y := fun y hy => by
      cases y with
      | tmp t => show lk _ t = lk _ t; rw [hask t (temps_op (o := ⟨dst, .call ⟨.value (.func f), args, ts⟩, g⟩) (by simp [Op.operands, Call.operands]; simpa using hy)), ← hf t]
      | _ => rfl
    have hr0 := hr (seedOf s0 xs.length)
    refine .op (e := { val := some v }) (by unfold dstOk at hd ⊢; rw [← hnt]; exact hd) ?_ (.inr ⟨f, args, ts, vs, ds, r, rfl, by rw [evL_cong hev]; exact hv, argL_mono (fun b o hb => by rw [hhp _ xs b hu, ← hh b]; exact hb) ha, hc, .inr hfl, by rw [hr0]; simp⟩) (by show 0 ≤ 14; omega) (fun p hp => by cases hp)
      (ih (dn ++ [⟨dst, .call ⟨.value (.func f), args, ts⟩, g⟩]) (xs ++ [some { val := some v }]) (by rw [hl]; simp) (by simp [hlen]) hnt hnx (fun x hx => ?_) hh (fun t => ?_))
    · cases g with
      | none => trivial
      | some tw =>
        obtain ⟨t, w⟩ := tw
        simp only [gOk] at hg ⊢
        rw [boolV_cong (s' := s) ((hask t (temps_g (o := ⟨dst, .call ⟨.value (.func f), args, ts⟩, some (t, w)⟩) rfl)).trans (hf t).symm)]
        exact hg
    · rcases List.mem_append.1 hx with hx | hx
      · exact hu x hx
      · simp at hx; subst hx; rfl
    · rw [putfr, behind dn rest ⟨dst, .call ⟨.value (.func f), args, ts⟩, g⟩ xs _ hl hlen t, hf t]; rfl
  | @off dst op t w rest s hd hb _ ih =>
    intro dn xs hl hlen hnt hnx hu hh hf
    have hask := ask dn rest ⟨dst, op, some (t, w)⟩ xs hl hlen
    refine .off (by unfold dstOk at hd ⊢; rw [← hnt]; exact hd) (offB_cong (s := s) ((hf t).trans (hask t (temps_g (o := ⟨dst, op, some (t, w)⟩) rfl)).symm) hb) (ih (dn ++ [⟨dst, op, some (t, w)⟩]) (xs ++ [none]) (by rw [hl]; simp) (by simp [hlen]) hnt hnx (fun x hx => ?_) hh (fun t' => ?_))
    · rcases List.mem_append.1 hx with hx | hx
      · exact hu x hx
      · simp at hx; subst hx; rfl
    · rw [show (skip1 s dst) = put1 s dst (some (.tup [])) [] s.nx from rfl, putfr, behind dn rest ⟨dst, op, some (t, w)⟩ xs _ hl hlen t', hf t']; rfl
  | @know l' s b t hb _ _ iht ihf =>
    intro dn xs hl hlen hnt hnx hu hh hf
    have key : ∀ t', lk ((t, vv (.bool b)) :: s.fr) t' = lk s.fr t' := fun t' => by
      rw [lk_cons]
      by_cases he : t = t'
      · subst he
        rw [if_pos rfl]
        unfold boolV at hb
        split at hb
        · rename_i b' hb'
          cases hb
          exact hb'.symm
        · cases hb
      · rw [if_neg he]
    cases b with
    | true => exact iht rfl dn xs hl hlen hnt hnx hu hh fun t' => (key t').trans (hf t')
    | false => exact ihf rfl dn xs hl hlen hnt hnx hu hh fun t' => (key t').trans (hf t')
end
end Go.Proofs.Ytnmpdpijcehofaa.Eng
