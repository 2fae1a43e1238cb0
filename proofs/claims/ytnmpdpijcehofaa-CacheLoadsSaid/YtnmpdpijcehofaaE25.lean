/-
  Values seen as data: a part of the engine, of no one program. No condition.
-/
import Derived.Test.YtnmpdpijcehofaaE24
namespace Go.Proofs.Ytnmpdpijcehofaa.Eng
set_option linter.all false
noncomputable section
open Go.RowKit

/-- One operation, in any state that knows enough. -/
def stepE (P : Program) (s : St) (seed : Nat) (op : Op) (e : Eff) : Prop :=
  effect P s seed op = some e ∨
  ∃ f args ts vs ds r, op = .call ⟨.value (.func f), args, ts⟩ ∧ evL s args.toList = some vs ∧ argL s.hp vs = some ds ∧ Con P f ds r ∧ (vs.flatMap idsX = [] ∨ Flat r) ∧
    e = ⟨some (unV' seed r).1, (unV' seed r).2.1, (unV' seed r).2.2 - seed⟩
theorem stepE_mono {P : Program} {s s' : St} {seed : Nat} {op : Op} {e : Eff} (h : Sub op s s') (he : stepE P s seed op e) : stepE P s' seed op e := by
  rcases he with he | ⟨f, args, ts, vs, ds, r, rfl, h1, h2, h3, h4, h5⟩
  · exact .inl (effect_mono h he)
  · refine .inr ⟨f, args, ts, vs, ds, r, rfl, ?_, argL_mono h.hp h2, h3, h4, h5⟩
    rw [← h1]
    exact evL_cong fun x hx => h.ev x (by simp [Op.operands, Call.operands]; exact .inr (by simpa using hx))
section
variable {P : Program} {U : Nat → Prop} {w0 : Base} {N : Nat → Prop} {s : St} {a : Act} {w : World} {ι : Nat → Option Nat} {seed : Nat} {o : Oper}
theorem stepE_sound (h : Rel U w0 N s a w ι) (hU : ∀ b, w0.w.heap.size ≤ b → U b) {e : Eff} {K' : Act → World → Prop} {Q : Exit → Act → World → Prop} (hd : dstOk s o.dst = true) (hN : ∀ k, seed ≤ k → k < seed + (e.cnt + 1) → ¬ N k) (hA : stepE P s seed o.op e)
    (hK : ∀ ι' a' w', Rel U w0 (Span N seed (seed + e.cnt)) (put1 s o.dst e.val e.ups s.nx) a' w' ι' → K' a' w') : o.wp P a w K' Q := by
  have dst : ∀ {s' : St} {a : Act} {w : World} {ι : Nat → Option Nat} {N : Nat → Prop} {v : Value}, Rel U w0 N s' a w ι → s'.fr = s.fr → s'.nt = s.nt → (∀ y, e.val = some y → RepV (env U N s' w ι) v y) → Rel U w0 N { s' with fr := frOf s.fr o.dst e.val } (a.put o.dst v) w ι := by
    intro s' a w ι N v hr hf hn hv
    cases hdst : o.dst with
    | none => rw [← hf]; exact hr
    | some d =>
      rw [hdst] at hd
      have hlt : d < s'.nt := by rw [hn]; simpa [dstOk] using hd
      cases hval : e.val with
      | none => simp only [frOf]; rw [← hf]; exact hr.forget d v
      | some y => simp only [frOf]; rw [← hf]; exact hr.put hlt (hv y hval)
  rcases hA with he | ⟨f, args, ts, vs, ds, r, hop, h1, h2, h3, h4, h5⟩
  · obtain ⟨v, w', ι', hout, hr, hv⟩ := good_effect h (fun k hk => hN _ (by omega) (by omega)) he
    have hfin := hK ι' (a.put o.dst v) w' (dst (s' := { s with hp := e.ups ++ s.hp }) (hr.weakN (nx' := s.nx) (fun _ h => h)) rfl rfl (fun y hy => (hv y hy).keep (E' := env U (Span N seed (seed + e.cnt)) { s with hp := e.ups ++ s.hp } w' ι') (Step.same rfl rfl rfl rfl fun _ h => h)))
    unfold Oper.wp
    rcases hout with hrun | ⟨rfl, hrun⟩
    · rw [hrun]; exact hfin
    · rw [hrun]; exact hfin
  · have hle := unV'_le seed r
    have hcnt : seed + e.cnt = (unV' seed r).2.2 := by rw [h5]; simp only; omega
    have hfz : ∃ fz : Bool, (fz = true ∨ Flat r) ∧ callHp s fz vs = s.hp := by
      rcases h4 with h4 | h4
      · exact ⟨true, .inl rfl, by simp [callHp, h4, frz]⟩
      · exact ⟨false, .inr h4, rfl⟩
    obtain ⟨fz, hfz, hcp⟩ := hfz
    refine call_wp h hU hop h1 h2 h3 hfz (lim := (unV' seed r).2.2) (fun k hk hk' hn => hN k hk (by omega) hn) (Nat.le_refl _) (fun v w' ι' hr hv => ?_)
    rw [hcp] at hr hv
    have hr' : Rel U w0 (Span N seed (seed + e.cnt)) { s with hp := e.ups ++ s.hp } a w' ι' := by
      rw [hcnt, h5]
      exact (hr.weakN (nx' := s.nx) (fun _ h => h) : Rel U w0 (Span N seed (unV' seed r).2.2) { (App (unV' seed r).2.1 (unV' seed r).2.2 s) with nx := s.nx } a w' ι')
    refine hK ι' _ w' (dst hr' rfl rfl fun y hy => ?_)
    rw [h5] at hy
    cases hy
    rw [hcnt, h5]
    exact hv.keep (E' := env U (Span N seed (unV' seed r).2.2) { s with hp := (unV' seed r).2.1 ++ s.hp } w' ι') (Step.same rfl rfl rfl rfl fun _ h => h)
end

/-! ### Who waits for whom -/
def ancs (pre : List (List Nat)) : List (List Nat) := pre.foldl (fun acc p => acc ++ [(p ++ p.flatMap fun i => acc.getD i []).eraseDups]) []
abbrev Ents := List (Option Eff)
/-- The state in which those of the operations have been carried out that are in the list. -/
def mk (anc : List Nat) : Nat → List SO → Ents → St → St
  | i, o :: l, x :: xs, s => mk anc (i + 1) l xs (if anc.contains i then (match x with
      | some e => put1 s o.dst e.val e.ups s.nx
      | none => skip1 s o.dst) else s)
  | _, _, _, s => s
def temps (o : SO) : List Nat := (o.op.operands.toList.filterMap fun | .tmp t => some t | _ => none) ++ (match o.g with | some (t, _) => [t] | none => [])
/-- No temporary is written twice; who reads one that is written here waits for it, or is waited for. -/
def drawOk (l : List SO) (A : List (List Nat)) : Bool :=
  (List.range l.length).all fun j => (List.range l.length).all fun i => i == j ||
    match (l[i]?).bind (·.dst), l[j]? with
    | some d, some o => o.dst != some d && (!(temps o).contains d || (A.getD j []).contains i || (A.getD i []).contains j)
    | _, _ => true
def seedOf (s0 : St) (j : Nat) : Nat := s0.nx + 16 * j
def entOk (P : Program) (s0 : St) (A : List (List Nat)) (l : List SO) (xs : Ents) (j : Nat) (o : SO) (x : Option Eff) : Prop :=
  dstOk s0 o.dst = true ∧
  match x with
  | some e => gOk (mk (A.getD j []) 0 l xs s0) o.g ∧ stepE P (mk (A.getD j []) 0 l xs s0) (seedOf s0 j) o.op e ∧ e.cnt ≤ 14 ∧ ∀ p ∈ e.ups, seedOf s0 j ≤ p.1 ∧ p.1 < seedOf s0 j + e.cnt
  | none => ∃ t w, o.g = some (t, w) ∧ offB (mk (A.getD j []) 0 l xs s0) t w
def allIn (n : Nat) : List Nat := List.range n
inductive DrawA (P : Program) (K : St → Prop) (s0 : St) (A : List (List Nat)) (l : List SO) : List SO → Ents → Prop
  | nil {xs} (h : K { mk (allIn l.length) 0 l xs s0 with nx := s0.nx + 16 * l.length }) : DrawA P K s0 A l [] xs
  | op {dst op g rest xs e} (hd : dstOk s0 dst = true) (hg : gOk (mk (A.getD xs.length []) 0 l xs s0) g) (he : stepE P (mk (A.getD xs.length []) 0 l xs s0) (seedOf s0 xs.length) op e) (hc : e.cnt ≤ 14)
      (hn : ∀ p ∈ e.ups, seedOf s0 xs.length ≤ p.1 ∧ p.1 < seedOf s0 xs.length + e.cnt) (h : DrawA P K s0 A l rest (xs ++ [some e])) : DrawA P K s0 A l (⟨dst, op, g⟩ :: rest) xs
  | off {dst op t w rest xs} (hd : dstOk s0 dst = true) (hb : offB (mk (A.getD xs.length []) 0 l xs s0) t w) (h : DrawA P K s0 A l rest (xs ++ [none])) : DrawA P K s0 A l (⟨dst, op, some (t, w)⟩ :: rest) xs
  | split {rest xs} (b : Bool) (ht : b = true → DrawA P K s0 A l rest xs) (hf : b = false → DrawA P K s0 A l rest xs) : DrawA P K s0 A l rest xs

theorem mk_short (anc : List Nat) : ∀ (l : List SO) (xs ys : Ents) (i : Nat) (s : St), (∀ k ∈ anc, k < i + xs.length) → mk anc i l (xs ++ ys) s = mk anc i l xs s
  | [], xs, ys, i, s, _ => by cases xs <;> cases ys <;> rfl
  | o :: l, x :: xs, ys, i, s, h => by
    simp only [List.cons_append, mk]
    exact mk_short anc l xs ys (i + 1) _ (fun k hk => by have := h k hk; simp at this; omega)
  | o :: l, [], ys, i, s, h => by
    simp only [List.nil_append, mk]
    have key : ∀ (l : List SO) (ys : Ents) (i : Nat) (s : St), (∀ k ∈ anc, k < i) → mk anc i l ys s = s := by
      intro l
      induction l with
      | nil => intro ys i s _; cases ys <;> rfl
      | cons o l ih =>
        intro ys i s hk
        cases ys with
        | nil => rfl
        | cons y ys =>
          simp only [mk]
          have : anc.contains i = false := by
            simp only [List.contains_eq_mem, decide_eq_false_iff_not]
            exact fun hm => absurd (hk i hm) (Nat.lt_irrefl _)
          rw [this]
          exact ih ys (i + 1) s fun k hm => Nat.lt_succ_of_lt (hk k hm)
    exact key (o :: l) ys i s (fun k hk => by simpa using h k hk)

/-! ### The state behind any of the orders -/
theorem lk_app {α : Type} (u l : List (Nat × α)) (b : Nat) : lk (u ++ l) b = match lk u b with
    | some o => some o
    | none => lk l b := by
  induction u with
  | nil => rfl
  | cons p u ih =>
    obtain ⟨k, v⟩ := p
    simp only [List.cons_append, lk_cons]
    split
    · rfl
    · exact ih
def entSt (s : St) (o : SO) (x : Option Eff) : St :=
  match x with
  | some e => put1 s o.dst e.val e.ups s.nx
  | none => skip1 s o.dst
theorem mk_cons (anc : List Nat) (i : Nat) (o : SO) (l : List SO) (x : Option Eff) (xs : Ents) (s : St) : mk anc i (o :: l) (x :: xs) s = mk anc (i + 1) l xs (if anc.contains i then entSt s o x else s) := rfl
def valOf (x : Option Eff) : Option AV :=
  match x with
  | some e => e.val
  | none => some (.tup [])
def upsOf (x : Option Eff) : List (Nat × Ob) :=
  match x with
  | some e => e.ups
  | none => []
theorem entSt_fr (s : St) (o : SO) (x : Option Eff) (t : Nat) : lk (entSt s o x).fr t = if o.dst = some t then valOf x else lk s.fr t := by
  have key : ∀ v, lk (frOf s.fr o.dst v) t = if o.dst = some t then v else lk s.fr t := fun v => by
    cases hd : o.dst with
    | none => simp [frOf]
    | some d =>
      cases v with
      | none => simp only [frOf, lk_del, Option.some.injEq]
      | some v => simp only [frOf, lk_cons, Option.some.injEq]
  cases x with
  | none => exact key (some (.tup []))
  | some e => exact key e.val
theorem entSt_hp (s : St) (o : SO) (x : Option Eff) : (entSt s o x).hp = upsOf x ++ s.hp := by
  cases x <;> rfl
theorem entSt_nt (s : St) (o : SO) (x : Option Eff) : (entSt s o x).nt = s.nt ∧ (entSt s o x).nx = s.nx := by
  cases x <;> exact ⟨rfl, rfl⟩
theorem mk_nt (anc : List Nat) : ∀ (l : List SO) (xs : Ents) (i : Nat) (s : St), (mk anc i l xs s).nt = s.nt ∧ (mk anc i l xs s).nx = s.nx
  | [], xs, i, s => by cases xs <;> exact ⟨rfl, rfl⟩
  | o :: l, [], i, s => ⟨rfl, rfl⟩
  | o :: l, x :: xs, i, s => by
    rw [mk_cons]
    have h := mk_nt anc l xs (i + 1) (if anc.contains i then entSt s o x else s)
    have h2 := entSt_nt s o x
    split at h
    · rename_i hc; rw [if_pos hc]; exact ⟨h.1.trans h2.1, h.2.trans h2.2⟩
    · rename_i hc; rw [if_neg hc]; exact h
/-- A temporary that none of those carried out writes. -/
theorem mk_fr_old (anc : List Nat) (t : Nat) : ∀ (l : List SO) (xs : Ents) (i : Nat) (s : St), (∀ j o, l[j]? = some o → anc.contains (i + j) = true → o.dst ≠ some t) → lk (mk anc i l xs s).fr t = lk s.fr t
  | [], xs, i, s, _ => by cases xs <;> rfl
  | o :: l, [], i, s, _ => rfl
  | o :: l, x :: xs, i, s, h => by
    rw [mk_cons, mk_fr_old anc t l xs (i + 1) _ (fun j o' hj hc => h (j + 1) o' (by simpa using hj) (by rw [show i + (j + 1) = i + 1 + j by omega]; exact hc))]
    by_cases hc : anc.contains i = true
    · rw [if_pos hc, entSt_fr, if_neg (h 0 o rfl (by simpa using hc))]
    · rw [if_neg hc]
/-- A temporary that one of those carried out writes. -/
theorem mk_fr_new (anc : List Nat) (t : Nat) : ∀ (l : List SO) (xs : Ents) (i : Nat) (s : St) (j : Nat) (o : SO) (x : Option Eff), l[j]? = some o → xs[j]? = some x → anc.contains (i + j) = true → o.dst = some t →
    (∀ j' o', l[j']? = some o' → o'.dst = some t → j' = j) → lk (mk anc i l xs s).fr t = valOf x
  | [], xs, i, s, j, o, x, hj, _, _, _, _ => by simp at hj
  | o0 :: l, [], i, s, j, o, x, _, hx, _, _, _ => by simp at hx
  | o0 :: l, x0 :: xs, i, s, j, o, x, hj, hx, hc, hd, hu => by
    rw [mk_cons]
    cases j with
    | zero =>
      simp only [List.getElem?_cons_zero, Option.some.injEq] at hj hx
      subst hj hx
      rw [mk_fr_old anc t l xs (i + 1) _ (fun j' o' hj' _ hd' => by have := hu (j' + 1) o' (by simpa using hj') hd'; omega)]
      rw [if_pos (by simpa using hc), entSt_fr, if_pos hd]
    | succ j =>
      exact mk_fr_new anc t l xs (i + 1) _ j o x (by simpa using hj) (by simpa using hx) (by rw [show i + 1 + j = i + (j + 1) by omega]; exact hc) hd (fun j' o' hj' hd' => by have := hu (j' + 1) o' (by simpa using hj') hd'; omega)
theorem mk_hp_old (anc : List Nat) (b : Nat) : ∀ (l : List SO) (xs : Ents) (i : Nat) (s : St), (∀ j x, xs[j]? = some x → j < l.length → anc.contains (i + j) = true → lk (upsOf x) b = none) → lk (mk anc i l xs s).hp b = lk s.hp b
  | [], xs, i, s, _ => by cases xs <;> rfl
  | o :: l, [], i, s, _ => rfl
  | o :: l, x :: xs, i, s, h => by
    rw [mk_cons, mk_hp_old anc b l xs (i + 1) _ (fun j x' hj hl hc => h (j + 1) x' (by simpa using hj) (by simpa using hl) (by rw [show i + (j + 1) = i + 1 + j by omega]; exact hc))]
    by_cases hc : anc.contains i = true
    · rw [if_pos hc, entSt_hp, lk_app, h 0 x rfl (by simp) (by simpa using hc)]
    · rw [if_neg hc]
theorem mk_hp_new (anc : List Nat) (b : Nat) : ∀ (l : List SO) (xs : Ents) (i : Nat) (s : St) (j : Nat) (x : Option Eff) (ob : Ob), xs[j]? = some x → j < l.length → anc.contains (i + j) = true → lk (upsOf x) b = some ob →
    (∀ j' x', xs[j']? = some x' → j' ≠ j → lk (upsOf x') b = none) → lk (mk anc i l xs s).hp b = some ob
  | [], xs, i, s, j, x, ob, _, hl, _, _, _ => by simp at hl
  | o0 :: l, [], i, s, j, x, ob, hx, _, _, _, _ => by simp at hx
  | o0 :: l, x0 :: xs, i, s, j, x, ob, hx, hl, hc, hb, hu => by
    rw [mk_cons]
    cases j with
    | zero =>
      simp only [List.getElem?_cons_zero, Option.some.injEq] at hx
      subst hx
      rw [mk_hp_old anc b l xs (i + 1) _ (fun j' x' hj' _ _ => hu (j' + 1) x' (by simpa using hj') (by omega))]
      rw [if_pos (by simpa using hc), entSt_hp, lk_app, hb]
    | succ j =>
      exact mk_hp_new anc b l xs (i + 1) _ j x ob (by simpa using hx) (by simpa using hl) (by rw [show i + 1 + j = i + (j + 1) by omega]; exact hc) hb (fun j' x' hj' hne => hu (j' + 1) x' (by simpa using hj') (by omega))
/-- Two states that are asked alike. -/
structure Like (s s' : St) : Prop where
  fr : ∀ t, lk s.fr t = lk s'.fr t
  hp : ∀ b, lk s.hp b = lk s'.hp b
  nt : s.nt = s'.nt
theorem Rel.like {U : Nat → Prop} {w0 : Base} {N : Nat → Prop} {s s' : St} {a : Act} {w : World} {ι : Nat → Option Nat} (h : Rel U w0 N s a w ι) (hl : Like s s') : Rel U w0 N s' a w ι := by
  have e : lk s.hp = lk s'.hp := funext hl.hp
  have ee : env U N s w ι = env U N s' w ι := by unfold env; rw [e]
  exact ⟨fun t x ht => by rw [← ee]; exact h.fr t x ((hl.fr t).trans ht), fun b o hb => by rw [← ee]; exact h.ob b o ((hl.hp b).trans hb),
    fun b b' o o' g h1 h2 => h.inj b b' o o' g ((hl.hp b).trans h1) ((hl.hp b').trans h2), h.gr, h.nt.trans hl.nt, h.df, by rw [← ee]; exact h.st⟩
end
end Go.Proofs.Ytnmpdpijcehofaa.Eng
