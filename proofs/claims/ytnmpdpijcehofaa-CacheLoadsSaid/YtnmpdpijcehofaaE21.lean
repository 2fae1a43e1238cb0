/-
  Values seen as data: a part of the engine, of no one program. No condition.
-/
import Derived.Test.YtnmpdpijcehofaaE20
namespace Go.Proofs.Ytnmpdpijcehofaa.Eng
set_option linter.all false
noncomputable section
open Go.RowKit

/-! ### States that say less -/
def renC (ρ : Nat → Nat) : AC → AC
  | .own b L => .own (ρ b) L
  | .view b lo n L => .view (ρ b) lo n L
  | .ptr b off => .ptr (ρ b) off
  | .eptr b i off L => .eptr (ρ b) i off L
  | c => c
def renX (ρ : Nat → Nat) : AX → AX
  | .one c => .one (renC ρ c)
  | .agg cs => .agg (cs.map (renC ρ))
def renV (ρ : Nat → Nat) : AV → AV
  | .x a => .x (renX ρ a)
  | .tup l => .tup (l.map (renX ρ))
def renO (ρ : Nat → Nat) : Ob → Ob
  | .box cs => .box (cs.map (renC ρ))
  | o => o
def belC (nx : Nat) : AC → Prop
  | .own b _ => b < nx
  | .view b _ _ _ => b < nx
  | .ptr b _ => b < nx
  | .eptr b _ _ _ => b < nx
  | _ => True
def belL (nx : Nat) : List AC → Prop
  | [] => True
  | c :: cs => belC nx c ∧ belL nx cs
def belX (nx : Nat) : AX → Prop
  | .one c => belC nx c
  | .agg cs => belL nx cs
def belXs (nx : Nat) : List AX → Prop
  | [] => True
  | c :: cs => belX nx c ∧ belXs nx cs
def belV (nx : Nat) : AV → Prop
  | .x a => belX nx a
  | .tup l => belXs nx l
def belO (nx : Nat) : Ob → Prop
  | .box cs => belL nx cs
  | .row _ _ _ => True
def frIn (ρ : Nat → Nat) (nx : Nat) (s : St) : List (Nat × AV) → Prop
  | [] => True
  | (t, v) :: r => lk s.fr t = some (renV ρ v) ∧ belV nx v ∧ frIn ρ nx s r
def hpIn (ρ : Nat → Nat) (nx : Nat) (s : St) : List (Nat × Ob) → Prop
  | [] => True
  | (b, o) :: r => lk s.hp (ρ b) = some (renO ρ o) ∧ b < nx ∧ belO nx o ∧ (∀ p ∈ r, ρ p.1 ≠ ρ b ∧ p.1 ≠ b) ∧ hpIn ρ nx s r
/-- s0 says less than s: its slots and objects are among those of s, under other numbers. -/
def Wk (ρ : Nat → Nat) (s0 s : St) : Prop := frIn ρ s0.nx s s0.fr ∧ hpIn ρ s0.nx s s0.hp ∧ s0.nt = s.nt
def rho (l : List (Nat × Nat)) (b : Nat) : Nat := (lk l b).getD b

theorem frIn_lk {ρ : Nat → Nat} {nx : Nat} {s : St} : ∀ {l : List (Nat × AV)}, frIn ρ nx s l → ∀ {t : Nat} {v : AV}, lk l t = some v → lk s.fr t = some (renV ρ v) ∧ belV nx v
  | [], _, t, v, h => by cases h
  | (k, u) :: r, h, t, v, hl => by
    rw [lk_cons] at hl
    split at hl
    · rename_i hk; subst hk; cases hl; exact ⟨h.1, h.2.1⟩
    · exact frIn_lk h.2.2 hl
theorem lk_mem {α : Type} : ∀ {l : List (Nat × α)} {t : Nat} {v : α}, lk l t = some v → (t, v) ∈ l
  | [], t, v, h => by cases h
  | (k, u) :: r, t, v, h => by
    rw [lk_cons] at h
    split at h
    · rename_i hk; subst hk; cases h; simp
    · exact List.mem_cons_of_mem _ (lk_mem h)
theorem hpIn_lk {ρ : Nat → Nat} {nx : Nat} {s : St} : ∀ {l : List (Nat × Ob)}, hpIn ρ nx s l → ∀ {b : Nat} {o : Ob}, lk l b = some o → lk s.hp (ρ b) = some (renO ρ o) ∧ b < nx ∧ belO nx o
  | [], _, t, v, h => by cases h
  | (k, u) :: r, h, t, v, hl => by
    rw [lk_cons] at hl
    split at hl
    · rename_i hk; subst hk; cases hl; exact ⟨h.1, h.2.1, h.2.2.1⟩
    · exact hpIn_lk h.2.2.2.2 hl
theorem hpIn_inj {ρ : Nat → Nat} {nx : Nat} {s : St} : ∀ {l : List (Nat × Ob)}, hpIn ρ nx s l → ∀ {b b' : Nat} {o o' : Ob}, lk l b = some o → lk l b' = some o' → ρ b = ρ b' → b = b'
  | [], _, b, b', o, o', h, _, _ => by cases h
  | (k, u) :: r, h, b, b', o, o', h1, h2, he => by
    rw [lk_cons] at h1 h2
    split at h1 <;> split at h2
    · rename_i e1 e2; exact e1.symm.trans e2
    · rename_i e1 e2; subst e1; exact absurd he.symm (h.2.2.2.1 _ (lk_mem h2)).1
    · rename_i e1 e2; subst e2; exact absurd he (h.2.2.2.1 _ (lk_mem h1)).1
    · exact hpIn_inj h.2.2.2.2 h1 h2 he

section
variable {P : Program} {U : Nat → Prop} {w0 : Base} {N : Nat → Prop} {s s0 : St} {a : Act} {w : World} {ι : Nat → Option Nat}

theorem belL_mem {nx : Nat} : ∀ {l : List AC}, belL nx l → ∀ c ∈ l, belC nx c
  | [], _, c, h => by cases h
  | c :: l, h, c', hm => by rcases List.mem_cons.1 hm with rfl | hm; exact h.1; exact belL_mem h.2 c' hm
theorem belXs_mem {nx : Nat} : ∀ {l : List AX}, belXs nx l → ∀ c ∈ l, belX nx c
  | [], _, c, h => by cases h
  | c :: l, h, c', hm => by rcases List.mem_cons.1 hm with rfl | hm; exact h.1; exact belXs_mem h.2 c' hm
theorem All2.ren {α β : Type} {R R' : α → β → Prop} {f : β → β} {q : β → Prop} (h : ∀ a b, q b → R a (f b) → R' a b) : ∀ {l : List α} {cs : List β}, (∀ c ∈ cs, q c) → All2 R l (cs.map f) → All2 R' l cs
  | [], [], _, _ => .nil
  | _ :: _, c :: cs, hq, .cons h1 t => .cons (h _ _ (hq c (by simp)) h1) (All2.ren h (fun c' hc => hq c' (by simp [hc])) t)

theorem RS.weak {ρ : Nat → Nat} (hfree : w0.free) (hw : Wk ρ s0 s) (h : RS U w0 s a w) : RS U w0 s0 a w := by
  obtain ⟨ι, h⟩ := h
  obtain ⟨hfr, hhp, hnt⟩ := hw
  have hS : ∀ b, Tr U w ι (lk s.hp) b → Tr U w (fun b => ι (ρ b)) (lk s0.hp) b := fun b ⟨h1, h2, h3⟩ => ⟨h1, h2, fun b' o' hb' hm hi => by
    obtain ⟨q1, q2, _⟩ := hpIn_lk hhp hb'
    exact h3 (ρ b') _ q1 (by cases o' <;> exact hm) hi⟩
  have hC : ∀ (x : Value) (c : AC), belC s0.nx c → RepC (env U (Lt s.nx) s w ι) x (renC ρ c) → RepC (env U (Lt s0.nx) s0 w (fun b => ι (ρ b))) x c := fun x c hb hr => by
    cases c with
    | d c => exact Shows.keep hS (fun _ _ => rfl) hr
    | own b L =>
      obtain ⟨_, h1, h2⟩ := hr
      refine ⟨hb, h1, fun sz es fz hH => ?_⟩
      obtain ⟨q1, _, _⟩ := hpIn_lk hhp hH
      exact h2 sz es fz q1
    | view b lo n L =>
      obtain ⟨_, h1, h2⟩ := hr
      refine ⟨hb, h1, fun sz es fz hH => ?_⟩
      obtain ⟨q1, _, _⟩ := hpIn_lk hhp hH
      exact h2 sz es fz q1
    | ptr b off =>
      obtain ⟨_, h1, h2⟩ := hr
      refine ⟨hb, h1, fun cs hH => ?_⟩
      obtain ⟨q1, _, _⟩ := hpIn_lk hhp hH
      exact h2 _ q1
    | eptr b i off L =>
      obtain ⟨_, h1, h2⟩ := hr
      refine ⟨hb, h1, fun sz es fz hH => ?_⟩
      obtain ⟨q1, _, _⟩ := hpIn_lk hhp hH
      exact h2 sz es fz q1
    | cptr cs =>
      obtain ⟨ad, h1, h2, h3⟩ := hr
      exact ⟨ad, h1, fun hne => hS _ (h2 hne), fun k c hk => by obtain ⟨y, hy, hs⟩ := h3 k c hk; exact ⟨y, hy, Shows.keep hS (fun _ _ => rfl) hs⟩⟩
  have hX : ∀ (x : Value) (c : AX), belX s0.nx c → RepX (env U (Lt s.nx) s w ι) x (renX ρ c) → RepX (env U (Lt s0.nx) s0 w (fun b => ι (ρ b))) x c := fun x c hb hr => by
    cases c with
    | one c => exact hC x c hb hr
    | agg cs => obtain ⟨arr, h1, h2⟩ := hr; exact ⟨arr, h1, All2.ren (q := belC s0.nx) hC (belL_mem hb) h2⟩
  refine ⟨fun b => ι (ρ b), fun t x ht => ?_, fun b o hb => ?_, fun b b' o o' g h1 h2 g1 g2 => ?_, h.gr, h.nt.trans hnt.symm, h.df, hfree _⟩
  · obtain ⟨q1, q2⟩ := frIn_lk hfr ht
    obtain ⟨v, h1, h2⟩ := h.fr t _ q1
    refine ⟨v, h1, ?_⟩
    cases x with
    | x c => exact hX v c q2 h2
    | tup l => obtain ⟨arr, h3, h4⟩ := h2; exact ⟨arr, h3, All2.ren (q := belX s0.nx) hX (belXs_mem q2) h4⟩
  · obtain ⟨q1, q2, q3⟩ := hpIn_lk hhp hb
    refine ⟨q2, ?_⟩
    obtain ⟨_, hr⟩ := h.ob _ _ q1
    unfold RepO at hr ⊢
    have e1 : (env U (Lt s0.nx) s0 w (fun b => ι (ρ b))).ι b = ι (ρ b) := rfl
    have e2 : (env U (Lt s.nx) s w ι).ι (ρ b) = ι (ρ b) := rfl
    rw [e1]
    rw [e2] at hr
    cases hi : ι (ρ b) with
    | none =>
      rw [hi] at hr
      obtain ⟨sz, fz, he⟩ := hr
      cases o with
      | box cs => simp [renO] at he
      | row sz' es' fz' => simp only [renO] at he; exact ⟨sz, fz, he⟩
    | some g =>
      rw [hi] at hr
      obtain ⟨h1, cur, ty, h2, h3, h4⟩ := hr
      refine ⟨h1, cur, ty, h2, fun k c hk => ?_, ?_⟩
      · cases o with
        | box cs =>
          have hk' : cs[k]? = some c := hk
          obtain ⟨y, hy, hr⟩ := h3 k (renC ρ c) (by show (cs.map (renC ρ))[k]? = _; rw [List.getElem?_map, hk']; rfl)
          exact ⟨y, hy, hC y c (belL_mem q3 c (List.mem_of_getElem? hk')) hr⟩
        | row sz es fz =>
          obtain ⟨y, hy, hr⟩ := h3 k c hk
          have hk' : (es.flatten.map AC.d)[k]? = some c := hk
          rw [List.getElem?_map] at hk'
          obtain ⟨d, _, rfl⟩ := Option.map_eq_some_iff.1 hk'
          exact ⟨y, hy, hC y (.d d) trivial hr⟩
      · cases o with
        | box cs => simp only [Ob.shape, renO, List.length_map] at h4 ⊢; exact h4
        | row sz es fz => exact h4
  · obtain ⟨q1, _, _⟩ := hpIn_lk hhp h1
    obtain ⟨q2, _, _⟩ := hpIn_lk hhp h2
    exact hpIn_inj hhp h1 h2 (h.inj _ _ _ _ g q1 q2 g1 g2)
end

/-! ### Regions, by rules -/
def gOk (s : St) (g : Option (Nat × Bool)) : Prop :=
  match g with
  | none => True
  | some (t, w) => boolV s t = some w
/-- What is to be shown of a region. -/
inductive RegA (W : Prop) (P : Program) (K : St → Prop) : List SO → St → Prop
  | nil {s} (h : K s) : RegA W P K [] s
  | op {dst op g rest s e} (hg : gOk s g) (hd : dstOk s dst = true) (he : effect P s s.nx op = some e) (h : RegA W P K rest (put1 s dst e.val e.ups (s.nx + e.cnt))) : RegA W P K (⟨dst, op, g⟩ :: rest) s
  | call {dst f args ts g rest s vs ds r fz} (hg : gOk s g) (hd : dstOk s dst = true) (hv : evL s args.toList = some vs) (ha : argL s.hp vs = some ds) (hc : Con P f ds r) (hfz : fz = true ∨ Flat r)
      (h : RegA W P K rest (put1 { s with hp := callHp s fz vs } dst (some (unV' s.nx r).1) (unV' s.nx r).2.1 (unV' s.nx r).2.2)) : RegA W P K (⟨dst, .call ⟨.value (.func f), args, ts⟩, g⟩ :: rest) s
  | off {dst op t w rest s} (hb : offB s t w) (hd : dstOk s dst = true) (h : RegA W P K rest (skip1 s dst)) : RegA W P K (⟨dst, op, some (t, w)⟩ :: rest) s
  | know {l s b} (t : Nat) (hb : boolV s t = some b) (ht : b = true → RegA W P K l (know s t true)) (hf : b = false → RegA W P K l (know s t false)) : RegA W P K l s
  | callH {dst x args ts g rest s f vs hp' nx' r} (hg : gOk s g) (hd : dstOk s dst = true) (hf : evP s x = some (.func (.func f) #[] #[])) (hv : evL s args.toList = some vs) (hc : CallH P f s.hp s.nx vs hp' nx' r)
      (h : RegA W P K rest (put1 { s with hp := hp', nx := nx' } dst (some r) [] nx')) : RegA W P K (⟨dst, .call ⟨.value x, args, ts⟩, g⟩ :: rest) s
  | frz {l s} (t : Nat) (h : RegA W P K l (frzT s t)) : RegA W P K l s
  | weak {l s s0} (hW : W) (ρ : List (Nat × Nat)) (hw : Wk (rho ρ) s0 s) (h : RegA W P K l s0) : RegA W P K l s
section
variable {P : Program} {U : Nat → Prop} {w0 : Base}
theorem regA_sound {W : Prop} (hfree : W → w0.free) (hU : ∀ b, w0.w.heap.size ≤ b → U b) {ops : Array Oper} {Q : Exit → Act → World → Prop} {K : St → Prop} (hK : ∀ s' a' w', K s' → RS U w0 s' a' w' → Q .normal a' w')
    {sl : List SO} {s : St} (hA : RegA W P K sl s) : ∀ {l : List Oper}, All2 (SOk ops) l sl → ∀ (a : Act) (w : World), RS U w0 s a w → wpList P ops Q l a w := by
  induction hA with
  | nil hk => intro l hl a w h; cases hl; exact hK _ a w hk h
  | @op dst op g rest s e hg hd he _ ih =>
    intro l hl a w h
    cases hl with
    | @cons o _ os _ hso ht =>
      obtain ⟨e1, e2, e3⟩ := hso
      simp only at e1 e2 e3
      subst e1 e2
      obtain ⟨ι, h⟩ := h
      have hw : Region.wanted o (yielded ops a.tmps) = true := by
        cases hog : o.guard with
        | none => simp [Region.wanted, hog]
        | some jw =>
          obtain ⟨j, w'⟩ := jw
          rw [hog] at e3
          cases g with
          | none => exact e3.elim
          | some tw =>
            obtain ⟨t, w''⟩ := tw
            obtain ⟨et, rfl⟩ := e3
            have hy : yielded ops a.tmps j = some w'' := by unfold yielded; rw [et]; simp [bool_val h hg]
            simp [Region.wanted, hog, hy]
      unfold wpList
      rw [if_pos hw]
      refine .inl (step_sound h hU hd (fun b hb => hb) (K := fun s' => s' = put1 s o.dst e.val e.ups (s.nx + e.cnt)) (stepA_eff he rfl) (fun s' a' w' hk hr => ?_))
      subst hk
      exact ih ht a' w' hr
  | @call dst f args ts g rest s vs ds r fz hg hd hv ha hc hfz _ ih =>
    intro l hl a w h
    cases hl with
    | @cons o _ os _ hso ht =>
      obtain ⟨e1, e2, e3⟩ := hso
      simp only at e1 e2 e3
      subst e1
      obtain ⟨ι, h⟩ := h
      have hw : Region.wanted o (yielded ops a.tmps) = true := by
        cases hog : o.guard with
        | none => simp [Region.wanted, hog]
        | some jw =>
          obtain ⟨j, w'⟩ := jw
          rw [hog] at e3
          cases g with
          | none => exact e3.elim
          | some tw =>
            obtain ⟨t, w''⟩ := tw
            obtain ⟨et, rfl⟩ := e3
            have hy : yielded ops a.tmps j = some w'' := by unfold yielded; rw [et]; simp [bool_val h hg]
            simp [Region.wanted, hog, hy]
      unfold wpList
      rw [if_pos hw]
      refine .inl (step_sound h hU hd (fun b hb => hb) (K := fun s' => s' = put1 { s with hp := callHp s fz vs } o.dst (some (unV' s.nx r).1) (unV' s.nx r).2.1 (unV' s.nx r).2.2) ?_ (fun s' a' w' hk hr => ?_))
      · rw [← e2]
        exact ⟨vs, ds, r, fz, hv, ha, hc, hfz, rfl⟩
      · subst hk
        exact ih ht a' w' hr
  | @off dst op t w' rest s hb hd _ ih =>
    intro l hl a w h
    cases hl with
    | @cons o _ os _ hso ht =>
      obtain ⟨e1, e2, e3⟩ := hso
      simp only at e1 e2 e3
      subst e1 e2
      obtain ⟨ι, h⟩ := h
      have hw : Region.wanted o (yielded ops a.tmps) = false := by
        cases hog : o.guard with
        | none => rw [hog] at e3; exact e3.elim
        | some jw =>
          obtain ⟨j, w''⟩ := jw
          rw [hog] at e3
          obtain ⟨et, rfl⟩ := e3
          simp only [Region.wanted, hog]
          exact off_yield h et hb
      unfold wpList
      rw [if_neg (by simp [hw])]
      exact ih ht _ _ (h.dst (x := some (.tup [])) hd (fun _ hy => by cases hy; exact rep_undef) (fun b hb => hb))
  | @know l s b t hb _ _ iht ihf =>
    intro l' hl a w h
    have hk := RS.know h hb
    cases b with
    | true => exact iht rfl hl a w hk
    | false => exact ihf rfl hl a w hk
  | @callH dst x args ts g rest s f vs hp' nx' r hg hd hf hv hc _ ih =>
    intro l hl a w h
    cases hl with
    | @cons o _ os _ hso ht =>
      obtain ⟨e1, e2, e3⟩ := hso
      simp only at e1 e2 e3
      subst e1
      obtain ⟨ι, h⟩ := h
      have hw : Region.wanted o (yielded ops a.tmps) = true := by
        cases hog : o.guard with
        | none => simp [Region.wanted, hog]
        | some jw =>
          obtain ⟨j, w'⟩ := jw
          rw [hog] at e3
          cases g with
          | none => exact e3.elim
          | some tw =>
            obtain ⟨t, w''⟩ := tw
            obtain ⟨et, rfl⟩ := e3
            have hy : yielded ops a.tmps j = some w'' := by unfold yielded; rw [et]; simp [bool_val h hg]
            simp [Region.wanted, hog, hy]
      unfold wpList
      rw [if_pos hw]
      refine .inl (callH_wp h hU e2.symm hf hv hc fun v w' ι' hr hrep => ?_)
      exact ih ht _ w' (hr.dst (x := some r) (by cases hdst : o.dst with
        | none => rfl
        | some d => rw [hdst] at hd; exact hd) (fun y hy => by cases hy; exact hrep) (fun b hb => hb))
  | frz t _ ih => exact fun hl a w h => ih hl a w (by
      obtain ⟨ι, h⟩ := h
      exact ⟨ι, by rw [frzT_nx]; exact h.frzT hU t⟩)
  | weak hW ρ hw _ ih => exact fun hl a w h => ih hl a w (RS.weak (hfree hW) hw h)
end

/-! ### Code -/
inductive SC where
  | skip
  | reg (l : List SO)
  | draw (l : List SO) (pre : List (List Nat))
  | seq (a b : SC)
  | cond (c : Operand) (a b : SC)
  | block (id : Nat) (c : SC)
  | loop (c : SC)
  | scope (c : SC)
  | exit (id : Nat)
  | goto (l : Nat)
  | ret
def slimO (ops : Array Oper) (o : Oper) : Option SO :=
  match o.guard with
  | none => some ⟨o.dst, o.op, none⟩
  | some (j, w) => match (ops[j]?).bind (·.dst) with
    | some t => some ⟨o.dst, o.op, some (t, w)⟩
    | none => none
def slimR (ops : Array Oper) : List Oper → Option (List SO)
  | [] => some []
  | o :: l => match slimO ops o, slimR ops l with
    | some x, some xs => some (x :: xs)
    | _, _ => none
def preds (l : List Oper) : List (List Nat) := l.map fun o => (o.after.toList.filter fun e => Region.binds .any e).map (·.on)
def slim : Code → Option SC
  | .skip => some .skip
  | .label _ => some .skip
  | .region _ ops draw => match slimR ops ops.toList with
    | some l => some (if draw then .draw l (preds ops.toList) else .reg l)
    | none => none
  | .seq a b => match slim a, slim b with
    | some x, some y => some (.seq x y)
    | _, _ => none
  | .cond c a b => match slim a, slim b with
    | some x, some y => some (.cond c x y)
    | _, _ => none
  | .block id c => (slim c).map (.block id)
  | .loop c => (slim c).map .loop
  | .scope c => (slim c).map .scope
  | .exit id => some (.exit id)
  | .goto l => some (.goto l)
  | .ret => some .ret
  | _ => none
theorem slimO_ok {ops : Array Oper} {o : Oper} {x : SO} (h : slimO ops o = some x) : SOk ops o x := by
  unfold slimO at h
  split at h
  · rename_i hg; cases h; exact ⟨rfl, rfl, by rw [hg]; trivial⟩
  · rename_i j w hg
    split at h
    · rename_i t ht; cases h; exact ⟨rfl, rfl, by rw [hg]; exact ⟨ht, rfl⟩⟩
    · cases h
theorem slimR_ok {ops : Array Oper} : ∀ {l : List Oper} {sl : List SO}, slimR ops l = some sl → All2 (SOk ops) l sl
  | [], sl, h => by simp only [slimR, Option.some.injEq] at h; subst h; exact .nil
  | o :: l, sl, h => by
    simp only [slimR] at h
    split at h
    · rename_i x xs h1 h2; cases h; exact .cons (slimO_ok h1) (slimR_ok h2)
    · cases h

def thenQ (K : St → Prop) (Q : Exit → St → Prop) : Exit → St → Prop
  | .normal, s => K s
  | e, s => Q e s
def blockQ (id : Nat) (Q : Exit → St → Prop) : Exit → St → Prop
  | .exit id', s => if id' = id then Q .normal s else Q (.exit id') s
  | e, s => Q e s
def scopeQ (Q : Exit → St → Prop) : Exit → St → Prop
  | .goto _, _ => False
  | e, s => Q e s
end
end Go.Proofs.Ytnmpdpijcehofaa.Eng
