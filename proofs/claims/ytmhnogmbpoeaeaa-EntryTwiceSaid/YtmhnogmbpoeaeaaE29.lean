/-
  Values seen as data: a part of the engine, of no one program. No condition.
-/
import Derived.Test.YtmhnogmbpoeaeaaE20
import Derived.Orders
import Derived.ProofKit
import Derived.OpenShut
import Derived.Carry
import Derived.Lib.Hide
import Derived.ChangeSlices
import Derived.IntWalk
import Derived.Handy
namespace Go.Proofs.Ytmhnogmbpoeaeaa.Eng
set_option linter.all false
noncomputable section
open Go.RowKit

/-! ### States that say less -/
def renC (ρ : Nat → Nat) : AC → AC
  | .own b L => .own (ρ b) L
  | .view b lo n L => .view (ρ b) lo n L
  | .ptr b off => .ptr (ρ b) off
  | .eptr b i off L => .eptr (ρ b) i off L
  | .clo f bs => .clo f (bs.map ρ)
  | .bsl b n => .bsl (ρ b) n
  | .aptr b L => .aptr (ρ b) L
  | .mpt b => .mpt (ρ b)
  | c => c
def renX (ρ : Nat → Nat) : AX → AX
  | .one c => .one (renC ρ c)
  | .agg cs => .agg (cs.map (renC ρ))
def renV (ρ : Nat → Nat) : AV → AV
  | .x a => .x (renX ρ a)
  | .tup l => .tup (l.map (renX ρ))
def renO (ρ : Nat → Nat) : Ob → Ob
  | .box cs => .box (cs.map (renC ρ))
  | o => o
def belB (nx : Nat) : List Nat → Prop
  | [] => True
  | b :: bs => b < nx ∧ belB nx bs
def belC (nx : Nat) : AC → Prop
  | .own b _ => b < nx
  | .view b _ _ _ => b < nx
  | .ptr b _ => b < nx
  | .eptr b _ _ _ => b < nx
  | .clo _ bs => belB nx bs
  | .bsl b _ => b < nx
  | .aptr b _ => b < nx
  | .mpt b => b < nx
  | _ => True
def belL (nx : Nat) : List AC → Prop
  | [] => True
  | c :: cs => belC nx c ∧ belL nx cs
def belX (nx : Nat) : AX → Prop
  | .one c => belC nx c
  | .agg cs => belL nx cs
def belXs (nx : Nat) : List AX → Prop
  | [] => True
  | c :: cs => belX nx c ∧ belXs nx cs
def belV (nx : Nat) : AV → Prop
  | .x a => belX nx a
  | .tup l => belXs nx l
def belO (nx : Nat) : Ob → Prop
  | .box cs => belL nx cs
  | .row _ _ _ => True
  | .mp _ _ => True
def frIn (ρ : Nat → Nat) (nx : Nat) (s : St) : List (Nat × AV) → Prop
  | [] => True
  | (t, v) :: r => lk s.fr t = some (renV ρ v) ∧ belV nx v ∧ frIn ρ nx s r
def hpIn (ρ : Nat → Nat) (nx : Nat) (s : St) : List (Nat × Ob) → Prop
  | [] => True
  | (b, o) :: r => lk s.hp (ρ b) = some (renO ρ o) ∧ b < nx ∧ belO nx o ∧ (∀ p ∈ r, ρ p.1 ≠ ρ b ∧ p.1 ≠ b) ∧ hpIn ρ nx s r
/-- s0 says less than s: its slots and objects are among those of s, under other numbers. -/
def Wk (ρ : Nat → Nat) (s0 s : St) : Prop := frIn ρ s0.nx s s0.fr ∧ hpIn ρ s0.nx s s0.hp ∧ s0.nt = s.nt
def rho (l : List (Nat × Nat)) (b : Nat) : Nat := (lk l b).getD b

theorem frIn_lk {ρ : Nat → Nat} {nx : Nat} {s : St} : ∀ {l : List (Nat × AV)}, frIn ρ nx s l → ∀ {t : Nat} {v : AV}, lk l t = some v → lk s.fr t = some (renV ρ v) ∧ belV nx v
  | [], _, t, v, h => by cases h
  | (k, u) :: r, h, t, v, hl => by
    rw [lk_cons] at hl
    split at hl
    · rename_i hk; subst hk; cases hl; exact ⟨h.1, h.2.1⟩
    · exact frIn_lk h.2.2 hl
theorem lk_mem {α : Type} : ∀ {l : List (Nat × α)} {t : Nat} {v : α}, lk l t = some v → (t, v) ∈ l
  | [], t, v, h => by cases h
  | (k, u) :: r, t, v, h => by
    rw [lk_cons] at h
    split at h
    · rename_i hk; subst hk; cases h; simp
    · exact List.mem_cons_of_mem _ (lk_mem h)
theorem hpIn_lk {ρ : Nat → Nat} {nx : Nat} {s : St} : ∀ {l : List (Nat × Ob)}, hpIn ρ nx s l → ∀ {b : Nat} {o : Ob}, lk l b = some o → lk s.hp (ρ b) = some (renO ρ o) ∧ b < nx ∧ belO nx o
  | [], _, t, v, h => by cases h
  | (k, u) :: r, h, t, v, hl => by
    rw [lk_cons] at hl
    split at hl
    · rename_i hk; subst hk; cases hl; exact ⟨h.1, h.2.1, h.2.2.1⟩
    · exact hpIn_lk h.2.2.2.2 hl
theorem hpIn_inj {ρ : Nat → Nat} {nx : Nat} {s : St} : ∀ {l : List (Nat × Ob)}, hpIn ρ nx s l → ∀ {b b' : Nat} {o o' : Ob}, lk l b = some o → lk l b' = some o' → ρ b = ρ b' → b = b'
  | [], _, b, b', o, o', h, _, _ => by cases h
  | (k, u) :: r, h, b, b', o, o', h1, h2, he => by
    rw [lk_cons] at h1 h2
    split at h1 <;> split at h2
    · rename_i e1 e2; exact e1.symm.trans e2
    · rename_i e1 e2; subst e1; exact absurd he.symm (h.2.2.2.1 _ (lk_mem h2)).1
    · rename_i e1 e2; subst e2; exact absurd he (h.2.2.2.1 _ (lk_mem h1)).1
    · exact hpIn_inj h.2.2.2.2 h1 h2 he

section
variable {P : Program} {U : Nat → Prop} {w0 : Base} {N : Nat → Prop} {s s0 : St} {a : Act} {w : World} {ι : Nat → Option Nat}

theorem belL_mem {nx : Nat} : ∀ {l : List AC}, belL nx l → ∀ c ∈ l, belC nx c
  | [], _, c, h => by cases h
  | c :: l, h, c', hm => by rcases List.mem_cons.1 hm with rfl | hm; exact h.1; exact belL_mem h.2 c' hm
theorem belB_mem {nx : Nat} : ∀ {l : List Nat}, belB nx l → ∀ c ∈ l, c < nx
  | [], _, c, h => by cases h
  | c :: l, h, c', hm => by rcases List.mem_cons.1 hm with rfl | hm; exact h.1; exact belB_mem h.2 c' hm
theorem belXs_mem {nx : Nat} : ∀ {l : List AX}, belXs nx l → ∀ c ∈ l, belX nx c
  | [], _, c, h => by cases h
  | c :: l, h, c', hm => by rcases List.mem_cons.1 hm with rfl | hm; exact h.1; exact belXs_mem h.2 c' hm
theorem All2.ren {α β : Type} {R R' : α → β → Prop} {f : β → β} {q : β → Prop} (h : ∀ a b, q b → R a (f b) → R' a b) : ∀ {l : List α} {cs : List β}, (∀ c ∈ cs, q c) → All2 R l (cs.map f) → All2 R' l cs
  | [], [], _, _ => .nil
  | _ :: _, c :: cs, hq, .cons h1 t => .cons (h _ _ (hq c (by simp)) h1) (All2.ren h (fun c' hc => hq c' (by simp [hc])) t)

theorem RS.weak {ρ : Nat → Nat} (hfree : w0.free) (hw : Wk ρ s0 s) (h : RS U w0 s a w) : RS U w0 s0 a w := by
  obtain ⟨ι, h⟩ := h
  obtain ⟨hfr, hhp, hnt⟩ := hw
  have hS : ∀ b, Tr U w ι (lk s.hp) b → Tr U w (fun b => ι (ρ b)) (lk s0.hp) b := fun b ⟨h1, h2, h3⟩ => ⟨h1, h2, fun b' o' hb' hm hi => by
    obtain ⟨q1, q2, _⟩ := hpIn_lk hhp hb'
    exact h3 (ρ b') _ q1 (by cases o' <;> exact hm) hi⟩
  have hC : ∀ (x : Value) (c : AC), belC s0.nx c → RepC (env U (Lt s.nx) s w ι) x (renC ρ c) → RepC (env U (Lt s0.nx) s0 w (fun b => ι (ρ b))) x c := fun x c hb hr => by
    cases c with
    | d c => exact Shows.keep hS (fun _ _ => rfl) hr
    | own b L =>
      obtain ⟨_, h1, h2⟩ := hr
      refine ⟨hb, h1, fun sz es fz hH => ?_⟩
      obtain ⟨q1, _, _⟩ := hpIn_lk hhp hH
      exact h2 sz es fz q1
    | view b lo n L =>
      obtain ⟨_, h1, h2⟩ := hr
      refine ⟨hb, h1, fun sz es fz hH => ?_⟩
      obtain ⟨q1, _, _⟩ := hpIn_lk hhp hH
      exact h2 sz es fz q1
    | ptr b off =>
      obtain ⟨_, h1, h2⟩ := hr
      refine ⟨hb, h1, fun cs hH => ?_⟩
      obtain ⟨q1, _, _⟩ := hpIn_lk hhp hH
      exact h2 _ q1
    | eptr b i off L =>
      obtain ⟨_, h1, h2⟩ := hr
      refine ⟨hb, h1, fun sz es fz hH => ?_⟩
      obtain ⟨q1, _, _⟩ := hpIn_lk hhp hH
      exact h2 sz es fz q1
    | bsl b n =>
      obtain ⟨_, h1, h2⟩ := hr
      refine ⟨hb, h1, fun cs hH => ?_⟩
      obtain ⟨q1, _, _⟩ := hpIn_lk hhp hH
      exact h2 _ q1
    | aptr b L =>
      obtain ⟨_, h1, h2⟩ := hr
      refine ⟨hb, h1, fun sz es fz hH => ?_⟩
      obtain ⟨q1, _, _⟩ := hpIn_lk hhp hH
      exact h2 sz es fz q1
    | mpt b =>
      obtain ⟨_, h1, h2⟩ := hr
      refine ⟨hb, h1, fun kd kv hH => ?_⟩
      obtain ⟨q1, _, _⟩ := hpIn_lk hhp hH
      exact h2 kd kv q1
    | clo f bs =>
      obtain ⟨arr, h1, h2⟩ := hr
      refine ⟨arr, h1, All2.ren (q := fun b => b < s0.nx) (fun v b hb hp => ?_) (belB_mem hb) h2⟩
      obtain ⟨_, h1, h2⟩ := hp
      refine ⟨hb, h1, fun cs hH => ?_⟩
      obtain ⟨q1, _, _⟩ := hpIn_lk hhp hH
      exact h2 _ q1
    | cptr cs =>
      obtain ⟨ad, h1, h2, h3⟩ := hr
      exact ⟨ad, h1, fun hne => hS _ (h2 hne), fun k c hk => by obtain ⟨y, hy, hs⟩ := h3 k c hk; exact ⟨y, hy, Shows.keep hS (fun _ _ => rfl) hs⟩⟩
  have hX : ∀ (x : Value) (c : AX), belX s0.nx c → RepX (env U (Lt s.nx) s w ι) x (renX ρ c) → RepX (env U (Lt s0.nx) s0 w (fun b => ι (ρ b))) x c := fun x c hb hr => by
    cases c with
    | one c => exact hC x c hb hr
    | agg cs => obtain ⟨arr, h1, h2⟩ := hr; exact ⟨arr, h1, All2.ren (q := belC s0.nx) hC (belL_mem hb) h2⟩
  refine ⟨fun b => ι (ρ b), fun t x ht => ?_, fun b o hb => ?_, fun b b' o o' g h1 h2 g1 g2 => ?_, h.gr, h.nt.trans hnt.symm, h.df, hfree _⟩
  · obtain ⟨q1, q2⟩ := frIn_lk hfr ht
    obtain ⟨v, h1, h2⟩ := h.fr t _ q1
    refine ⟨v, h1, ?_⟩
    cases x with
    | x c => exact hX v c q2 h2
    | tup l => obtain ⟨arr, h3, h4⟩ := h2; exact ⟨arr, h3, All2.ren (q := belX s0.nx) hX (belXs_mem q2) h4⟩
  · obtain ⟨q1, q2, q3⟩ := hpIn_lk hhp hb
    refine ⟨q2, ?_⟩
    obtain ⟨_, hr⟩ := h.ob _ _ q1
    unfold RepO at hr ⊢
    have e1 : (env U (Lt s0.nx) s0 w (fun b => ι (ρ b))).ι b = ι (ρ b) := rfl
    have e2 : (env U (Lt s.nx) s w ι).ι (ρ b) = ι (ρ b) := rfl
    rw [e1]
    rw [e2] at hr
    cases hi : ι (ρ b) with
    | none =>
      rw [hi] at hr
      obtain ⟨sz, fz, he⟩ := hr
      cases o with
      | box cs => simp [renO] at he
      | mp _ _ => simp [renO] at he
      | row sz' es' fz' => simp only [renO] at he; exact ⟨sz, fz, he⟩
    | some g =>
      rw [hi] at hr
      obtain ⟨h1, ⟨cur, ty, h2, h3, h4, hmp⟩ | ⟨kd, kv, es, clock, h2, h3⟩⟩ := hr
      rotate_left 1
      · refine ⟨h1, .inr ⟨kd, kv, es, clock, ?_, h3⟩⟩
        cases o <;> simp [renO] at h2 ⊢
        exact h2
      refine ⟨h1, .inl ⟨cur, ty, h2, fun k c hk => ?_, ?_, by cases o <;> first | rfl | (simp [renO, Ob.isMp] at hmp)⟩⟩
      · cases o with
        | box cs =>
          have hk' : cs[k]? = some c := hk
          obtain ⟨y, hy, hr⟩ := h3 k (renC ρ c) (by show (cs.map (renC ρ))[k]? = _; rw [List.getElem?_map, hk']; rfl)
          exact ⟨y, hy, hC y c (belL_mem q3 c (List.mem_of_getElem? hk')) hr⟩
        | row sz es fz =>
          obtain ⟨y, hy, hr⟩ := h3 k c hk
          have hk' : (es.flatten.map AC.d)[k]? = some c := hk
          rw [List.getElem?_map] at hk'
          obtain ⟨d, _, rfl⟩ := Option.map_eq_some_iff.1 hk'
          exact ⟨y, hy, hC y (.d d) trivial hr⟩
        | mp _ _ => simp [renO, Ob.isMp] at hmp
      · cases o with
        | mp _ _ => exact trivial
        | box cs => simp only [Ob.shape, renO, List.length_map] at h4 ⊢; exact h4
        | row sz es fz => exact h4
  · obtain ⟨q1, _, _⟩ := hpIn_lk hhp h1
    obtain ⟨q2, _, _⟩ := hpIn_lk hhp h2
    exact hpIn_inj hhp h1 h2 (h.inj _ _ _ _ g q1 q2 g1 g2)
end

/-! ### Regions, by rules -/
def gOk (s : St) (g : Option (Nat × Bool)) : Prop :=
  match g with
  | none => True
  | some (t, w) => boolV s t = some w
/-- What is to be shown of a region. -/
inductive RegA (W : Prop) (P : Program) (K : St → Prop) : List SO → St → Prop
  | nil {s} (h : K s) : RegA W P K [] s
  | op {dst op g rest s e} (hg : gOk s g) (hd : dstOk s dst = true) (he : effect P s s.nx op = some e) (h : RegA W P K rest (put1 s dst e.val e.ups (s.nx + e.cnt))) : RegA W P K (⟨dst, op, g⟩ :: rest) s
  | call {dst f args ts g rest s vs ds r fz} (hg : gOk s g) (hd : dstOk s dst = true) (hv : evL s args.toList = some vs) (ha : argL s.hp vs = some ds) (hc : Con P f ds r) (hfz : fz = true ∨ Flat r)
      (h : RegA W P K rest (put1 { s with hp := callHp s fz vs } dst (some (unV' s.nx r).1) (unV' s.nx r).2.1 (unV' s.nx r).2.2)) : RegA W P K (⟨dst, .call ⟨.value (.func f), args, ts⟩, g⟩ :: rest) s
  | off {dst op t w rest s} (hb : offB s t w) (hd : dstOk s dst = true) (h : RegA W P K rest (skip1 s dst)) : RegA W P K (⟨dst, op, some (t, w)⟩ :: rest) s
  | know {l s b} (t : Nat) (hb : boolV s t = some b) (ht : b = true → RegA W P K l (know s t true)) (hf : b = false → RegA W P K l (know s t false)) : RegA W P K l s
  | callH {dst x args ts g rest s f vs hp' nx' r} (hg : gOk s g) (hd : dstOk s dst = true) (hf : evP s x = some (.func (.func f) #[] #[])) (hv : evL s args.toList = some vs) (hc : CallH P f s.hp s.nx vs hp' nx' r)
      (h : RegA W P K rest (put1 { s with hp := hp', nx := nx' } dst (some r) [] nx')) : RegA W P K (⟨dst, .call ⟨.value x, args, ts⟩, g⟩ :: rest) s
  | callF {dst x args ts g rest s f es vs hp' nx' r} (hg : gOk s g) (hd : dstOk s dst = true) (hf : cloO s x = some (f, es)) (hv : evL s args.toList = some vs) (hc : CallH P f s.hp s.nx (vs ++ es) hp' nx' r)
      (h : RegA W P K rest (put1 { s with hp := hp', nx := nx' } dst (some r) [] nx')) : RegA W P K (⟨dst, .call ⟨.value x, args, ts⟩, g⟩ :: rest) s
  | op2 {dst op g rest s e} (hg : gOk s g) (hd : dstOk s dst = true) (he : effect2 P s s.nx op = some e) (h : RegA W P K rest (put1 s dst e.val e.ups (s.nx + e.cnt))) : RegA W P K (⟨dst, op, g⟩ :: rest) s
  | frz {l s} (t : Nat) (h : RegA W P K l (frzT s t)) : RegA W P K l s
  | weak {l s s0} (hW : W) (ρ : List (Nat × Nat)) (hw : Wk (rho ρ) s0 s) (h : RegA W P K l s0) : RegA W P K l s
section
variable {P : Program} {U : Nat → Prop} {w0 : Base}
theorem step2_sound {N : Nat → Prop} {s : St} {a : Act} {w : World} {ι : Nat → Option Nat} {seed : Nat} {o : Oper} (h : Rel U w0 N s a w ι) {K' : Act → World → Prop} {Q : Exit → Act → World → Prop} (hd : dstOk s o.dst = true) (hN : ∀ b, N b → b < seed) {e : Eff} (he : effect2 P s seed o.op = some e)
    (hK : ∀ a' w', RS U w0 (put1 s o.dst e.val e.ups (seed + e.cnt)) a' w' → K' a' w') : o.wp P a w K' Q := by
  obtain ⟨v, w', ι', hout, hr, hv⟩ := good_effect2 h (fun k hk hn => by have := hN _ hn; omega) he
  rw [put1_app] at hK
  have hfin := hK (a.put o.dst v) w' (hr.dst (s := App e.ups (seed + e.cnt) s) (x := e.val) (v := v) (dst := o.dst) (by
    cases hdst : o.dst with
    | none => rfl
    | some d => rw [hdst] at hd; exact hd) hv (fun b hb => by
      rcases hb with hb | hb
      · have := hN b hb; omega
      · omega))
  unfold Oper.wp
  rcases hout with hrun | ⟨rfl, hrun⟩
  · rw [hrun]; exact hfin
  · rw [hrun]; exact hfin
theorem regA_sound {W : Prop} (hfree : W → w0.free) (hU : ∀ b, w0.w.heap.size ≤ b → U b) {ops : Array Oper} {Q : Exit → Act → World → Prop} {K : St → Prop} (hK : ∀ s' a' w', K s' → RS U w0 s' a' w' → Q .normal a' w')
    {sl : List SO} {s : St} (hA : RegA W P K sl s) : ∀ {l : List Oper}, All2 (SOk ops) l sl → ∀ (a : Act) (w : World), RS U w0 s a w → wpList P ops Q l a w := by
  induction hA with
  | nil hk => intro l hl a w h; cases hl; exact hK _ a w hk h
  | @op dst op g rest s e hg hd he _ ih =>
    intro l hl a w h
    cases hl with
    | @cons o _ os _ hso ht =>
      obtain ⟨e1, e2, e3⟩ := hso
      simp only at e1 e2 e3
      subst e1 e2
      obtain ⟨ι, h⟩ := h
      have hw : Region.wanted o (yielded ops a.tmps) = true := by
        cases hog : o.guard with
        | none => simp [Region.wanted, hog]
        | some jw =>
          obtain ⟨j, w'⟩ := jw
          rw [hog] at e3
          cases g with
          | none => exact e3.elim
          | some tw =>
            obtain ⟨t, w''⟩ := tw
            obtain ⟨et, rfl⟩ := e3
            have hy : yielded ops a.tmps j = some w'' := by unfold yielded; rw [et]; simp [bool_val h hg]
            simp [Region.wanted, hog, hy]
      unfold wpList
      rw [if_pos hw]
      refine .inl (step_sound h hU hd (fun b hb => hb) (K := fun s' => s' = put1 s o.dst e.val e.ups (s.nx + e.cnt)) (stepA_eff he rfl) (fun s' a' w' hk hr => ?_))
      subst hk
      exact ih ht a' w' hr
  | @call dst f args ts g rest s vs ds r fz hg hd hv ha hc hfz _ ih =>
    intro l hl a w h
    cases hl with
    | @cons o _ os _ hso ht =>
      obtain ⟨e1, e2, e3⟩ := hso
      simp only at e1 e2 e3
      subst e1
      obtain ⟨ι, h⟩ := h
      have hw : Region.wanted o (yielded ops a.tmps) = true := by
        cases hog : o.guard with
        | none => simp [Region.wanted, hog]
        | some jw =>
          obtain ⟨j, w'⟩ := jw
          rw [hog] at e3
          cases g with
          | none => exact e3.elim
          | some tw =>
            obtain ⟨t, w''⟩ := tw
            obtain ⟨et, rfl⟩ := e3
            have hy : yielded ops a.tmps j = some w'' := by unfold yielded; rw [et]; simp [bool_val h hg]
            simp [Region.wanted, hog, hy]
      unfold wpList
      rw [if_pos hw]
      refine .inl (step_sound h hU hd (fun b hb => hb) (K := fun s' => s' = put1 { s with hp := callHp s fz vs } o.dst (some (unV' s.nx r).1) (unV' s.nx r).2.1 (unV' s.nx r).2.2) ?_ (fun s' a' w' hk hr => ?_))
      · rw [← e2]
        exact ⟨vs, ds, r, fz, hv, ha, hc, hfz, rfl⟩
      · subst hk
        exact ih ht a' w' hr
  | @off dst op t w' rest s hb hd _ ih =>
    intro l hl a w h
    cases hl with
    | @cons o _ os _ hso ht =>
      obtain ⟨e1, e2, e3⟩ := hso
      simp only at e1 e2 e3
      subst e1 e2
      obtain ⟨ι, h⟩ := h
      have hw : Region.wanted o (yielded ops a.tmps) = false := by
        cases hog : o.guard with
        | none => rw [hog] at e3; exact e3.elim
        | some jw =>
          obtain ⟨j, w''⟩ := jw
          rw [hog] at e3
          obtain ⟨et, rfl⟩ := e3
          simp only [Region.wanted, hog]
          exact off_yield h et hb
      unfold wpList
      rw [if_neg (by simp [hw])]
      exact ih ht _ _ (h.dst (x := some (.tup [])) hd (fun _ hy => by cases hy; exact rep_undef) (fun b hb => hb))
  | @know l s b t hb _ _ iht ihf =>
    intro l' hl a w h
    have hk := RS.know h hb
    cases b with
    | true => exact iht rfl hl a w hk
    | false => exact ihf rfl hl a w hk
  | @callH dst x args ts g rest s f vs hp' nx' r hg hd hf hv hc _ ih =>
    intro l hl a w h
    cases hl with
    | @cons o _ os _ hso ht =>
      obtain ⟨e1, e2, e3⟩ := hso
      simp only at e1 e2 e3
      subst e1
      obtain ⟨ι, h⟩ := h
      have hw : Region.wanted o (yielded ops a.tmps) = true := by
        cases hog : o.guard with
        | none => simp [Region.wanted, hog]
        | some jw =>
          obtain ⟨j, w'⟩ := jw
          rw [hog] at e3
          cases g with
          | none => exact e3.elim
          | some tw =>
            obtain ⟨t, w''⟩ := tw
            obtain ⟨et, rfl⟩ := e3
            have hy : yielded ops a.tmps j = some w'' := by unfold yielded; rw [et]; simp [bool_val h hg]
            simp [Region.wanted, hog, hy]
      unfold wpList
      rw [if_pos hw]
      refine .inl (callH_wp h hU e2.symm hf hv hc fun v w' ι' hr hrep => ?_)
      exact ih ht _ w' (hr.dst (x := some r) (by cases hdst : o.dst with
        | none => rfl
        | some d => rw [hdst] at hd; exact hd) (fun y hy => by cases hy; exact hrep) (fun b hb => hb))
  | @callF dst x args ts g rest s f es vs hp' nx' r hg hd hf hv hc _ ih =>
    intro l hl a w h
    cases hl with
    | @cons o _ os _ hso ht =>
      obtain ⟨e1, e2, e3⟩ := hso
      simp only at e1 e2 e3
      subst e1
      obtain ⟨ι, h⟩ := h
      have hw : Region.wanted o (yielded ops a.tmps) = true := by
        cases hog : o.guard with
        | none => simp [Region.wanted, hog]
        | some jw =>
          obtain ⟨j, w'⟩ := jw
          rw [hog] at e3
          cases g with
          | none => exact e3.elim
          | some tw =>
            obtain ⟨t, w''⟩ := tw
            obtain ⟨et, rfl⟩ := e3
            have hy : yielded ops a.tmps j = some w'' := by unfold yielded; rw [et]; simp [bool_val h hg]
            simp [Region.wanted, hog, hy]
      unfold wpList
      rw [if_pos hw]
      refine .inl (callF_wp h hU e2.symm hf hv hc fun v w' ι' hr hrep => ?_)
      exact ih ht _ w' (hr.dst (x := some r) (by cases hdst : o.dst with
        | none => rfl
        | some d => rw [hdst] at hd; exact hd) (fun y hy => by cases hy; exact hrep) (fun b hb => hb))
  | @op2 dst op g rest s e hg hd he _ ih =>
    intro l hl a w h
    cases hl with
    | @cons o _ os _ hso ht =>
      obtain ⟨e1, e2, e3⟩ := hso
      simp only at e1 e2 e3
      subst e1 e2
      obtain ⟨ι, h⟩ := h
      have hw : Region.wanted o (yielded ops a.tmps) = true := by
        cases hog : o.guard with
        | none => simp [Region.wanted, hog]
        | some jw =>
          obtain ⟨j, w'⟩ := jw
          rw [hog] at e3
          cases g with
          | none => exact e3.elim
          | some tw =>
            obtain ⟨t, w''⟩ := tw
            obtain ⟨et, rfl⟩ := e3
            have hy : yielded ops a.tmps j = some w'' := by unfold yielded; rw [et]; simp [bool_val h hg]
            simp [Region.wanted, hog, hy]
      unfold wpList
      rw [if_pos hw]
      exact .inl (step2_sound h hd (fun b hb => hb) he fun a' w' hr => ih ht a' w' hr)
  | frz t _ ih => exact fun hl a w h => ih hl a w (by
      obtain ⟨ι, h⟩ := h
      exact ⟨ι, by rw [frzT_nx]; exact h.frzT hU t⟩)
  | weak hW ρ hw _ ih => exact fun hl a w h => ih hl a w (RS.weak (hfree hW) hw h)
end

/-! ### Code -/
inductive SC where
  | skip
  | reg (l : List SO)
  | draw (l : List SO) (pre : List (List Nat))
  | seq (a b : SC)
  | cond (c : Operand) (a b : SC)
  | block (id : Nat) (c : SC)
  | loop (c : SC)
  | scope (c : SC)
  | exit (id : Nat)
  | goto (l : Nat)
  | ret
def slimO (ops : Array Oper) (o : Oper) : Option SO :=
  match o.guard with
  | none => some ⟨o.dst, o.op, none⟩
  | some (j, w) => match (ops[j]?).bind (·.dst) with
    | some t => some ⟨o.dst, o.op, some (t, w)⟩
    | none => none
def slimR (ops : Array Oper) : List Oper → Option (List SO)
  | [] => some []
  | o :: l => match slimO ops o, slimR ops l with
    | some x, some xs => some (x :: xs)
    | _, _ => none
def preds (l : List Oper) : List (List Nat) := l.map fun o => (o.after.toList.filter fun e => Region.binds .any e).map (·.on)
def slim : Code → Option SC
  | .skip => some .skip
  | .label _ => some .skip
  | .region _ ops draw => match slimR ops ops.toList with
    | some l => some (if draw then .draw l (preds ops.toList) else .reg l)
    | none => none
  | .seq a b => match slim a, slim b with
    | some x, some y => some (.seq x y)
    | _, _ => none
  | .cond c a b => match slim a, slim b with
    | some x, some y => some (.cond c x y)
    | _, _ => none
  | .block id c => (slim c).map (.block id)
  | .loop c => (slim c).map .loop
  | .scope c => (slim c).map .scope
  | .exit id => some (.exit id)
  | .goto l => some (.goto l)
  | .ret => some .ret
  | _ => none
theorem slimO_ok {ops : Array Oper} {o : Oper} {x : SO} (h : slimO ops o = some x) : SOk ops o x := by
  unfold slimO at h
  split at h
  · rename_i hg; cases h; exact ⟨rfl, rfl, by rw [hg]; trivial⟩
  · rename_i j w hg
    split at h
    · rename_i t ht; cases h; exact ⟨rfl, rfl, by rw [hg]; exact ⟨ht, rfl⟩⟩
    · cases h
theorem slimR_ok {ops : Array Oper} : ∀ {l : List Oper} {sl : List SO}, slimR ops l = some sl → All2 (SOk ops) l sl
  | [], sl, h => by simp only [slimR, Option.some.injEq] at h; subst h; exact .nil
  | o :: l, sl, h => by
    simp only [slimR] at h
    split at h
    · rename_i x xs h1 h2; cases h; exact .cons (slimO_ok h1) (slimR_ok h2)
    · cases h

def thenQ (K : St → Prop) (Q : Exit → St → Prop) : Exit → St → Prop
  | .normal, s => K s
  | e, s => Q e s
def blockQ (id : Nat) (Q : Exit → St → Prop) : Exit → St → Prop
  | .exit id', s => if id' = id then Q .normal s else Q (.exit id') s
  | e, s => Q e s
def scopeQ (Q : Exit → St → Prop) : Exit → St → Prop
  | .goto _, _ => False
  | e, s => Q e s
end
end Go.Proofs.Ytmhnogmbpoeaeaa.Eng
namespace Go.Proofs.Ytmhnogmbpoeaeaa.Eng
set_option linter.all false
noncomputable section
open Go.RowKit

/-! ### A region whose order is drawn -/
theorem dataC_mono {hp hp' : List (Nat × Ob)} (h : ∀ b o, lk hp b = some o → lk hp' b = some o) {c : AC} {d : D} (hd : dataC hp c = some d) : dataC hp' c = some d := by
  cases c with
  | own b L =>
    simp only [dataC] at hd ⊢
    cases hb : lk hp b with
    | none => rw [hb] at hd; cases hd
    | some o => rw [hb] at hd; rw [h b o hb]; exact hd
  | view b lo n L =>
    simp only [dataC] at hd ⊢
    cases hb : lk hp b with
    | none => rw [hb] at hd; cases hd
    | some o => rw [hb] at hd; rw [h b o hb]; exact hd
  | _ => exact hd
theorem elemsC_mono {hp hp' : List (Nat × Ob)} (h : ∀ b o, lk hp b = some o → lk hp' b = some o) {c : AC} {d : Nat × List (List D)} (hd : elemsC hp c = some d) : elemsC hp' c = some d := by
  unfold elemsC at hd ⊢
  cases hb : dataC hp c with
  | none => rw [hb] at hd; cases hd
  | some x => rw [hb] at hd; rw [dataC_mono h hb]; exact hd
theorem cellsAt_mono {hp hp' : List (Nat × Ob)} (h : ∀ b o, lk hp b = some o → lk hp' b = some o) {n : Nat} {c : AC} {d : List AC} (hd : cellsAt hp n c = some d) : cellsAt hp' n c = some d := by
  cases c with
  | ptr b off =>
    simp only [cellsAt] at hd ⊢
    cases hb : lk hp b with
    | none => rw [hb] at hd; cases hd
    | some o => rw [hb] at hd; rw [h b o hb]; exact hd
  | eptr b i off L =>
    simp only [cellsAt] at hd ⊢
    cases hb : lk hp b with
    | none => rw [hb] at hd; cases hd
    | some o => rw [hb] at hd; rw [h b o hb]; exact hd
  | _ => exact hd
theorem shift_mono {hp hp' : List (Nat × Ob)} (h : ∀ b o, lk hp b = some o → lk hp' b = some o) {n : Nat} {c c' : AC} (hd : shift hp n c = some c') : shift hp' n c = some c' := by
  cases c with
  | ptr b off =>
    simp only [shift] at hd ⊢
    cases hb : lk hp b with
    | none => rw [hb] at hd; cases hd
    | some o => rw [hb] at hd; rw [h b o hb]; exact hd
  | eptr b i off L =>
    simp only [shift] at hd ⊢
    cases hb : lk hp b with
    | none => rw [hb] at hd; cases hd
    | some o => rw [hb] at hd; rw [h b o hb]; exact hd
  | _ => exact hd
theorem putAt_mono {hp hp' : List (Nat × Ob)} (h : ∀ b o, lk hp b = some o → lk hp' b = some o) {new : List AC} {c : AC} {u : Nat × Ob} (hd : putAt hp new c = some u) : putAt hp' new c = some u := by
  cases c with
  | ptr b off =>
    simp only [putAt] at hd ⊢
    cases hb : lk hp b with
    | none => rw [hb] at hd; cases hd
    | some o => rw [hb] at hd; rw [h b o hb]; exact hd
  | eptr b i off L =>
    simp only [putAt] at hd ⊢
    cases hb : lk hp b with
    | none => rw [hb] at hd; simp at hd
    | some o => rw [hb] at hd; rw [h b o hb]; exact hd
  | _ => exact hd
theorem dataL_mono {hp hp' : List (Nat × Ob)} (h : ∀ b o, lk hp b = some o → lk hp' b = some o) : ∀ {cs : List AC} {ds : List D}, dataL hp cs = some ds → dataL hp' cs = some ds
  | [], _, hd => hd
  | c :: cs, ds, hd => by
    simp only [dataL] at hd ⊢
    split at hd
    · rename_i d ds' h1 h2
      rw [dataC_mono h h1, dataL_mono h h2]; exact hd
    · cases hd
theorem argX_mono {hp hp' : List (Nat × Ob)} (h : ∀ b o, lk hp b = some o → lk hp' b = some o) {v : AV} {d : DA} (hd : argX hp v = some d) : argX hp' v = some d := by
  cases v with
  | x v => cases v with
    | one c =>
      simp only [argX, Option.map_eq_some_iff] at hd ⊢
      obtain ⟨x, h1, h2⟩ := hd
      exact ⟨x, dataC_mono h h1, h2⟩
    | agg cs =>
      simp only [argX, Option.map_eq_some_iff] at hd ⊢
      obtain ⟨x, h1, h2⟩ := hd
      exact ⟨x, dataL_mono h h1, h2⟩
  | tup _ => cases hd
theorem argL_mono {hp hp' : List (Nat × Ob)} (h : ∀ b o, lk hp b = some o → lk hp' b = some o) : ∀ {vs : List AV} {ds : List DA}, argL hp vs = some ds → argL hp' vs = some ds
  | [], _, hd => hd
  | c :: cs, ds, hd => by
    simp only [argL] at hd ⊢
    split at hd
    · rename_i d ds' h1 h2
      rw [argX_mono h h1, argL_mono h h2]; exact hd
    · cases hd
/-- The second state knows what the first one knows, as far as an operation asks. -/
structure Sub (op : Op) (s s' : St) : Prop where
  ev : ∀ x ∈ op.operands, evO s' x = evO s x
  hp : ∀ b o, lk s.hp b = some o → lk s'.hp b = some o
theorem evL_cong {s s' : St} : ∀ {xs : List Operand}, (∀ x ∈ xs, evO s' x = evO s x) → evL s' xs = evL s xs
  | [], _ => rfl
  | x :: xs, h => by
    have ih := evL_cong (xs := xs) fun y hy => h y (List.mem_cons_of_mem _ hy)
    simp only [evL, h x List.mem_cons_self, ih]
theorem fillA_cong {place : Nat → Option (Nat × Nat)} {s s' : St} : ∀ {ps : List (Nat × Operand)} {cs : List AC}, (∀ p ∈ ps, evO s' p.2 = evO s p.2) → fillA place s' ps cs = fillA place s ps cs
  | [], _, _ => rfl
  | (i, x) :: ps, cs, h => by
    have ih : ∀ cs, fillA place s' ps cs = fillA place s ps cs := fun cs => fillA_cong (fun q hq => h q (by simp [hq]))
    simp only [fillA, h (i, x) (by simp), ih]
theorem rowsA_cong {sz : Nat} {s s' : St} : ∀ {ps : List (Nat × Operand)} {cs : List (List D)}, (∀ p ∈ ps, evO s' p.2 = evO s p.2) → rowsA s' sz ps cs = rowsA s sz ps cs
  | [], _, _ => rfl
  | (i, x) :: ps, cs, h => by
    have ih : ∀ cs, rowsA s' sz ps cs = rowsA s sz ps cs := fun cs => rowsA_cong (fun q hq => h q (by simp [hq]))
    simp only [rowsA, h (i, x) (by simp), ih]
theorem effect_mono {P : Program} {s s' : St} {seed : Nat} {op : Op} {e : Eff} (h : Sub op s s') (he : effect P s seed op = some e) : effect P s' seed op = some e := by
  obtain ⟨hev, hhp⟩ := h
  have hP : ∀ x ∈ op.operands, evP s' x = evP s x := fun x hx => by unfold evP; rw [hev x hx]
  have h1 : ∀ x ∈ op.operands, one1 s' x = one1 s x := fun x hx => by unfold one1; rw [hev x hx]
  cases op with
  | move x => simpa only [effect, hev x (by simp [Op.operands])] using he
  | assign x => simpa only [effect, hev x (by simp [Op.operands])] using he
  | pick c x y =>
    simp only [effect, hP c (by simp [Op.operands])] at he ⊢
    split at he
    · rename_i b hb
      have : evO s' (if b = true then x else y) = evO s (if b = true then x else y) := by
        cases b
        · exact hev y (by simp [Op.operands])
        · exact hev x (by simp [Op.operands])
      simp only [this]; exact he
    · cases he
  | binOp op t x y t' => simpa only [effect, hP x (by simp [Op.operands]), hP y (by simp [Op.operands])] using he
  | unOp op t x => simpa only [effect, hP x (by simp [Op.operands])] using he
  | convert a b x => simpa only [effect, hP x (by simp [Op.operands])] using he
  | alloc t => exact he
  | box t x => simpa only [effect, hev x (by simp [Op.operands])] using he
  | build t ps =>
    have hc : ∀ p ∈ ps.toList, evO s' p.2 = evO s p.2 := fun p hp => hev p.2 (by simp only [Op.operands]; simpa using ⟨p.1, Array.mem_toList_iff.1 hp⟩)
    simp only [effect, build1] at he ⊢
    simp only [fillA_cong hc]
    exact he
  | buildSlice t n ps =>
    have hc : ∀ p ∈ ps.toList, evO s' p.2 = evO s p.2 := fun p hp => hev p.2 (by simp only [Op.operands]; simpa using ⟨p.1, Array.mem_toList_iff.1 hp⟩)
    simp only [effect, bslice1] at he ⊢
    simp only [rowsA_cong hc]
    exact he
  | load t x =>
    simp only [effect, load1, hev x (by simp [Op.operands])] at he ⊢
    split at he
    · rename_i c i hx hi
      obtain ⟨cs, h2, h3⟩ := Option.bind_eq_some_iff.1 he
      rw [cellsAt_mono hhp h2]; exact h3
    · cases he
  | store t x y =>
    simp only [effect, store1, hev x (by simp [Op.operands]), hev y (by simp [Op.operands])] at he ⊢
    split at he
    · rename_i c i hx hi
      split at he
      · rename_i hn
        rw [if_pos hn]
        split at he
        · rename_i hsz
          rw [if_pos hsz]
          obtain ⟨u, h2, h3⟩ := Option.map_eq_some_iff.1 he
          have : putAt ((seed, .row 0 [] false) :: s'.hp) [.own seed 0] c = some u := putAt_mono (fun b o hb => by
            rw [lk_cons] at hb ⊢
            split at hb
            · rename_i hk; rw [if_pos hk]; exact hb
            · rename_i hk; rw [if_neg hk]; exact hhp b o hb) h2
          rw [this]; simpa using h3
        · cases he
      · rename_i hn
        rw [if_neg hn]
        split at he
        · rename_i new hnew
          split at he
          · rename_i hsz
            rw [if_pos hsz]
            obtain ⟨u, h2, h3⟩ := Option.map_eq_some_iff.1 he
            rw [putAt_mono hhp h2]; simpa using h3
          · cases he
        · cases he
    · cases he
  | fieldAddr t x k =>
    simp only [effect, h1 x (by simp [Op.operands])] at he ⊢
    obtain ⟨c, hc, he⟩ := Option.bind_eq_some_iff.1 he
    obtain ⟨f, hf, he⟩ := Option.bind_eq_some_iff.1 he
    obtain ⟨c', hc', he⟩ := Option.map_eq_some_iff.1 he
    rw [hc, Option.bind_some, hf, Option.bind_some, shift_mono hhp hc']; simpa using he
  | field t x k => simpa only [effect, hev x (by simp [Op.operands])] using he
  | indexAddr t x i =>
    simp only [effect, idx1, hev x (by simp [Op.operands]), hP i (by simp [Op.operands])] at he ⊢
    split at he
    · rename_i e0 _ _ _ c kk k hi hx hk
      split at he
      · rename_i j sz es hj hd
        rw [hj, dataC_mono hhp hd]; exact he
      · cases he
    · rename_i n e0 _ _ _ c kk k hi hx hk
      split at he
      · rename_i j hj
        split at he
        · rename_i hcond
          rw [if_pos hcond]
          obtain ⟨c', hc', he⟩ := Option.map_eq_some_iff.1 he
          rw [shift_mono hhp hc']; simpa using he
        · cases he
      · cases he
    · cases he
  | index t x i => simpa only [effect, index1, hev x (by simp [Op.operands]), hP i (by simp [Op.operands])] using he
  | slice t x lo hi mx =>
    have hopt : ∀ y, (∀ z, y = some z → z ∈ (Op.slice t x lo hi mx).operands) → optInt s' y = optInt s y := fun y hy => by
      cases y with
      | none => rfl
      | some z => simp only [optInt, hP z (hy z rfl)]
    simp only [effect, slice1, hev x (by simp [Op.operands]), hopt lo (fun z hz => by subst hz; simp [Op.operands]), hopt hi (fun z hz => by subst hz; simp [Op.operands]), hopt mx (fun z hz => by subst hz; simp [Op.operands])] at he ⊢
    split at he
    · rename_i e0 _ _ _ c l h m hi0 hx hl hhi hm
      split at he
      · rename_i j sz es hj hd
        rw [hj, dataC_mono hhp hd]; exact he
      · cases he
    · cases he
  | extract x k => simpa only [effect, hev x (by simp [Op.operands])] using he
  | makeSlice t l c => simpa only [effect, mslice1, hP l (by simp [Op.operands]), hP c (by simp [Op.operands])] using he
  | nilCheck x =>
    simp only [effect, h1 x (by simp [Op.operands])] at he ⊢
    obtain ⟨c, hc, he⟩ := Option.bind_eq_some_iff.1 he
    obtain ⟨c', hc', he⟩ := Option.map_eq_some_iff.1 he
    rw [hc, Option.bind_some, shift_mono hhp hc']; simpa using he
  | call c =>
    obtain ⟨callee, args, ts⟩ := c
    simp only [effect] at he ⊢
    split at he
    · rename_i b
      have hops : ∀ x ∈ args.toList, x ∈ (Op.call ⟨.builtin b, args, ts⟩).operands := fun x hx => by simpa [Op.operands, Call.operands] using hx
      unfold callEff at he ⊢
      split at he
      · rename_i x t ha ht
        have hx := hops x (by rw [ha]; simp)
        simp only [len1, hev x hx] at he ⊢
        split at he
        · rename_i e0 _ _ _ c hi hx
          split at he
          · rename_i sz es hd; rw [dataC_mono hhp hd]; exact he
          · rename_i hd; rw [dataC_mono hhp hd]; exact he
          · cases he
        · exact he
        · cases he
      · rename_i x y t t' ha ht
        have hx := hops x (by rw [ha]; simp)
        have hy := hops y (by rw [ha]; simp)
        simp only [app1, hev x hx, hev y hy] at he ⊢
        split at he
        · rename_i e0 _ _ _ c c2 hi hx hy
          split at he
          · rename_i j sz2 es2 hj hd2
            rw [hj, elemsC_mono hhp hd2]
            simp only
            split at he
            · rename_i hcond
              rw [if_pos hcond]
              split at he
              · rename_i b L
                split at he
                · rename_i sz es hb; rw [hhp _ _ hb]; exact he
                · cases he
              · exact he
              · cases he
            · cases he
          · cases he
        · cases he
      · rename_i x y t t' ha ht
        have hx := hops x (by rw [ha]; simp)
        have hy := hops y (by rw [ha]; simp)
        simp only [cop1, hev x hx, hev y hy] at he ⊢
        split at he
        · rename_i e0 _ _ _ c c2 hi hx hy
          split at he
          · rename_i j sz2 es2 hj hd2
            rw [hj, elemsC_mono hhp hd2]
            simp only
            split at he
            · rename_i hcond
              rw [if_pos hcond]
              split at he
              · rename_i b lo n L hcc
                split at he
                · rename_i sz es hb; rw [hhp _ _ hb]; exact he
                · cases he
              · cases he
            · cases he
          · cases he
        · cases he
      · rename_i x y ha
        have hx := hops x (by rw [ha]; simp)
        have hy := hops y (by rw [ha]; simp)
        simp only [mm1, hP x hx, hP y hy] at he ⊢
        exact he
      · rename_i x y ha
        have hx := hops x (by rw [ha]; simp)
        have hy := hops y (by rw [ha]; simp)
        simp only [mm1, hP x hx, hP y hy] at he ⊢
        exact he
      · cases he
    · cases he
  | makeFunc fn first captured =>
    obtain ⟨fl⟩ := first
    obtain ⟨cl⟩ := captured
    cases fn with
    | func f =>
      cases fl with
      | nil =>
        have e : cloBs s' cl = cloBs s cl := cloBs_congr fun x hx => hev x (by simp [Op.operands, hx])
        have he' : mkfunc1 s f cl = some _ := he
        show mkfunc1 s' f cl = some _
        unfold mkfunc1 at he' ⊢
        rw [e]; exact he'
      | cons _ _ => cases he
    | _ => cases he
  | _ => cases he
end
end Go.Proofs.Ytmhnogmbpoeaeaa.Eng
namespace Go.Proofs.Ytmhnogmbpoeaeaa.Eng
set_option linter.all false
noncomputable section
open Go.RowKit

/-- One operation, in any state that knows enough. -/
def stepE (P : Program) (s : St) (seed : Nat) (op : Op) (e : Eff) : Prop :=
  effect P s seed op = some e ∨
  ∃ f args ts vs ds r, op = .call ⟨.value (.func f), args, ts⟩ ∧ evL s args.toList = some vs ∧ argL s.hp vs = some ds ∧ Con P f ds r ∧ (vs.flatMap idsX = [] ∨ Flat r) ∧
    e = ⟨some (unV' seed r).1, (unV' seed r).2.1, (unV' seed r).2.2 - seed⟩
theorem stepE_mono {P : Program} {s s' : St} {seed : Nat} {op : Op} {e : Eff} (h : Sub op s s') (he : stepE P s seed op e) : stepE P s' seed op e := by
  rcases he with he | ⟨f, args, ts, vs, ds, r, rfl, h1, h2, h3, h4, h5⟩
  · exact .inl (effect_mono h he)
  · refine .inr ⟨f, args, ts, vs, ds, r, rfl, ?_, argL_mono h.hp h2, h3, h4, h5⟩
    rw [← h1]
    exact evL_cong fun x hx => h.ev x (by simp [Op.operands, Call.operands]; exact .inr (by simpa using hx))
section
variable {P : Program} {U : Nat → Prop} {w0 : Base} {N : Nat → Prop} {s : St} {a : Act} {w : World} {ι : Nat → Option Nat} {seed : Nat} {o : Oper}
theorem stepE_sound (h : Rel U w0 N s a w ι) (hU : ∀ b, w0.w.heap.size ≤ b → U b) {e : Eff} {K' : Act → World → Prop} {Q : Exit → Act → World → Prop} (hd : dstOk s o.dst = true) (hN : ∀ k, seed ≤ k → k < seed + (e.cnt + 1) → ¬ N k) (hA : stepE P s seed o.op e)
    (hK : ∀ ι' a' w', Rel U w0 (Span N seed (seed + e.cnt)) (put1 s o.dst e.val e.ups s.nx) a' w' ι' → K' a' w') : o.wp P a w K' Q := by
  have dst : ∀ {s' : St} {a : Act} {w : World} {ι : Nat → Option Nat} {N : Nat → Prop} {v : Value}, Rel U w0 N s' a w ι → s'.fr = s.fr → s'.nt = s.nt → (∀ y, e.val = some y → RepV (env U N s' w ι) v y) → Rel U w0 N { s' with fr := frOf s.fr o.dst e.val } (a.put o.dst v) w ι := by
    intro s' a w ι N v hr hf hn hv
    cases hdst : o.dst with
    | none => rw [← hf]; exact hr
    | some d =>
      rw [hdst] at hd
      have hlt : d < s'.nt := by rw [hn]; simpa [dstOk] using hd
      cases hval : e.val with
      | none => simp only [frOf]; rw [← hf]; exact hr.forget d v
      | some y => simp only [frOf]; rw [← hf]; exact hr.put hlt (hv y hval)
  rcases hA with he | ⟨f, args, ts, vs, ds, r, hop, h1, h2, h3, h4, h5⟩
  · obtain ⟨v, w', ι', hout, hr, hv⟩ := good_effect h (fun k hk => hN _ (by omega) (by omega)) he
    have hfin := hK ι' (a.put o.dst v) w' (dst (s' := { s with hp := e.ups ++ s.hp }) (hr.weakN (nx' := s.nx) (fun _ h => h)) rfl rfl (fun y hy => (hv y hy).keep (E' := env U (Span N seed (seed + e.cnt)) { s with hp := e.ups ++ s.hp } w' ι') (Step.same rfl rfl rfl rfl fun _ h => h)))
    unfold Oper.wp
    rcases hout with hrun | ⟨rfl, hrun⟩
    · rw [hrun]; exact hfin
    · rw [hrun]; exact hfin
  · have hle := unV'_le seed r
    have hcnt : seed + e.cnt = (unV' seed r).2.2 := by rw [h5]; simp only; omega
    have hfz : ∃ fz : Bool, (fz = true ∨ Flat r) ∧ callHp s fz vs = s.hp := by
      rcases h4 with h4 | h4
      · exact ⟨true, .inl rfl, by simp [callHp, h4, frz]⟩
      · exact ⟨false, .inr h4, rfl⟩
    obtain ⟨fz, hfz, hcp⟩ := hfz
    refine call_wp h hU hop h1 h2 h3 hfz (lim := (unV' seed r).2.2) (fun k hk hk' hn => hN k hk (by omega) hn) (Nat.le_refl _) (fun v w' ι' hr hv => ?_)
    rw [hcp] at hr hv
    have hr' : Rel U w0 (Span N seed (seed + e.cnt)) { s with hp := e.ups ++ s.hp } a w' ι' := by
      rw [hcnt, h5]
      exact (hr.weakN (nx' := s.nx) (fun _ h => h) : Rel U w0 (Span N seed (unV' seed r).2.2) { (App (unV' seed r).2.1 (unV' seed r).2.2 s) with nx := s.nx } a w' ι')
    refine hK ι' _ w' (dst hr' rfl rfl fun y hy => ?_)
    rw [h5] at hy
    cases hy
    rw [hcnt, h5]
    exact hv.keep (E' := env U (Span N seed (unV' seed r).2.2) { s with hp := (unV' seed r).2.1 ++ s.hp } w' ι') (Step.same rfl rfl rfl rfl fun _ h => h)
end

/-! ### Who waits for whom -/
def ancs (pre : List (List Nat)) : List (List Nat) := pre.foldl (fun acc p => acc ++ [(p ++ p.flatMap fun i => acc.getD i []).eraseDups]) []
abbrev Ents := List (Option Eff)
/-- The state in which those of the operations have been carried out that are in the list. -/
def mk (anc : List Nat) : Nat → List SO → Ents → St → St
  | i, o :: l, x :: xs, s => mk anc (i + 1) l xs (if anc.contains i then (match x with
      | some e => put1 s o.dst e.val e.ups s.nx
      | none => skip1 s o.dst) else s)
  | _, _, _, s => s
def temps (o : SO) : List Nat := (o.op.operands.toList.filterMap fun | .tmp t => some t | _ => none) ++ (match o.g with | some (t, _) => [t] | none => [])
/-- No temporary is written twice; who reads one that is written here waits for it, or is waited for. -/
def drawOk (l : List SO) (A : List (List Nat)) : Bool :=
  (List.range l.length).all fun j => (List.range l.length).all fun i => i == j ||
    match (l[i]?).bind (·.dst), l[j]? with
    | some d, some o => o.dst != some d && (!(temps o).contains d || (A.getD j []).contains i || (A.getD i []).contains j)
    | _, _ => true
def seedOf (s0 : St) (j : Nat) : Nat := s0.nx + 16 * j
def entOk (P : Program) (s0 : St) (A : List (List Nat)) (l : List SO) (xs : Ents) (j : Nat) (o : SO) (x : Option Eff) : Prop :=
  dstOk s0 o.dst = true ∧
  match x with
  | some e => gOk (mk (A.getD j []) 0 l xs s0) o.g ∧ stepE P (mk (A.getD j []) 0 l xs s0) (seedOf s0 j) o.op e ∧ e.cnt ≤ 14 ∧ ∀ p ∈ e.ups, s0.nx ≤ p.1
  | none => ∃ t w, o.g = some (t, w) ∧ offB (mk (A.getD j []) 0 l xs s0) t w
def allIn (n : Nat) : List Nat := List.range n
inductive DrawA (P : Program) (K : St → Prop) (s0 : St) (A : List (List Nat)) (l : List SO) : List SO → Ents → Prop
  | nil {xs} (h : K { mk (allIn l.length) 0 l xs s0 with nx := s0.nx + 16 * l.length }) : DrawA P K s0 A l [] xs
  | op {dst op g rest xs e} (hd : dstOk s0 dst = true) (hg : gOk (mk (A.getD xs.length []) 0 l xs s0) g) (he : stepE P (mk (A.getD xs.length []) 0 l xs s0) (seedOf s0 xs.length) op e) (hc : e.cnt ≤ 14)
      (hn : ∀ p ∈ e.ups, seedOf s0 xs.length ≤ p.1 ∧ p.1 < seedOf s0 xs.length + e.cnt) (h : DrawA P K s0 A l rest (xs ++ [some e])) : DrawA P K s0 A l (⟨dst, op, g⟩ :: rest) xs
  | off {dst op t w rest xs} (hd : dstOk s0 dst = true) (hb : offB (mk (A.getD xs.length []) 0 l xs s0) t w) (h : DrawA P K s0 A l rest (xs ++ [none])) : DrawA P K s0 A l (⟨dst, op, some (t, w)⟩ :: rest) xs
  | split {rest xs} (b : Bool) (ht : b = true → DrawA P K s0 A l rest xs) (hf : b = false → DrawA P K s0 A l rest xs) : DrawA P K s0 A l rest xs

def upsOf0 (x : Option Eff) : List (Nat × Ob) :=
  match x with
  | some e => e.ups
  | none => []
/-- Operation j's result lays the object b. -/
def Lays (xs : Ents) (j b : Nat) : Prop := ∃ x, xs[j]? = some x ∧ lk (upsOf0 x) b ≠ none
/-- Who lays an object, and who asks for it or lays it, wait for each other. -/
def CmpAt (A : List (List Nat)) (xs : Ents) (e : Eff) : Prop :=
  ∀ k b, Lays xs k b →
    ((lk e.ups b ≠ none ∨ ∃ i ∈ A.getD xs.length [], Lays xs i b) → k ∈ A.getD xs.length [])
def CmpTo (A : List (List Nat)) (xs : Ents) (e : Eff) : Prop :=
  ∀ j b, j < xs.length → lk e.ups b ≠ none → (∃ i ∈ A.getD j [], Lays xs i b) → j ∈ A.getD xs.length []
def CmpU (A : List (List Nat)) (xs : Ents) : Prop :=
  ∀ j k b e, xs[j]? = some (some e) → Lays xs k b → (lk e.ups b ≠ none ∨ ∃ i ∈ A.getD j [], Lays xs i b) → j = k ∨ j ∈ A.getD k [] ∨ k ∈ A.getD j []
/-- .. the same, for operations that lay objects of one another. -/
inductive DrawB (P : Program) (K : St → Prop) (s0 : St) (A : List (List Nat)) (l : List SO) : List SO → Ents → Prop
  | nil {xs} (h : K { mk (allIn l.length) 0 l xs s0 with nx := s0.nx + 16 * l.length }) : DrawB P K s0 A l [] xs
  | op {dst op g rest xs e} (hd : dstOk s0 dst = true) (hg : gOk (mk (A.getD xs.length []) 0 l xs s0) g) (he : stepE P (mk (A.getD xs.length []) 0 l xs s0) (seedOf s0 xs.length) op e) (hc : e.cnt ≤ 14)
      (hn : ∀ p ∈ e.ups, s0.nx ≤ p.1) (ha : CmpAt A xs e) (ht : CmpTo A xs e) (h : DrawB P K s0 A l rest (xs ++ [some e])) : DrawB P K s0 A l (⟨dst, op, g⟩ :: rest) xs
  | off {dst op t w rest xs} (hd : dstOk s0 dst = true) (hb : offB (mk (A.getD xs.length []) 0 l xs s0) t w) (h : DrawB P K s0 A l rest (xs ++ [none])) : DrawB P K s0 A l (⟨dst, op, some (t, w)⟩ :: rest) xs
  | split {rest xs} (b : Bool) (ht : b = true → DrawB P K s0 A l rest xs) (hf : b = false → DrawB P K s0 A l rest xs) : DrawB P K s0 A l rest xs

theorem mk_short (anc : List Nat) : ∀ (l : List SO) (xs ys : Ents) (i : Nat) (s : St), (∀ k ∈ anc, k < i + xs.length) → mk anc i l (xs ++ ys) s = mk anc i l xs s
  | [], xs, ys, i, s, _ => by cases xs <;> cases ys <;> rfl
  | o :: l, x :: xs, ys, i, s, h => by
    simp only [List.cons_append, mk]
    exact mk_short anc l xs ys (i + 1) _ (fun k hk => by have := h k hk; simp at this; omega)
  | o :: l, [], ys, i, s, h => by
    simp only [List.nil_append, mk]
    have key : ∀ (l : List SO) (ys : Ents) (i : Nat) (s : St), (∀ k ∈ anc, k < i) → mk anc i l ys s = s := by
      intro l
      induction l with
      | nil => intro ys i s _; cases ys <;> rfl
      | cons o l ih =>
        intro ys i s hk
        cases ys with
        | nil => rfl
        | cons y ys =>
          simp only [mk]
          have : anc.contains i = false := by
            simp only [List.contains_eq_mem, decide_eq_false_iff_not]
            exact fun hm => absurd (hk i hm) (Nat.lt_irrefl _)
          rw [this]
          exact ih ys (i + 1) s fun k hm => Nat.lt_succ_of_lt (hk k hm)
    exact key (o :: l) ys i s (fun k hk => by simpa using h k hk)

/-! ### The state behind any of the orders -/
theorem lk_app {α : Type} (u l : List (Nat × α)) (b : Nat) : lk (u ++ l) b = match lk u b with
    | some o => some o
    | none => lk l b := by
  induction u with
  | nil => rfl
  | cons p u ih =>
    obtain ⟨k, v⟩ := p
    simp only [List.cons_append, lk_cons]
    split
    · rfl
    · exact ih
def entSt (s : St) (o : SO) (x : Option Eff) : St :=
  match x with
  | some e => put1 s o.dst e.val e.ups s.nx
  | none => skip1 s o.dst
theorem mk_cons (anc : List Nat) (i : Nat) (o : SO) (l : List SO) (x : Option Eff) (xs : Ents) (s : St) : mk anc i (o :: l) (x :: xs) s = mk anc (i + 1) l xs (if anc.contains i then entSt s o x else s) := rfl
def valOf (x : Option Eff) : Option AV :=
  match x with
  | some e => e.val
  | none => some (.tup [])
def upsOf (x : Option Eff) : List (Nat × Ob) :=
  match x with
  | some e => e.ups
  | none => []
theorem entSt_fr (s : St) (o : SO) (x : Option Eff) (t : Nat) : lk (entSt s o x).fr t = if o.dst = some t then valOf x else lk s.fr t := by
  have key : ∀ v, lk (frOf s.fr o.dst v) t = if o.dst = some t then v else lk s.fr t := fun v => by
    cases hd : o.dst with
    | none => simp [frOf]
    | some d =>
      cases v with
      | none => simp only [frOf, lk_del, Option.some.injEq]
      | some v => simp only [frOf, lk_cons, Option.some.injEq]
  cases x with
  | none => exact key (some (.tup []))
  | some e => exact key e.val
theorem entSt_hp (s : St) (o : SO) (x : Option Eff) : (entSt s o x).hp = upsOf x ++ s.hp := by
  cases x <;> rfl
theorem entSt_nt (s : St) (o : SO) (x : Option Eff) : (entSt s o x).nt = s.nt ∧ (entSt s o x).nx = s.nx := by
  cases x <;> exact ⟨rfl, rfl⟩
theorem mk_nt (anc : List Nat) : ∀ (l : List SO) (xs : Ents) (i : Nat) (s : St), (mk anc i l xs s).nt = s.nt ∧ (mk anc i l xs s).nx = s.nx
  | [], xs, i, s => by cases xs <;> exact ⟨rfl, rfl⟩
  | o :: l, [], i, s => ⟨rfl, rfl⟩
  | o :: l, x :: xs, i, s => by
    rw [mk_cons]
    have h := mk_nt anc l xs (i + 1) (if anc.contains i then entSt s o x else s)
    have h2 := entSt_nt s o x
    split at h
    · rename_i hc; rw [if_pos hc]; exact ⟨h.1.trans h2.1, h.2.trans h2.2⟩
    · rename_i hc; rw [if_neg hc]; exact h
/-- A temporary that none of those carried out writes. -/
theorem mk_fr_old (anc : List Nat) (t : Nat) : ∀ (l : List SO) (xs : Ents) (i : Nat) (s : St), (∀ j o, l[j]? = some o → anc.contains (i + j) = true → o.dst ≠ some t) → lk (mk anc i l xs s).fr t = lk s.fr t
  | [], xs, i, s, _ => by cases xs <;> rfl
  | o :: l, [], i, s, _ => rfl
  | o :: l, x :: xs, i, s, h => by
    rw [mk_cons, mk_fr_old anc t l xs (i + 1) _ (fun j o' hj hc => h (j + 1) o' (by simpa using hj) (by rw [show i + (j + 1) = i + 1 + j by omega]; exact hc))]
    by_cases hc : anc.contains i = true
    · rw [if_pos hc, entSt_fr, if_neg (h 0 o rfl (by simpa using hc))]
    · rw [if_neg hc]
/-- A temporary that one of those carried out writes. -/
theorem mk_fr_new (anc : List Nat) (t : Nat) : ∀ (l : List SO) (xs : Ents) (i : Nat) (s : St) (j : Nat) (o : SO) (x : Option Eff), l[j]? = some o → xs[j]? = some x → anc.contains (i + j) = true → o.dst = some t →
    (∀ j' o', l[j']? = some o' → o'.dst = some t → j' = j) → lk (mk anc i l xs s).fr t = valOf x
  | [], xs, i, s, j, o, x, hj, _, _, _, _ => by simp at hj
  | o0 :: l, [], i, s, j, o, x, _, hx, _, _, _ => by simp at hx
  | o0 :: l, x0 :: xs, i, s, j, o, x, hj, hx, hc, hd, hu => by
    rw [mk_cons]
    cases j with
    | zero =>
      simp only [List.getElem?_cons_zero, Option.some.injEq] at hj hx
      subst hj hx
      rw [mk_fr_old anc t l xs (i + 1) _ (fun j' o' hj' _ hd' => by have := hu (j' + 1) o' (by simpa using hj') hd'; omega)]
      rw [if_pos (by simpa using hc), entSt_fr, if_pos hd]
    | succ j =>
      exact mk_fr_new anc t l xs (i + 1) _ j o x (by simpa using hj) (by simpa using hx) (by rw [show i + 1 + j = i + (j + 1) by omega]; exact hc) hd (fun j' o' hj' hd' => by have := hu (j' + 1) o' (by simpa using hj') hd'; omega)
theorem mk_hp_old (anc : List Nat) (b : Nat) : ∀ (l : List SO) (xs : Ents) (i : Nat) (s : St), (∀ j x, xs[j]? = some x → j < l.length → anc.contains (i + j) = true → lk (upsOf x) b = none) → lk (mk anc i l xs s).hp b = lk s.hp b
  | [], xs, i, s, _ => by cases xs <;> rfl
  | o :: l, [], i, s, _ => rfl
  | o :: l, x :: xs, i, s, h => by
    rw [mk_cons, mk_hp_old anc b l xs (i + 1) _ (fun j x' hj hl hc => h (j + 1) x' (by simpa using hj) (by simpa using hl) (by rw [show i + (j + 1) = i + 1 + j by omega]; exact hc))]
    by_cases hc : anc.contains i = true
    · rw [if_pos hc, entSt_hp, lk_app, h 0 x rfl (by simp) (by simpa using hc)]
    · rw [if_neg hc]
theorem mk_hp_new (anc : List Nat) (b : Nat) : ∀ (l : List SO) (xs : Ents) (i : Nat) (s : St) (j : Nat) (x : Option Eff) (ob : Ob), xs[j]? = some x → j < l.length → anc.contains (i + j) = true → lk (upsOf x) b = some ob →
    (∀ j' x', xs[j']? = some x' → j' ≠ j → lk (upsOf x') b = none) → lk (mk anc i l xs s).hp b = some ob
  | [], xs, i, s, j, x, ob, _, hl, _, _, _ => by simp at hl
  | o0 :: l, [], i, s, j, x, ob, hx, _, _, _, _ => by simp at hx
  | o0 :: l, x0 :: xs, i, s, j, x, ob, hx, hl, hc, hb, hu => by
    rw [mk_cons]
    cases j with
    | zero =>
      simp only [List.getElem?_cons_zero, Option.some.injEq] at hx
      subst hx
      rw [mk_hp_old anc b l xs (i + 1) _ (fun j' x' hj' _ _ => hu (j' + 1) x' (by simpa using hj') (by omega))]
      rw [if_pos (by simpa using hc), entSt_hp, lk_app, hb]
    | succ j =>
      exact mk_hp_new anc b l xs (i + 1) _ j x ob (by simpa using hx) (by simpa using hl) (by rw [show i + 1 + j = i + (j + 1) by omega]; exact hc) hb (fun j' x' hj' hne => hu (j' + 1) x' (by simpa using hj') (by omega))
def orO (a b : Option Ob) : Option Ob := match a with
  | some o => some o
  | none => b
theorem orO_none (b : Option Ob) : orO none b = b := rfl
theorem orO_some (o : Ob) (b : Option Ob) : orO (some o) b = some o := rfl
theorem lk_appO (u l : List (Nat × Ob)) (b : Nat) : lk (u ++ l) b = orO (lk u b) (lk l b) := by
  rw [lk_app]
  cases lk u b <;> rfl
/-- The last of those carried out that lays an object. -/
def lastT (X : List Nat) : Nat → Ents → Nat → Option Ob
  | _, [], _ => none
  | i, x :: xs, b => orO (lastT X (i + 1) xs b) (if X.contains i then lk (upsOf x) b else none)
theorem mk_hp_last (X : List Nat) (b : Nat) : ∀ (l : List SO) (xs : Ents) (i : Nat) (s : St), xs.length ≤ l.length → lk (mk X i l xs s).hp b = orO (lastT X i xs b) (lk s.hp b)
  | [], [], i, s, _ => rfl
  | [], x :: xs, i, s, h => by simp at h
  | o :: l, [], i, s, _ => rfl
  | o :: l, x :: xs, i, s, h => by
    rw [mk_cons, mk_hp_last X b l xs (i + 1) _ (by simpa using h), lastT]
    cases lastT X (i + 1) xs b with
    | some ob => rfl
    | none =>
      rw [orO_none, orO_none]
      by_cases hc : X.contains i = true
      · rw [if_pos hc, if_pos hc, entSt_hp, lk_appO]
      · rw [if_neg hc, if_neg hc, orO_none]
theorem lastT_congr {X X' : List Nat} {b : Nat} : ∀ (xs : Ents) (i : Nat), (∀ k x, xs[k]? = some x → lk (upsOf x) b ≠ none → X.contains (i + k) = X'.contains (i + k)) → lastT X i xs b = lastT X' i xs b
  | [], _, _ => rfl
  | x :: xs, i, h => by
    have ih : lastT X (i + 1) xs b = lastT X' (i + 1) xs b := lastT_congr xs (i + 1) fun k y hy hb => by
      have h1 := h (k + 1) y (by simpa using hy) hb
      have e : i + (k + 1) = i + 1 + k := by omega
      rw [e] at h1
      exact h1
    rw [lastT, lastT, ih]
    cases hx : lk (upsOf x) b with
    | none => simp
    | some ob =>
      have := h 0 x rfl (by rw [hx]; simp)
      rw [Nat.add_zero] at this
      rw [this]
theorem lastT_none {X : List Nat} {b : Nat} : ∀ (xs : Ents) (i : Nat), (∀ k x, xs[k]? = some x → X.contains (i + k) = true → lk (upsOf x) b = none) → lastT X i xs b = none
  | [], _, _ => rfl
  | x :: xs, i, h => by
    rw [lastT, lastT_none xs (i + 1) fun k y hy hc => h (k + 1) y (by simpa using hy) (by rw [show i + (k + 1) = i + 1 + k by omega]; exact hc), orO_none]
    by_cases hc : X.contains i = true
    · rw [if_pos hc, h 0 x rfl (by simpa using hc)]
    · rw [if_neg hc]
theorem lastT_at {X : List Nat} {b : Nat} {ob : Ob} : ∀ (xs : Ents) (i j : Nat) (x : Option Eff), xs[j]? = some x → X.contains (i + j) = true → lk (upsOf x) b = some ob → (∀ k y, j < k → xs[k]? = some y → X.contains (i + k) = true → lk (upsOf y) b = none) → lastT X i xs b = some ob
  | [], _, j, x, hx, _, _, _ => by simp at hx
  | y :: xs, i, 0, x, hx, hc, hb, h => by
    simp only [List.getElem?_cons_zero, Option.some.injEq] at hx
    subst hx
    rw [lastT, lastT_none xs (i + 1) fun k z hz hc' => h (k + 1) z (by omega) (by simpa using hz) (by rw [show i + (k + 1) = i + 1 + k by omega]; exact hc'), orO_none]
    rw [if_pos (by simpa using hc), hb]
  | y :: xs, i, j + 1, x, hx, hc, hb, h => by
    rw [lastT, lastT_at xs (i + 1) j x (by simpa using hx) (by rw [show i + 1 + j = i + (j + 1) by omega]; exact hc) hb fun k z hk hz hc' => h (k + 1) z (by omega) (by simpa using hz) (by rw [show i + (k + 1) = i + 1 + k by omega]; exact hc'), orO_some]
theorem upsOf_eq0 (x : Option Eff) : upsOf0 x = upsOf x := by cases x <;> rfl
theorem lays_iff {xs : Ents} {j b : Nat} : Lays xs j b ↔ ∃ x, xs[j]? = some x ∧ lk (upsOf x) b ≠ none := by
  unfold Lays
  constructor
  · rintro ⟨x, h1, h2⟩; exact ⟨x, h1, by rw [← upsOf_eq0]; exact h2⟩
  · rintro ⟨x, h1, h2⟩; exact ⟨x, h1, by rw [upsOf_eq0]; exact h2⟩
/-- Two states that are asked alike. -/
structure Like (s s' : St) : Prop where
  fr : ∀ t, lk s.fr t = lk s'.fr t
  hp : ∀ b, lk s.hp b = lk s'.hp b
  nt : s.nt = s'.nt
theorem Rel.like {U : Nat → Prop} {w0 : Base} {N : Nat → Prop} {s s' : St} {a : Act} {w : World} {ι : Nat → Option Nat} (h : Rel U w0 N s a w ι) (hl : Like s s') : Rel U w0 N s' a w ι := by
  have e : lk s.hp = lk s'.hp := funext hl.hp
  have ee : env U N s w ι = env U N s' w ι := by unfold env; rw [e]
  exact ⟨fun t x ht => by rw [← ee]; exact h.fr t x ((hl.fr t).trans ht), fun b o hb => by rw [← ee]; exact h.ob b o ((hl.hp b).trans hb),
    fun b b' o o' g h1 h2 => h.inj b b' o o' g ((hl.hp b).trans h1) ((hl.hp b').trans h2), h.gr, h.nt.trans hl.nt, h.df, by rw [← ee]; exact h.st⟩
end
end Go.Proofs.Ytmhnogmbpoeaeaa.Eng
namespace Go.Proofs.Ytmhnogmbpoeaeaa.Eng
set_option linter.all false
noncomputable section
open Go.RowKit

theorem getD_snoc {α : Type} (acc : List (List α)) (p : List α) (k : Nat) : (acc ++ [p]).getD k [] = if k < acc.length then acc.getD k [] else if k = acc.length then p else [] := by
  simp only [List.getD, List.getElem?_append]
  split
  · rfl
  · rename_i h
    by_cases hk : k = acc.length
    · subst hk; simp
    · rw [if_neg hk]
      have : k - acc.length = (k - acc.length - 1) + 1 := by omega
      rw [this]; rfl
def ancGo : List (List Nat) → List (List Nat) → List (List Nat)
  | acc, [] => acc
  | acc, p :: ps => ancGo (acc ++ [(p ++ p.flatMap fun i => acc.getD i []).eraseDups]) ps
theorem ancs_eq (pre : List (List Nat)) : ancs pre = ancGo [] pre := by
  unfold ancs
  have : ∀ (ps acc : List (List Nat)), ps.foldl (fun acc p => acc ++ [(p ++ p.flatMap fun i => acc.getD i []).eraseDups]) acc = ancGo acc ps := by
    intro ps
    induction ps with
    | nil => intro acc; rfl
    | cons p ps ih => intro acc; exact ih _
  exact this pre []
theorem ancGo_mono : ∀ (ps acc : List (List Nat)) (k : Nat), k < acc.length → (ancGo acc ps).getD k [] = acc.getD k []
  | [], acc, k, _ => rfl
  | p :: ps, acc, k, hk => by
    rw [ancGo, ancGo_mono ps _ k (by simp; omega), getD_snoc, if_pos hk]
theorem ancGo_sub (ps acc : List (List Nat)) (k : Nat) : ∀ i ∈ acc.getD k [], i ∈ (ancGo acc ps).getD k [] := by
  intro i hi
  by_cases hk : k < acc.length
  · rw [ancGo_mono ps acc k hk]; exact hi
  · have : acc.getD k [] = [] := by simp [List.getD, List.getElem?_eq_none (Nat.le_of_not_lt hk)]
    rw [this] at hi; cases hi
theorem ancGo_spec : ∀ (ps acc : List (List Nat)) (j i : Nat), i ∈ (ancGo acc ps).getD j [] → (j < acc.length ∧ i ∈ acc.getD j []) ∨ ∃ p, acc.length ≤ j ∧ ps[j - acc.length]? = some p ∧ (i ∈ p ∨ ∃ k ∈ p, i ∈ (ancGo acc ps).getD k [])
  | [], acc, j, i, h => by
    by_cases hj : j < acc.length
    · exact .inl ⟨hj, h⟩
    · have : acc.getD j [] = [] := by simp [List.getD, List.getElem?_eq_none (Nat.le_of_not_lt hj)]
      rw [ancGo, this] at h; cases h
  | p :: ps, acc, j, i, h => by
    rw [ancGo] at h ⊢
    rcases ancGo_spec ps _ j i h with ⟨hj, hi⟩ | ⟨q, hj, hq, hi⟩
    · rw [getD_snoc] at hi
      split at hi
      · rename_i hlt; exact .inl ⟨hlt, hi⟩
      · split at hi
        · rename_i hlt heq
          refine .inr ⟨p, by omega, by rw [heq, Nat.sub_self]; rfl, ?_⟩
          rcases List.mem_append.1 (List.mem_eraseDups.1 hi) with hi | hi
          · exact .inl hi
          · obtain ⟨k, hk, hik⟩ := List.mem_flatMap.1 hi
            refine .inr ⟨k, hk, ancGo_sub ps _ k i ?_⟩
            rw [getD_snoc]
            by_cases hkl : k < acc.length
            · rw [if_pos hkl]; exact hik
            · have : acc.getD k [] = [] := by simp [List.getD, List.getElem?_eq_none (Nat.le_of_not_lt hkl)]
              rw [this] at hik; cases hik
        · cases hi
    · simp only [List.length_append, List.length_singleton] at hj hq
      refine .inr ⟨q, by omega, ?_, hi⟩
      have : j - acc.length = (j - (acc.length + 1)) + 1 := by omega
      rw [this]; simpa using hq
theorem ancs_spec {pre : List (List Nat)} {j i : Nat} (h : i ∈ (ancs pre).getD j []) : ∃ p, pre[j]? = some p ∧ (i ∈ p ∨ ∃ k ∈ p, i ∈ (ancs pre).getD k []) := by
  rw [ancs_eq] at h ⊢
  rcases ancGo_spec pre [] j i h with ⟨hj, _⟩ | ⟨p, _, hp, hi⟩
  · simp at hj
  · exact ⟨p, by simpa using hp, hi⟩

/-- The operations whose bit is set. -/
def setOf (n : Nat) (listed : Array Bool) : List Nat := (List.range n).filter fun j => listed.getD j false
theorem mem_setOf {n : Nat} {listed : Array Bool} {j : Nat} : j ∈ setOf n listed ↔ j < n ∧ listed.getD j false = true := by simp [setOf]
theorem contains_iff {l : List Nat} {j : Nat} : l.contains j = true ↔ j ∈ l := by simp
theorem countP_lt {α : Type} {p q : α → Bool} : ∀ {l : List α} {x : α}, (∀ y, q y = true → p y = true) → x ∈ l → p x = true → q x = false → l.countP q < l.countP p
  | y :: l, x, hpq, hx, hp, hq => by
    have hle : l.countP q ≤ l.countP p := List.countP_mono_left fun z _ hz => hpq z hz
    rw [List.countP_cons, List.countP_cons]
    rcases List.mem_cons.1 hx with rfl | hx
    · simp only [hp, hq, if_true, Bool.false_eq_true, if_false]; omega
    · have ih := countP_lt hpq hx hp hq
      by_cases hqy : q y = true
      · simp only [hqy, hpq y hqy, if_true]; omega
      · simp only [hqy, if_false, Bool.false_eq_true]; split <;> omega
  | [], x, _, hx, _, _ => by cases hx

structure Trace (P : Program) (s0 : St) (pre : List (List Nat)) (l : List SO) (xs : Ents) : Prop where
  len : xs.length = l.length
  ent : ∀ (j : Nat) (o : SO) (x : Option Eff), l[j]? = some o → xs[j]? = some x → entOk P s0 (ancs pre) l xs j o x
  uniq : ∀ (i j : Nat) (o o' : SO) (t : Nat), l[i]? = some o → l[j]? = some o' → o.dst = some t → o'.dst = some t → i = j
  cmp : ∀ (i j : Nat) (o o' : SO) (t : Nat), l[i]? = some o → l[j]? = some o' → o.dst = some t → t ∈ temps o' → i ≠ j → i ∈ (ancs pre).getD j [] ∨ j ∈ (ancs pre).getD i []
  upd : CmpU (ancs pre) xs
theorem drawOk_uniq {l : List SO} {A : List (List Nat)} (h : drawOk l A = true) {i j : Nat} {o o' : SO} {t : Nat} (hi : l[i]? = some o) (hj : l[j]? = some o') (h1 : o.dst = some t) (h2 : o'.dst = some t) : i = j := by
  have hil := (List.getElem?_eq_some_iff.1 hi).1
  have hjl := (List.getElem?_eq_some_iff.1 hj).1
  have := List.all_eq_true.1 (List.all_eq_true.1 h j (by simpa using hjl)) i (by simpa using hil)
  by_cases hij : i = j
  · exact hij
  · simp [hij, hi, hj, h1, h2] at this
theorem drawOk_cmp {l : List SO} {A : List (List Nat)} (h : drawOk l A = true) {i j : Nat} {o o' : SO} {t : Nat} (hi : l[i]? = some o) (hj : l[j]? = some o') (h1 : o.dst = some t) (h2 : t ∈ temps o') (hne : i ≠ j) : i ∈ A.getD j [] ∨ j ∈ A.getD i [] := by
  have hil := (List.getElem?_eq_some_iff.1 hi).1
  have hjl := (List.getElem?_eq_some_iff.1 hj).1
  have := List.all_eq_true.1 (List.all_eq_true.1 h j (by simpa using hjl)) i (by simpa using hil)
  have hij : (i == j) = false := by simpa using hne
  simp only [hij, Bool.false_or, hi, hj, Option.bind_some, h1] at this
  have h2' : (temps o').contains t = true := by simpa using h2
  simp only [h2', Bool.not_true, Bool.false_or, Bool.and_eq_true, Bool.or_eq_true, contains_iff] at this
  exact this.2

section
variable {P : Program} {U : Nat → Prop} {w0 : Base} {s0 : St} {pre : List (List Nat)} {l : List SO} {xs : Ents}
theorem Trace.ge (h : Trace P s0 pre l xs) {j : Nat} {x : Option Eff} {b : Nat} (hx : xs[j]? = some x) (hb : lk (upsOf x) b ≠ none) : s0.nx ≤ b := by
  have hj : j < l.length := by have := (List.getElem?_eq_some_iff.1 hx).1; rw [h.len] at this; exact this
  obtain ⟨_, he⟩ := h.ent j l[j] x (List.getElem?_eq_getElem hj) hx
  cases x with
  | none => exact absurd rfl hb
  | some e =>
    obtain ⟨_, _, _, hn⟩ := he
    cases hl : lk (upsOf (some e)) b with
    | none => exact absurd hl hb
    | some ob => exact hn _ (lk_mem hl)
def NX (s0 : St) (X : List Nat) (b : Nat) : Prop := b < s0.nx ∨ ∃ i ∈ X, seedOf s0 i ≤ b ∧ b < seedOf s0 i + 16

theorem like_step (h : Trace P s0 pre l xs) {X X' : List Nat} {j : Nat} {o : SO} {x : Option Eff} (hj : l[j]? = some o) (hx : xs[j]? = some x) (hnX : j ∉ X) (hX' : ∀ i, i ∈ X' ↔ i ∈ X ∨ i = j) (hlast : ∀ b, lk (upsOf x) b ≠ none → ∀ k, k ∈ X → Lays xs k b → k < j) :
    Like (entSt (mk X 0 l xs s0) o x) (mk X' 0 l xs s0) := by
  have hjl := (List.getElem?_eq_some_iff.1 hj).1
  have hX'j : X'.contains (0 + j) = true := by rw [contains_iff, hX']; exact .inr (by omega)
  refine ⟨fun t => ?_, fun b => ?_, ?_⟩
  · rw [entSt_fr]
    by_cases hd : o.dst = some t
    · rw [if_pos hd]
      exact (mk_fr_new X' t l xs 0 s0 j o x hj hx hX'j hd (fun j' o' hj' hd' => h.uniq j' j o' o t hj' hj hd' hd)).symm
    · rw [if_neg hd]
      by_cases hw : ∃ (i : Nat) (oi : SO), l[i]? = some oi ∧ oi.dst = some t
      · obtain ⟨i, oi, hi, hdi⟩ := hw
        have hil := (List.getElem?_eq_some_iff.1 hi).1
        have hij : i ≠ j := by rintro rfl; rw [hj] at hi; cases hi; exact hd hdi
        have hxi : xs[i]? = some (xs[i]'(by rw [h.len]; exact hil)) := List.getElem?_eq_getElem _
        by_cases hiX : i ∈ X
        · rw [mk_fr_new X t l xs 0 s0 i oi _ hi hxi (by rw [contains_iff]; simpa using hiX) hdi (fun j' o' hj' hd' => h.uniq j' i o' oi t hj' hi hd' hdi),
            mk_fr_new X' t l xs 0 s0 i oi _ hi hxi (by rw [contains_iff, hX']; exact .inl (by simpa using hiX)) hdi (fun j' o' hj' hd' => h.uniq j' i o' oi t hj' hi hd' hdi)]
        · rw [mk_fr_old X t l xs 0 s0 (fun k ok hk hc hdk => by
              have := h.uniq k i ok oi t hk hi hdk hdi; subst this; rw [contains_iff] at hc; exact hiX (by simpa using hc)),
            mk_fr_old X' t l xs 0 s0 (fun k ok hk hc hdk => by
              have := h.uniq k i ok oi t hk hi hdk hdi; subst this; rw [contains_iff, hX'] at hc; rcases hc with hc | hc; exact hiX (by simpa using hc); omega)]
      · rw [mk_fr_old X t l xs 0 s0 (fun k ok hk _ hdk => hw ⟨k, ok, hk, hdk⟩), mk_fr_old X' t l xs 0 s0 (fun k ok hk _ hdk => hw ⟨k, ok, hk, hdk⟩)]
  · have hle : xs.length ≤ l.length := Nat.le_of_eq h.len
    rw [entSt_hp, lk_app, mk_hp_last X b l xs 0 s0 hle, mk_hp_last X' b l xs 0 s0 hle]
    cases hu : lk (upsOf x) b with
    | some ob =>
      show some ob = _
      rw [lastT_at xs 0 j x hx hX'j hu fun k y hjk hy hc => by
        cases hb : lk (upsOf y) b with
        | none => rfl
        | some ob' =>
          rw [contains_iff, hX'] at hc
          rcases hc with hc | hc
          · have := hlast b (by rw [hu]; simp) k (by simpa using hc) (lays_iff.2 ⟨y, hy, by rw [hb]; simp⟩)
            omega
          · omega, orO_some]
    | none =>
      show orO _ _ = _
      rw [lastT_congr (X := X) (X' := X') xs 0 fun k y hy hb => by
        have hkj : k ≠ j := by rintro rfl; rw [hx] at hy; cases hy; exact hb hu
        rw [Nat.zero_add, Bool.eq_iff_iff, contains_iff, contains_iff, hX']
        exact ⟨.inl, fun h => h.resolve_right hkj⟩]
  · rw [(entSt_nt _ _ _).1, (mk_nt _ _ _ _ _).1, (mk_nt _ _ _ _ _).1]

/-- What an operation asks is the same with those carried out that it waits for, and with more of them. -/
theorem ask_same (h : Trace P s0 pre l xs) (h0 : ∀ b o, lk s0.hp b = some o → b < s0.nx) {X : List Nat} {j : Nat} {o : SO} (hj : l[j]? = some o) (hnX : j ∉ X) (hA : ∀ i ∈ (ancs pre).getD j [], i ∈ X) (hcl : ∀ k ∈ X, ∀ i ∈ (ancs pre).getD k [], i ∈ X) :
    (∀ t ∈ temps o, lk (mk X 0 l xs s0).fr t = lk (mk ((ancs pre).getD j []) 0 l xs s0).fr t) ∧ ∀ e, xs[j]? = some (some e) → ∀ b ob, lk (mk ((ancs pre).getD j []) 0 l xs s0).hp b = some ob → lk (mk X 0 l xs s0).hp b = some ob := by
  refine ⟨fun t ht => ?_, fun e hxe b ob hb => ?_⟩
  · by_cases hw : ∃ (i : Nat) (oi : SO), l[i]? = some oi ∧ oi.dst = some t
    · obtain ⟨i, oi, hi, hdi⟩ := hw
      have hil := (List.getElem?_eq_some_iff.1 hi).1
      have hxi : xs[i]? = some (xs[i]'(by rw [h.len]; exact hil)) := List.getElem?_eq_getElem _
      have new : ∀ Y : List Nat, i ∈ Y → lk (mk Y 0 l xs s0).fr t = valOf (xs[i]'(by rw [h.len]; exact hil)) := fun Y hY =>
        mk_fr_new Y t l xs 0 s0 i oi _ hi hxi (by rw [contains_iff]; simpa using hY) hdi (fun j' o' hj' hd' => h.uniq j' i o' oi t hj' hi hd' hdi)
      have old : ∀ Y : List Nat, i ∉ Y → lk (mk Y 0 l xs s0).fr t = lk s0.fr t := fun Y hY =>
        mk_fr_old Y t l xs 0 s0 (fun k ok hk hc hdk => by
          have := h.uniq k i ok oi t hk hi hdk hdi; subst this; rw [contains_iff] at hc; exact hY (by simpa using hc))
      by_cases hij : i = j
      · subst hij
        rw [old X hnX, old _ (fun hm => hnX (hA i hm))]
      · rcases h.cmp i j oi o t hi hj hdi ht hij with hm | hm
        · rw [new X (hA i hm), new _ hm]
        · have hiX : i ∉ X := fun hiX => hnX (hcl i hiX j hm)
          rw [old X hiX, old _ (fun hm' => hiX (hA i hm'))]
    · rw [mk_fr_old X t l xs 0 s0 (fun k ok hk _ hdk => hw ⟨k, ok, hk, hdk⟩), mk_fr_old _ t l xs 0 s0 (fun k ok hk _ hdk => hw ⟨k, ok, hk, hdk⟩)]
  · have hle : xs.length ≤ l.length := Nat.le_of_eq h.len
    rw [mk_hp_last _ b l xs 0 s0 hle] at hb ⊢
    by_cases hw : ∃ i ∈ (ancs pre).getD j [], Lays xs i b
    · rw [lastT_congr (X := X) (X' := (ancs pre).getD j []) xs 0 fun k y hy hbk => by
        rw [Nat.zero_add, Bool.eq_iff_iff, contains_iff, contains_iff]
        refine ⟨fun hk => ?_, fun hk => hA k hk⟩
        rcases h.upd j k b e hxe (lays_iff.2 ⟨y, hy, hbk⟩) (.inr hw) with h1 | h1 | h1
        · subst h1; exact absurd hk hnX
        · exact absurd (hcl k hk j h1) hnX
        · exact h1]
      exact hb
    · have e1 : lastT ((ancs pre).getD j []) 0 xs b = none := lastT_none xs 0 fun k y hy hc => by
        rw [Nat.zero_add, contains_iff] at hc
        cases hb' : lk (upsOf y) b with
        | none => rfl
        | some ob' => exact absurd ⟨k, hc, lays_iff.2 ⟨y, hy, by rw [hb']; simp⟩⟩ hw
      rw [e1, orO_none] at hb
      have h1 := h0 b ob hb
      have e2 : lastT X 0 xs b = none := lastT_none xs 0 fun k y hy _ => by
        cases hb' : lk (upsOf y) b with
        | none => rfl
        | some ob' =>
          have := h.ge hy (by rw [hb']; simp)
          omega
      rw [e2, orO_none]
      exact hb
/-- Who lays an object last, of those carried out. -/
theorem last_of (h : Trace P s0 pre l xs) (hlt : ∀ (j i : Nat), i ∈ (ancs pre).getD j [] → i < j) {X : List Nat} {j : Nat} {x : Option Eff} (hx : xs[j]? = some x) (hnX : j ∉ X) (hcl : ∀ k ∈ X, ∀ i ∈ (ancs pre).getD k [], i ∈ X) :
    ∀ b, lk (upsOf x) b ≠ none → ∀ k, k ∈ X → Lays xs k b → k < j := fun b hb k hk hl => by
  cases x with
  | none => exact absurd rfl hb
  | some e =>
    rcases h.upd j k b e hx hl (.inl hb) with h1 | h1 | h1
    · subst h1; exact absurd hk hnX
    · exact absurd (hcl k hk j h1) hnX
    · exact hlt j k h1
end
end
end Go.Proofs.Ytmhnogmbpoeaeaa.Eng
namespace Go.Proofs.Ytmhnogmbpoeaeaa.Eng
set_option linter.all false
noncomputable section
open Go.RowKit

/-- Each waits only for those before it. -/
def preOk (pre : List (List Nat)) : Bool := (List.range pre.length).all fun j => (pre.getD j []).all fun i => decide (i < j)
theorem preOk_lt {pre : List (List Nat)} (h : preOk pre = true) {j i : Nat} {p : List Nat} (hp : pre[j]? = some p) (hi : i ∈ p) : i < j := by
  have hj := (List.getElem?_eq_some_iff.1 hp).1
  have h1 := List.all_eq_true.1 (List.all_eq_true.1 h j (by simpa using hj)) i (by simpa [List.getD, hp] using hi)
  simpa using h1
theorem ancs_lt {pre : List (List Nat)} (h : preOk pre = true) : ∀ (j i : Nat), i ∈ (ancs pre).getD j [] → i < j := by
  intro j
  induction j using Nat.strongRecOn with
  | _ j ih =>
    intro i hi
    obtain ⟨p, hp, hi⟩ := ancs_spec hi
    rcases hi with hi | ⟨k, hk, hi⟩
    · exact preOk_lt h hp hi
    · have h1 := preOk_lt h hp hk
      have h2 := ih k h1 i hi
      omega
theorem entOk_ext {P : Program} {s0 : St} {A : List (List Nat)} {l : List SO} {xs ys : Ents} {j : Nat} {o : SO} {x : Option Eff} (hA : ∀ i ∈ A.getD j [], i < xs.length) (h : entOk P s0 A l xs j o x) : entOk P s0 A l (xs ++ ys) j o x := by
  have e : mk (A.getD j []) 0 l (xs ++ ys) s0 = mk (A.getD j []) 0 l xs s0 := mk_short _ _ _ _ _ _ (fun k hk => by have := hA k hk; omega)
  refine ⟨h.1, ?_⟩
  have h2 := h.2
  cases x with
  | some e' => simp only at h2 ⊢; rw [e]; exact h2
  | none => simp only at h2 ⊢; rw [e]; exact h2
theorem getE_snoc {xs : Ents} {x y : Option Eff} {k : Nat} (h : (xs ++ [x])[k]? = some y) : (k < xs.length ∧ xs[k]? = some y) ∨ (k = xs.length ∧ y = x) := by
  rcases Nat.lt_trichotomy k xs.length with hlt | heq | hgt
  · rw [List.getElem?_append_left hlt] at h; exact .inl ⟨hlt, h⟩
  · subst heq
    rw [List.getElem?_append_right (Nat.le_refl _), Nat.sub_self] at h
    exact .inr ⟨rfl, by simpa using h.symm⟩
  · rw [List.getElem?_eq_none (by simp; omega)] at h; cases h
theorem lays_snoc {xs : Ents} {x : Option Eff} {k b : Nat} (h : Lays (xs ++ [x]) k b) : (k < xs.length ∧ Lays xs k b) ∨ (k = xs.length ∧ lk (upsOf x) b ≠ none) := by
  obtain ⟨y, h1, h2⟩ := lays_iff.1 h
  rcases getE_snoc h1 with ⟨hk, h3⟩ | ⟨hk, rfl⟩
  · exact .inl ⟨hk, lays_iff.2 ⟨y, h3, h2⟩⟩
  · exact .inr ⟨hk, h2⟩
theorem lays_lt {xs : Ents} {k b : Nat} (h : Lays xs k b) : k < xs.length := by
  obtain ⟨y, h1, _⟩ := h
  exact (List.getElem?_eq_some_iff.1 h1).1
/-- One more operation. -/
theorem cmpU_snoc {pre : List (List Nat)} (hp : preOk pre = true) {xs : Ents} (h : CmpU (ancs pre) xs) {e : Eff} (ha : CmpAt (ancs pre) xs e) (ht : CmpTo (ancs pre) xs e) : CmpU (ancs pre) (xs ++ [some e]) := by
  have old : ∀ {j b : Nat}, j ≤ xs.length → (∃ i ∈ (ancs pre).getD j [], Lays (xs ++ [some e]) i b) → ∃ i ∈ (ancs pre).getD j [], Lays xs i b := fun {j b} hj ⟨i, hi, hl⟩ => by
    have := ancs_lt hp j i hi
    rcases lays_snoc hl with ⟨_, h1⟩ | ⟨h1, _⟩
    · exact ⟨i, hi, h1⟩
    · omega
  intro j k b e1 hj hk hor
  rcases getE_snoc hj with ⟨hjl, hj1⟩ | ⟨rfl, he1⟩
  · rcases lays_snoc hk with ⟨hkl, hk1⟩ | ⟨rfl, hk1⟩
    · exact h j k b e1 hj1 hk1 (hor.imp id (old (Nat.le_of_lt hjl)))
    · rcases hor with h1 | h1
      · refine .inr (.inl (ha j b (lays_iff.2 ⟨some e1, hj1, h1⟩) (.inl hk1)))
      · exact .inr (.inl (ht j b hjl hk1 (old (Nat.le_of_lt hjl) h1)))
  · cases he1
    rcases lays_snoc hk with ⟨hkl, hk1⟩ | ⟨rfl, _⟩
    · exact .inr (.inr (ha k b hk1 (hor.imp id (old (Nat.le_refl _)))))
    · exact .inl rfl
theorem cmpU_none {pre : List (List Nat)} (hp : preOk pre = true) {xs : Ents} (h : CmpU (ancs pre) xs) : CmpU (ancs pre) (xs ++ [none]) := by
  intro j k b e1 hj hk hor
  rcases getE_snoc hj with ⟨hjl, hj1⟩ | ⟨_, he1⟩
  · rcases lays_snoc hk with ⟨hkl, hk1⟩ | ⟨_, hk1⟩
    · refine h j k b e1 hj1 hk1 (hor.imp id fun ⟨i, hi, hl⟩ => ?_)
      rcases lays_snoc hl with ⟨_, h1⟩ | ⟨_, h1⟩
      · exact ⟨i, hi, h1⟩
      · exact absurd rfl h1
    · exact absurd rfl hk1
  · cases he1
theorem ents_step {P : Program} {s0 : St} {pre : List (List Nat)} {l : List SO} (hp : preOk pre = true) {dn rest : List SO} {o : SO} {x : Option Eff} {xs : Ents} (hl : l = dn ++ o :: rest) (hlen : dn.length = xs.length) (hE : ∀ (j : Nat) (o : SO) (x : Option Eff), l[j]? = some o → xs[j]? = some x → entOk P s0 (ancs pre) l xs j o x)
    (ho : entOk P s0 (ancs pre) l xs xs.length o x) : ∀ (j : Nat) (o' : SO) (x' : Option Eff), l[j]? = some o' → (xs ++ [x])[j]? = some x' → entOk P s0 (ancs pre) l (xs ++ [x]) j o' x' := by
  intro j o' x' hj hx
  rcases Nat.lt_trichotomy j xs.length with hlt | heq | hgt
  · rw [List.getElem?_append_left hlt] at hx
    exact entOk_ext (fun i hi => by have := ancs_lt hp j i hi; omega) (hE j o' x' hj hx)
  · subst heq
    rw [List.getElem?_append_right (Nat.le_refl _), Nat.sub_self] at hx
    have hxx : x = x' := by simpa using hx
    subst hxx
    have hoo : o = o' := by
      rw [hl, List.getElem?_append_right (by omega), hlen, Nat.sub_self] at hj
      simpa using hj
    subst hoo
    exact entOk_ext (fun i hi => ancs_lt hp _ i hi) ho
  · rw [List.getElem?_eq_none (by simp; omega)] at hx; cases hx
theorem draw_entsB {P : Program} {K : St → Prop} {s0 : St} {pre : List (List Nat)} {l : List SO} (hp : preOk pre = true) {rest : List SO} {xs : Ents} (h : DrawB P K s0 (ancs pre) l rest xs) :
    ∀ dn, l = dn ++ rest → dn.length = xs.length → (∀ (j : Nat) (o : SO) (x : Option Eff), l[j]? = some o → xs[j]? = some x → entOk P s0 (ancs pre) l xs j o x) → CmpU (ancs pre) xs →
    ∃ xs', xs'.length = l.length ∧ (∀ (j : Nat) (o : SO) (x : Option Eff), l[j]? = some o → xs'[j]? = some x → entOk P s0 (ancs pre) l xs' j o x) ∧ CmpU (ancs pre) xs' ∧ K { mk (allIn l.length) 0 l xs' s0 with nx := s0.nx + 16 * l.length } := by
  induction h with
  | @nil xs hk =>
    intro dn hl hlen hE hC
    refine ⟨xs, ?_, hE, hC, hk⟩
    rw [hl, List.append_nil, hlen]
  | @op dst op g rest xs e hd hg he hc hn ha ht _ ih =>
    intro dn hl hlen hE hC
    exact ih (dn ++ [⟨dst, op, g⟩]) (by rw [hl]; simp) (by simp [hlen]) (ents_step hp hl hlen hE ⟨hd, hg, he, hc, hn⟩) (cmpU_snoc hp hC ha ht)
  | @off dst op t w rest xs hd hb _ ih =>
    intro dn hl hlen hE hC
    exact ih (dn ++ [⟨dst, op, some (t, w)⟩]) (by rw [hl]; simp) (by simp [hlen]) (ents_step hp hl hlen hE ⟨hd, t, w, rfl, hb⟩) (cmpU_none hp hC)
  | @split rest xs b _ _ iht ihf =>
    cases b with
    | true => exact iht rfl
    | false => exact ihf rfl
/-- Each lays objects of its own alone. -/
def OwnX (s0 : St) (xs : Ents) : Prop := ∀ j b, Lays xs j b → seedOf s0 j ≤ b ∧ b < seedOf s0 j + 16
theorem OwnX.one {s0 : St} {xs : Ents} (h : OwnX s0 xs) {j k b : Nat} (h1 : Lays xs j b) (h2 : Lays xs k b) : j = k := by
  have a1 := h j b h1
  have a2 := h k b h2
  unfold seedOf at a1 a2
  omega
theorem drawA_B {P : Program} {K : St → Prop} {s0 : St} {A : List (List Nat)} {l rest : List SO} {xs : Ents} (hlt : ∀ (j i : Nat), i ∈ A.getD j [] → i < j) (h : DrawA P K s0 A l rest xs) : OwnX s0 xs → DrawB P K s0 A l rest xs := by
  induction h with
  | nil hk => exact fun _ => .nil hk
  | @op dst op g rest xs e hd hg he hc hn _ ih =>
    intro ho
    have hown : ∀ b, lk e.ups b ≠ none → seedOf s0 xs.length ≤ b ∧ b < seedOf s0 xs.length + 16 := fun b hb => by
      cases hl : lk e.ups b with
      | none => exact absurd hl hb
      | some ob => have := hn _ (lk_mem hl); simp only at this; omega
    have far : ∀ k b, Lays xs k b → lk e.ups b ≠ none → False := fun k b h1 h2 => by
      have a1 := ho k b h1
      have a2 := hown b h2
      have := lays_lt h1
      unfold seedOf at a1 a2
      omega
    refine .op hd hg he hc (fun p hp => ?_) (fun k b hk hor => ?_) (fun j b hj hb hex => ?_) (ih fun j b hl => ?_)
    · have := (hn p hp).1; unfold seedOf at this; omega
    · rcases hor with h1 | ⟨i, hi, h1⟩
      · exact (far k b hk h1).elim
      · have := ho.one h1 hk; subst this; exact hi
    · obtain ⟨i, hi, h1⟩ := hex
      exact (far i b h1 hb).elim
    · rcases lays_snoc hl with ⟨_, h1⟩ | ⟨rfl, h1⟩
      · exact ho j b h1
      · exact hown b h1
  | @off dst op t w rest xs hd hb _ ih =>
    intro ho
    refine .off hd hb (ih fun j b hl => ?_)
    rcases lays_snoc hl with ⟨_, h1⟩ | ⟨rfl, h1⟩
    · exact ho j b h1
    · exact absurd rfl h1
  | @split rest xs b _ _ iht ihf => exact fun ho => .split b (fun hb => iht hb ho) (fun hb => ihf hb ho)
theorem draw_ents0 {P : Program} {K : St → Prop} {s0 : St} {pre : List (List Nat)} {l : List SO} (hp : preOk pre = true) (h : DrawB P K s0 (ancs pre) l l []) :
    ∃ xs', xs'.length = l.length ∧ (∀ (j : Nat) (o : SO) (x : Option Eff), l[j]? = some o → xs'[j]? = some x → entOk P s0 (ancs pre) l xs' j o x) ∧ CmpU (ancs pre) xs' ∧ K { mk (allIn l.length) 0 l xs' s0 with nx := s0.nx + 16 * l.length } :=
  draw_entsB hp h [] rfl rfl (fun j o x _ hx => by simp at hx) (fun j k b e hj => by simp at hj)
theorem draw_ents {P : Program} {K : St → Prop} {s0 : St} {pre : List (List Nat)} {l : List SO} (hp : preOk pre = true) (h : DrawA P K s0 (ancs pre) l l []) :
    ∃ xs', xs'.length = l.length ∧ (∀ (j : Nat) (o : SO) (x : Option Eff), l[j]? = some o → xs'[j]? = some x → entOk P s0 (ancs pre) l xs' j o x) ∧ CmpU (ancs pre) xs' ∧ K { mk (allIn l.length) 0 l xs' s0 with nx := s0.nx + 16 * l.length } :=
  draw_ents0 hp (drawA_B (ancs_lt hp) h fun j b hl => by obtain ⟨x, hx, _⟩ := hl; simp at hx)

section
variable {P : Program} {U : Nat → Prop} {w0 : Base} {s0 : St} {pre : List (List Nat)} {l : List SO} {xs : Ents} {ops : Array Oper} {Q : Exit → Act → World → Prop}

theorem all2_get {α β : Type} {R : α → β → Prop} : ∀ {xs : List α} {ys : List β}, All2 R xs ys → ∀ {j : Nat} {x : α}, xs[j]? = some x → ∃ y, ys[j]? = some y ∧ R x y
  | _, _, .cons h t, j, x, hx => by
    cases j with
    | zero => simp only [List.getElem?_cons_zero, Option.some.injEq] at hx; subst hx; exact ⟨_, rfl, h⟩
    | succ j => exact all2_get t (by simpa using hx)
  | _, _, .nil, j, x, hx => by simp at hx
theorem preds_get {l : List Oper} {j : Nat} {o : Oper} (h : l[j]? = some o) : (preds l)[j]? = some ((o.after.toList.filter fun e => Region.binds .any e).map (·.on)) := by
  simp [preds, h]
theorem setOf_set {n : Nat} {listed : Array Bool} {j : Nat} (hj : j < n) (hs : listed.size = n) (i : Nat) : i ∈ setOf n (listed.setIfInBounds j true) ↔ i ∈ setOf n listed ∨ i = j := by
  simp only [mem_setOf]
  by_cases hij : i = j
  · subst hij
    have : (listed.setIfInBounds i true).getD i false = true := by simp [hs, hj]
    simp [this, hj]
  · rw [getD_set_ne false (Ne.symm hij)]
    simp [hij]
def left (n : Nat) (listed : Array Bool) : Nat := (List.range n).countP fun j => !listed.getD j false
theorem left_set {n : Nat} {listed : Array Bool} {j : Nat} (hj : j < n) (hs : listed.size = n) (hu : listed.getD j false = false) : left n (listed.setIfInBounds j true) < left n listed := by
  refine countP_lt (x := j) (fun y hy => ?_) (by simpa using hj) (by simp [hu]) (by simp [hs, hj])
  by_cases hyj : j = y
  · subst hyj; simp [hu]
  · rw [getD_set_ne false hyj] at hy; exact hy
theorem getD_ft {listed : Array Bool} {j : Nat} (hj : j < listed.size) (d d' : Bool) : listed.getD j d = listed.getD j d' := by
  simp [hj]
/-- If none is ready then all are listed. -/
theorem all_listed (hp : preOk (preds ops.toList) = true) {listed : Array Bool} (hsz : listed.size = ops.size) (hr : Region.ready .any ops listed = []) : ∀ j, j < ops.size → listed.getD j false = true := by
  intro j
  induction j using Nat.strongRecOn with
  | _ j ih =>
    intro hj
    cases hl : listed.getD j false with
    | true => rfl
    | false =>
      have : j ∈ Region.ready .any ops listed := by
        rw [mem_ready]
        refine ⟨by rw [getD_ft (by omega) true false]; exact hl, ops[j], Array.getElem?_eq_getElem hj, fun e he hb => ?_⟩
        have hlt : e.on < j := preOk_lt hp (preds_get (l := ops.toList) (j := j) (o := ops[j]) (by simp [hj])) (by
          refine List.mem_map.2 ⟨e, List.mem_filter.2 ⟨by simpa using he, hb⟩, rfl⟩)
        exact ih e.on hlt (by omega)
      rw [hr] at this
      cases this
theorem boolV_cong {s s' : St} {t : Nat} (h : lk s.fr t = lk s'.fr t) : boolV s t = boolV s' t := by unfold boolV; rw [h]
theorem offB_cong {s s' : St} {t : Nat} {w : Bool} (h : lk s.fr t = lk s'.fr t) (hb : offB s t w) : offB s' t w := by
  unfold offB at hb ⊢
  rw [boolV_cong h, h] at hb
  exact hb
theorem temps_g {o : SO} {t : Nat} {w : Bool} (h : o.g = some (t, w)) : t ∈ temps o := by simp [temps, h]
theorem temps_op {o : SO} {t : Nat} (h : Operand.tmp t ∈ o.op.operands.toList) : t ∈ temps o := by
  simp only [temps, List.mem_append, List.mem_filterMap]
  exact .inl ⟨_, h, rfl⟩
theorem wanted_yes {s : St} {N : Nat → Prop} {a : Act} {w : World} {ι : Nat → Option Nat} {o : Oper} {so : SO} (h : Rel U w0 N s a w ι) (hso : SOk ops o so) (hg : gOk s so.g) : Region.wanted o (yielded ops a.tmps) = true := by
  obtain ⟨_, _, e3⟩ := hso
  cases hog : o.guard with
  | none => simp [Region.wanted, hog]
  | some jw =>
    obtain ⟨j, w'⟩ := jw
    rw [hog] at e3
    cases hsg : so.g with
    | none => rw [hsg] at e3; exact e3.elim
    | some tw =>
      obtain ⟨t, w''⟩ := tw
      rw [hsg] at e3 hg
      obtain ⟨et, rfl⟩ := e3
      have hy : yielded ops a.tmps j = some w'' := by unfold yielded; rw [et]; simp [bool_val h hg]
      simp [Region.wanted, hog, hy]
theorem wanted_no {s : St} {N : Nat → Prop} {a : Act} {w : World} {ι : Nat → Option Nat} {o : Oper} {so : SO} (h : Rel U w0 N s a w ι) (hso : SOk ops o so) {t : Nat} {w' : Bool} (hg : so.g = some (t, w')) (hb : offB s t w') : Region.wanted o (yielded ops a.tmps) = false := by
  obtain ⟨_, _, e3⟩ := hso
  cases hog : o.guard with
  | none => rw [hog, hg] at e3; exact e3.elim
  | some jw =>
    obtain ⟨j, w''⟩ := jw
    rw [hog, hg] at e3
    obtain ⟨et, rfl⟩ := e3
    simp only [Region.wanted, hog]
    exact off_yield h et hb

/-- In every order. -/
theorem draw_any (hT : Trace P s0 pre l xs) (hp : preOk pre = true) (hpre : pre = preds ops.toList) (hU : ∀ b, w0.w.heap.size ≤ b → U b) (h0 : ∀ b o, lk s0.hp b = some o → b < s0.nx) (hl : All2 (SOk ops) ops.toList l)
    (hQ : ∀ a w, RS U w0 { mk (allIn l.length) 0 l xs s0 with nx := s0.nx + 16 * l.length } a w → Q .normal a w) :
    ∀ (fuel : Nat) (listed : Array Bool) (a : Act) (w : World) (ι : Nat → Option Nat), listed.size = ops.size → left ops.size listed ≤ fuel →
      (∀ k ∈ setOf ops.size listed, ∀ i ∈ (ancs pre).getD k [], i ∈ setOf ops.size listed) → Rel U w0 (NX s0 (setOf ops.size listed)) (mk (setOf ops.size listed) 0 l xs s0) a w ι → wpAny P .any ops Q fuel listed a w := by
  have hll : l.length = ops.size := by have := hl.length; simpa using this.symm
  have fin : ∀ (listed : Array Bool) (a : Act) (w : World) (ι : Nat → Option Nat), listed.size = ops.size → Rel U w0 (NX s0 (setOf ops.size listed)) (mk (setOf ops.size listed) 0 l xs s0) a w ι → Region.ready .any ops listed = [] → Q .normal a w := by
    intro listed a w ι hsz hr hnil
    have hall := all_listed (hpre ▸ hp) hsz hnil
    have hset : setOf ops.size listed = allIn l.length := by
      rw [hll]
      unfold setOf allIn
      exact List.filter_eq_self.2 fun j hj => hall j (by simpa using hj)
    rw [hset] at hr
    refine hQ a w ⟨ι, hr.weakN fun b hb => ?_⟩
    simp only [Lt]
    rcases hb with hb | ⟨i, hi, h1, h2⟩
    · omega
    · have : i < l.length := by simpa [allIn] using hi
      unfold seedOf at h2
      have : 16 * i + 16 ≤ 16 * l.length := by omega
      omega
  intro fuel
  induction fuel with
  | zero =>
    intro listed a w ι hsz hf hcl hr
    have hnil : Region.ready .any ops listed = [] := by
      cases hrd : Region.ready .any ops listed with
      | nil => rfl
      | cons j js =>
        have hj : j ∈ Region.ready .any ops listed := by rw [hrd]; simp
        obtain ⟨hu, o, ho, _⟩ := mem_ready.1 hj
        have hlt : j < ops.size := (Array.getElem?_eq_some_iff.1 ho).1
        have := left_set (n := ops.size) hlt hsz (by rw [getD_ft (by omega) false true]; exact hu)
        omega
    exact ⟨hnil, fin listed a w ι hsz hr hnil⟩
  | succ fuel ih =>
    intro listed a w ι hsz hf hcl hr
    refine ⟨fin listed a w ι hsz hr, fun j hj => ?_⟩
    obtain ⟨hu, o, ho, hbe⟩ := mem_ready.1 hj
    have hlt : j < ops.size := (Array.getElem?_eq_some_iff.1 ho).1
    have hu' : listed.getD j false = false := by rw [getD_ft (by omega) false true]; exact hu
    have hjX : j ∉ setOf ops.size listed := fun hm => by rw [(mem_setOf.1 hm).2] at hu'; cases hu'
    have hX' := setOf_set hlt hsz
    have hA : ∀ i ∈ (ancs pre).getD j [], i ∈ setOf ops.size listed := fun i hi => by
      obtain ⟨p, hpj, hi⟩ := ancs_spec hi
      rw [hpre, preds_get (l := ops.toList) (j := j) (o := o) (by simpa using ho)] at hpj
      cases hpj
      have hin : ∀ k ∈ (o.after.toList.filter fun e => Region.binds .any e).map (·.on), k ∈ setOf ops.size listed := fun k hk => by
        obtain ⟨e, he, rfl⟩ := List.mem_map.1 hk
        obtain ⟨he1, he2⟩ := List.mem_filter.1 he
        have hb := hbe e (by simpa using he1) he2
        refine mem_setOf.2 ⟨?_, hb⟩
        rcases Nat.lt_or_ge e.on listed.size with h' | h'
        · omega
        · simp [Array.getElem?_eq_none h'] at hb
      rcases hi with hi | ⟨k, hk, hi⟩
      · exact hin i hi
      · exact hcl k (hin k hk) i hi
    obtain ⟨so, hso, hsok⟩ := all2_get hl (j := j) (x := o) (by simpa using ho)
    have hxj : ∃ x, xs[j]? = some x := ⟨xs[j]'(by rw [hT.len, hll]; exact hlt), List.getElem?_eq_getElem _⟩
    obtain ⟨x, hx⟩ := hxj
    obtain ⟨hd, hent⟩ := hT.ent j so x hso hx
    obtain ⟨ask1, ask2⟩ := ask_same hT h0 hso hjX hA hcl
    have hcl' : ∀ k ∈ setOf ops.size (listed.setIfInBounds j true), ∀ i ∈ (ancs pre).getD k [], i ∈ setOf ops.size (listed.setIfInBounds j true) := fun k hk i hi => by
      rw [hX'] at hk ⊢
      rcases hk with hk | rfl
      · exact .inl (hcl k hk i hi)
      · exact .inl (hA i hi)
    have hf' : left ops.size (listed.setIfInBounds j true) ≤ fuel := by
      have := left_set (n := ops.size) hlt hsz hu'
      omega
    have hlike := like_step hT hso hx hjX hX' (last_of hT (ancs_lt hp) hx hjX hcl)
    have hnX : ∀ b, NX s0 (setOf ops.size listed) b → NX s0 (setOf ops.size (listed.setIfInBounds j true)) b := fun b hb => by
      rcases hb with hb | ⟨i, hi, hb⟩
      · exact .inl hb
      · exact .inr ⟨i, (hX' i).2 (.inl hi), hb⟩
    obtain ⟨e1, e2, _⟩ := id hsok
    have hd' : ∀ X, dstOk (mk X 0 l xs s0) o.dst = true := fun X => by
      rw [← e1]
      have hnt := (mk_nt X l xs 0 s0).1
      unfold dstOk at hd ⊢
      rw [hnt]; exact hd
    unfold wpOp
    rw [ho]
    simp only
    cases x with
    | some e =>
      obtain ⟨hg, hst, hcnt, hups⟩ := hent
      have hg' : gOk (mk (setOf ops.size listed) 0 l xs s0) so.g := by
        unfold gOk at hg ⊢
        split
        · trivial
        · rename_i t w' hgg
          rw [hgg] at hg
          rw [boolV_cong (ask1 t (temps_g hgg))]
          exact hg
      rw [if_pos (wanted_yes hr hsok hg')]
      have hsub : Sub so.op (mk ((ancs pre).getD j []) 0 l xs s0) (mk (setOf ops.size listed) 0 l xs s0) := by
        refine ⟨?_, ask2 e hx⟩
        intro y hy
        cases y with
        | tmp t => exact ask1 t (temps_op (by simpa using hy))
        | _ => rfl
      have hst' := stepE_mono hsub hst
      refine .inl (stepE_sound (seed := seedOf s0 j) hr hU (e := e) (hd' _) (fun k hk hk' hn => ?_) (e2 ▸ hst') (fun ι' a' w' hr' => ?_))
      · rcases hn with hn | ⟨i, hi, h1, h2⟩
        · unfold seedOf at hk; omega
        · have : i ≠ j := fun h => hjX (h ▸ hi)
          unfold seedOf at hk hk' h1 h2
          omega
      · refine ih _ a' w' ι' (by simpa using hsz) hf' hcl' ?_
        have hr2 : Rel U w0 (Span (NX s0 (setOf ops.size listed)) (seedOf s0 j) (seedOf s0 j + e.cnt)) (entSt (mk (setOf ops.size listed) 0 l xs s0) so (some e)) a' w' ι' := by
          unfold entSt
          rw [e1]; exact hr'
        have hr3 := hr2.like hlike
        exact (hr3.weakN (nx' := (mk (setOf ops.size (listed.setIfInBounds j true)) 0 l xs s0).nx) fun b hb => by
          rcases hb with hb | ⟨h1, h2⟩
          · exact hnX b hb
          · exact .inr ⟨j, (hX' j).2 (.inr rfl), h1, by omega⟩)
    | none =>
      obtain ⟨t, w', hgt, hb⟩ := hent
      have hb' : offB (mk (setOf ops.size listed) 0 l xs s0) t w' := offB_cong (ask1 t (temps_g hgt)).symm hb
      rw [if_neg (by rw [wanted_no hr hsok hgt hb']; decide)]
      refine ih _ _ w ι (by simpa using hsz) hf' hcl' ?_
      have hr2 : Rel U w0 (NX s0 (setOf ops.size listed)) (entSt (mk (setOf ops.size listed) 0 l xs s0) so none) (a.put o.dst undef) w ι := by
        unfold entSt skip1 put1
        rw [e1]
        cases hdst : o.dst with
        | none => exact hr
        | some d =>
          have hd2 := hd' (setOf ops.size listed)
          exact hr.put (by simpa [dstOk, hdst] using hd2) rep_undef
      have hr3 := hr2.like hlike
      exact (hr3.weakN (nx' := (mk (setOf ops.size (listed.setIfInBounds j true)) 0 l xs s0).nx) hnX)
end
end
end Go.Proofs.Ytmhnogmbpoeaeaa.Eng
namespace Go.Proofs.Ytmhnogmbpoeaeaa.Eng
set_option linter.all false
noncomputable section
open Go.RowKit

/-! ### A drawn region whose last operations wait for all before them -/
def tailOk (m n : Nat) (A : List (List Nat)) : Bool := (List.range n).all fun t => (List.range (m + t)).all fun i => (A.getD (m + t) []).contains i
theorem tailOk_mem {m n : Nat} {A : List (List Nat)} (h : tailOk m n A = true) {t i : Nat} (ht : t < n) (hi : i < m + t) : i ∈ A.getD (m + t) [] := by
  have := List.all_eq_true.1 (List.all_eq_true.1 h t (by simpa using ht)) i (by simpa using hi)
  simpa using this
theorem setOf_set2 {n : Nat} {listed : Array Bool} {j : Nat} (hj : j < n) (hs : j < listed.size) (i : Nat) : i ∈ setOf n (listed.setIfInBounds j true) ↔ i ∈ setOf n listed ∨ i = j := by
  simp only [mem_setOf]
  by_cases hij : i = j
  · subst hij
    have : (listed.setIfInBounds i true).getD i false = true := by simp [hs]
    simp [this, hj]
  · rw [getD_set_ne false (Ne.symm hij)]
    simp [hij]
section
variable {P : Program} {U : Nat → Prop} {w0 : Base} {s0 : St} {pre : List (List Nat)} {l : List SO} {xs : Ents} {ops : Array Oper} {Q : Exit → Act → World → Prop}
/-- Whoever is ready has all those behind him that he waits for. -/
theorem hA0 (hpre : pre = preds ops.toList) {listed : Array Bool} {m : Nat} (hsz : listed.size = ops.size) (hlt : ∀ k, listed.getD k false = true → k < m) (hcl : ∀ k ∈ setOf m listed, ∀ i ∈ (ancs pre).getD k [], i ∈ setOf m listed)
    {j : Nat} {o : Oper} (ho : ops[j]? = some o) (hbe : ∀ e ∈ o.after, Region.binds .any e = true → listed.getD e.on false = true) : ∀ i ∈ (ancs pre).getD j [], i ∈ setOf m listed := fun i hi => by
  obtain ⟨p, hpj, hi⟩ := ancs_spec hi
  rw [hpre, preds_get (l := ops.toList) (j := j) (o := o) (by simpa using ho)] at hpj
  cases hpj
  have hin : ∀ k ∈ (o.after.toList.filter fun e => Region.binds .any e).map (·.on), k ∈ setOf m listed := fun k hk => by
    obtain ⟨e, he, rfl⟩ := List.mem_map.1 hk
    obtain ⟨he1, he2⟩ := List.mem_filter.1 he
    have hb := hbe e (by simpa using he1) he2
    exact mem_setOf.2 ⟨hlt _ hb, hb⟩
  rcases hi with hi | ⟨k, hk, hi⟩
  · exact hin i hi
  · exact hcl k (hin k hk) i hi
theorem tail_any (hp : preOk pre = true) (hpre : pre = preds ops.toList) {m n : Nat} (hmn : m + n = ops.size) (hta : ∀ t i, t < n → m ≤ i → i < m + t → i ∈ (ancs pre).getD (m + t) []) : ∀ (k : Nat), k ≤ n → ∀ (fuel : Nat) (listed : Array Bool) (a : Act) (w : World), listed.size = ops.size → left ops.size listed ≤ fuel →
    (∀ j, j < m + k → listed.getD j false = true) → (∀ j, m + k ≤ j → listed.getD j false = false) → wpList P ops Q (ops.toList.drop (m + k)) a w → wpAny P .any ops Q fuel listed a w := by
  have key : ∀ (r k : Nat), k + r = n → ∀ (fuel : Nat) (listed : Array Bool) (a : Act) (w : World), listed.size = ops.size → left ops.size listed ≤ fuel →
      (∀ j, j < m + k → listed.getD j false = true) → (∀ j, m + k ≤ j → listed.getD j false = false) → wpList P ops Q (ops.toList.drop (m + k)) a w → wpAny P .any ops Q fuel listed a w := by
    intro r
    induction r with
    | zero =>
      intro k hk fuel listed a w hsz hf hall hno hw
      have hdrop : ops.toList.drop (m + k) = [] := List.drop_eq_nil_of_le (by simp; omega)
      rw [hdrop] at hw
      have hnil : Region.ready .any ops listed = [] := by
        cases hrd : Region.ready .any ops listed with
        | nil => rfl
        | cons j js =>
          have hj : j ∈ Region.ready .any ops listed := by rw [hrd]; simp
          obtain ⟨hu, o, ho, _⟩ := mem_ready.1 hj
          have hlt : j < ops.size := (Array.getElem?_eq_some_iff.1 ho).1
          have h1 := hall j (by omega)
          rw [getD_ft (by omega) false true, hu] at h1
          cases h1
      cases fuel with
      | zero => exact ⟨hnil, hw⟩
      | succ fuel => exact ⟨fun _ => hw, fun j hj => by rw [hnil] at hj; cases hj⟩
    | succ r ih =>
      intro k hk fuel listed a w hsz hf hall hno hw
      have hlt0 : m + k < ops.size := by omega
      have hu0 : listed.getD (m + k) false = false := hno _ (Nat.le_refl _)
      have hls := left_set (n := ops.size) hlt0 hsz hu0
      cases fuel with
      | zero => omega
      | succ fuel =>
        have hcl : ∀ i ∈ setOf (m + k) listed, ∀ q ∈ (ancs pre).getD i [], q ∈ setOf (m + k) listed := fun i hi q hq => by
          have h1 := ancs_lt hp i q hq
          have h2 := (mem_setOf.1 hi).1
          exact mem_setOf.2 ⟨by omega, hall q (by omega)⟩
        have hcons : ops.toList.drop (m + k) = ops[m + k] :: ops.toList.drop (m + (k + 1)) := by
          rw [List.drop_eq_getElem_cons (by simpa using hlt0)]; simp; rfl
        rw [hcons] at hw
        refine ⟨fun hnil => ?_, fun j hj => ?_⟩
        · have := all_listed (hpre ▸ hp) hsz hnil (m + k) hlt0
          rw [hu0] at this; cases this
        · obtain ⟨hu, o, ho, hbe⟩ := mem_ready.1 hj
          have hlt : j < ops.size := (Array.getElem?_eq_some_iff.1 ho).1
          have hjk : j = m + k := by
            have hu' : listed.getD j false = false := by rw [getD_ft (by omega) false true]; exact hu
            rcases Nat.lt_trichotomy j (m + k) with h' | h' | h'
            · have := hall j h'; rw [hu'] at this; cases this
            · exact h'
            · exfalso
              have hin := hta (j - m) (m + k) (by omega) (by omega) (by omega)
              rw [show m + (j - m) = j by omega] at hin
              have := hA0 hpre hsz (m := m + k) (fun q hq => by rcases Nat.lt_or_ge q (m + k) with h2 | h2; exact h2; rw [hno q h2] at hq; cases hq) hcl ho hbe _ hin
              have := (mem_setOf.1 this).1
              omega
          subst hjk
          have hoe : ops[m + k] = o := (Array.getElem?_eq_some_iff.1 ho).2
          rw [hoe] at hw
          have next : ∀ a w, wpList P ops Q (ops.toList.drop (m + (k + 1))) a w → wpAny P .any ops Q fuel (listed.setIfInBounds (m + k) true) a w := fun a w h => by
            refine ih (k + 1) (by omega) fuel _ a w (by simpa using hsz) (by omega) (fun q hq => ?_) (fun q hq => ?_) h
            · by_cases hqe : q = m + k
              · subst hqe; simp [hsz, hlt0]
              · rw [getD_set_ne false (by omega)]; exact hall q (by omega)
            · rw [getD_set_ne false (by omega)]; exact hno q (by omega)
          unfold wpOp
          rw [ho]
          simp only
          unfold wpList at hw
          by_cases hwt : Region.wanted o (yielded ops a.tmps) = true
          · rw [if_pos hwt] at hw ⊢
            exact hw.imp (Oper.wp_mono next) id
          · rw [if_neg hwt] at hw ⊢
            exact next _ _ hw
  intro k hk
  exact key (n - k) k (by omega)
/-- In every order. -/
theorem draw_anyT {tl : List SO} (hT : Trace P s0 pre l xs) (hp : preOk pre = true) (hpre : pre = preds ops.toList) (hU : ∀ b, w0.w.heap.size ≤ b → U b) (h0 : ∀ b o, lk s0.hp b = some o → b < s0.nx) (hl : All2 (SOk ops) ops.toList (l ++ tl)) (hta : tailOk l.length tl.length (ancs pre) = true)
    (hQ : ∀ a w, RS U w0 { mk (allIn l.length) 0 l xs s0 with nx := s0.nx + 16 * l.length } a w → wpList P ops Q (ops.toList.drop l.length) a w) :
    ∀ (fuel : Nat) (listed : Array Bool) (a : Act) (w : World) (ι : Nat → Option Nat), listed.size = ops.size → left ops.size listed ≤ fuel → (∀ j, l.length ≤ j → listed.getD j false = false) →
      (∀ k ∈ setOf l.length listed, ∀ i ∈ (ancs pre).getD k [], i ∈ setOf l.length listed) → Rel U w0 (NX s0 (setOf l.length listed)) (mk (setOf l.length listed) 0 l xs s0) a w ι → wpAny P .any ops Q fuel listed a w := by
  have hll : l.length + tl.length = ops.size := by have := hl.length; simp at this; omega
  have fin : ∀ (fuel : Nat) (listed : Array Bool) (a : Act) (w : World) (ι : Nat → Option Nat), listed.size = ops.size → left ops.size listed ≤ fuel → (∀ j, l.length ≤ j → listed.getD j false = false) → (∀ j, j < l.length → listed.getD j false = true) →
      Rel U w0 (NX s0 (setOf l.length listed)) (mk (setOf l.length listed) 0 l xs s0) a w ι → wpAny P .any ops Q fuel listed a w := by
    intro fuel listed a w ι hsz hf htl hall hr
    have hset : setOf l.length listed = allIn l.length := by
      unfold setOf allIn
      exact List.filter_eq_self.2 fun j hj => hall j (by simpa using hj)
    rw [hset] at hr
    refine tail_any (m := l.length) (n := tl.length) hp hpre hll (fun t i ht _ hi => tailOk_mem hta ht hi) 0 (Nat.zero_le _) fuel listed a w hsz hf (fun j hj => hall j (by simpa using hj)) (fun j hj => htl j (by simpa using hj)) ?_
    refine hQ a w ⟨ι, hr.weakN fun b hb => ?_⟩
    simp only [Lt]
    rcases hb with hb | ⟨i, hi, h1, h2⟩
    · omega
    · have : i < l.length := by simpa [allIn] using hi
      unfold seedOf at h2
      have : 16 * i + 16 ≤ 16 * l.length := by omega
      omega
  intro fuel
  induction fuel with
  | zero =>
    intro listed a w ι hsz hf htl hcl hr
    have hnil : Region.ready .any ops listed = [] := by
      cases hrd : Region.ready .any ops listed with
      | nil => rfl
      | cons j js =>
        have hj : j ∈ Region.ready .any ops listed := by rw [hrd]; simp
        obtain ⟨hu, o, ho, _⟩ := mem_ready.1 hj
        have hlt : j < ops.size := (Array.getElem?_eq_some_iff.1 ho).1
        have := left_set (n := ops.size) hlt hsz (by rw [getD_ft (by omega) false true]; exact hu)
        omega
    have hall := all_listed (hpre ▸ hp) hsz hnil
    exact fin 0 listed a w ι hsz hf htl (fun j hj => hall j (by omega)) hr
  | succ fuel ih =>
    intro listed a w ι hsz hf htl hcl hr
    by_cases hal : ∀ j, j < l.length → listed.getD j false = true
    · exact fin (fuel + 1) listed a w ι hsz hf htl hal hr
    refine ⟨fun hnil => absurd (fun j hj => all_listed (hpre ▸ hp) hsz hnil j (by omega)) hal, fun j hj => ?_⟩
    obtain ⟨hu, o, ho, hbe⟩ := mem_ready.1 hj
    have hlt : j < ops.size := (Array.getElem?_eq_some_iff.1 ho).1
    have hu' : listed.getD j false = false := by rw [getD_ft (by omega) false true]; exact hu
    have hjl : j < l.length := by
      rcases Nat.lt_or_ge j l.length with h' | h'
      · exact h'
      · exfalso
        refine hal fun i hi => ?_
        have hin := tailOk_mem hta (t := j - l.length) (by omega) (i := i) (by omega)
        rw [show l.length + (j - l.length) = j by omega] at hin
        exact (mem_setOf.1 (hA0 hpre hsz (fun k hk => by rcases Nat.lt_or_ge k l.length with h2 | h2; exact h2; rw [htl k h2] at hk; cases hk) hcl ho hbe i hin)).2
    have hjX : j ∉ setOf l.length listed := fun hm => by rw [(mem_setOf.1 hm).2] at hu'; cases hu'
    have hX' := fun i => setOf_set2 (n := l.length) (listed := listed) hjl (by omega) i
    have hA : ∀ i ∈ (ancs pre).getD j [], i ∈ setOf l.length listed := fun i hi => by
      obtain ⟨p, hpj, hi⟩ := ancs_spec hi
      rw [hpre, preds_get (l := ops.toList) (j := j) (o := o) (by simpa using ho)] at hpj
      cases hpj
      have hin : ∀ k ∈ (o.after.toList.filter fun e => Region.binds .any e).map (·.on), k ∈ setOf l.length listed := fun k hk => by
        obtain ⟨e, he, rfl⟩ := List.mem_map.1 hk
        obtain ⟨he1, he2⟩ := List.mem_filter.1 he
        have hb := hbe e (by simpa using he1) he2
        refine mem_setOf.2 ⟨?_, hb⟩
        rcases Nat.lt_or_ge e.on l.length with h' | h'
        · exact h'
        · rw [htl _ h'] at hb; cases hb
      rcases hi with hi | ⟨k, hk, hi⟩
      · exact hin i hi
      · exact hcl k (hin k hk) i hi
    obtain ⟨so, hso0, hsok⟩ := all2_get hl (j := j) (x := o) (by simpa using ho)
    have hso : l[j]? = some so := by rw [List.getElem?_append_left hjl] at hso0; exact hso0
    have hxj : ∃ x, xs[j]? = some x := ⟨xs[j]'(by rw [hT.len]; exact hjl), List.getElem?_eq_getElem _⟩
    have htl' : ∀ k, l.length ≤ k → (listed.setIfInBounds j true).getD k false = false := fun k hk => by rw [getD_set_ne false (by omega)]; exact htl k hk
    obtain ⟨x, hx⟩ := hxj
    obtain ⟨hd, hent⟩ := hT.ent j so x hso hx
    obtain ⟨ask1, ask2⟩ := ask_same hT h0 hso hjX hA hcl
    have hcl' : ∀ k ∈ setOf l.length (listed.setIfInBounds j true), ∀ i ∈ (ancs pre).getD k [], i ∈ setOf l.length (listed.setIfInBounds j true) := fun k hk i hi => by
      rw [hX'] at hk ⊢
      rcases hk with hk | rfl
      · exact .inl (hcl k hk i hi)
      · exact .inl (hA i hi)
    have hf' : left ops.size (listed.setIfInBounds j true) ≤ fuel := by
      have := left_set (n := ops.size) hlt hsz hu'
      omega
    have hlike := like_step hT hso hx hjX hX' (last_of hT (ancs_lt hp) hx hjX hcl)
    have hnX : ∀ b, NX s0 (setOf l.length listed) b → NX s0 (setOf l.length (listed.setIfInBounds j true)) b := fun b hb => by
      rcases hb with hb | ⟨i, hi, hb⟩
      · exact .inl hb
      · exact .inr ⟨i, (hX' i).2 (.inl hi), hb⟩
    obtain ⟨e1, e2, _⟩ := id hsok
    have hd' : ∀ X, dstOk (mk X 0 l xs s0) o.dst = true := fun X => by
      rw [← e1]
      have hnt := (mk_nt X l xs 0 s0).1
      unfold dstOk at hd ⊢
      rw [hnt]; exact hd
    unfold wpOp
    rw [ho]
    simp only
    cases x with
    | some e =>
      obtain ⟨hg, hst, hcnt, hups⟩ := hent
      have hg' : gOk (mk (setOf l.length listed) 0 l xs s0) so.g := by
        unfold gOk at hg ⊢
        split
        · trivial
        · rename_i t w' hgg
          rw [hgg] at hg
          rw [boolV_cong (ask1 t (temps_g hgg))]
          exact hg
      rw [if_pos (wanted_yes hr hsok hg')]
      have hsub : Sub so.op (mk ((ancs pre).getD j []) 0 l xs s0) (mk (setOf l.length listed) 0 l xs s0) := by
        refine ⟨?_, ask2 e hx⟩
        intro y hy
        cases y with
        | tmp t => exact ask1 t (temps_op (by simpa using hy))
        | _ => rfl
      have hst' := stepE_mono hsub hst
      refine .inl (stepE_sound (seed := seedOf s0 j) hr hU (e := e) (hd' _) (fun k hk hk' hn => ?_) (e2 ▸ hst') (fun ι' a' w' hr' => ?_))
      · rcases hn with hn | ⟨i, hi, h1, h2⟩
        · unfold seedOf at hk; omega
        · have : i ≠ j := fun h => hjX (h ▸ hi)
          unfold seedOf at hk hk' h1 h2
          omega
      · refine ih _ a' w' ι' (by simpa using hsz) hf' htl' hcl' ?_
        have hr2 : Rel U w0 (Span (NX s0 (setOf l.length listed)) (seedOf s0 j) (seedOf s0 j + e.cnt)) (entSt (mk (setOf l.length listed) 0 l xs s0) so (some e)) a' w' ι' := by
          unfold entSt
          rw [e1]; exact hr'
        have hr3 := hr2.like hlike
        exact (hr3.weakN (nx' := (mk (setOf l.length (listed.setIfInBounds j true)) 0 l xs s0).nx) fun b hb => by
          rcases hb with hb | ⟨h1, h2⟩
          · exact hnX b hb
          · exact .inr ⟨j, (hX' j).2 (.inr rfl), h1, by omega⟩)
    | none =>
      obtain ⟨t, w', hgt, hb⟩ := hent
      have hb' : offB (mk (setOf l.length listed) 0 l xs s0) t w' := offB_cong (ask1 t (temps_g hgt)).symm hb
      rw [if_neg (by rw [wanted_no hr hsok hgt hb']; decide)]
      refine ih _ _ w ι (by simpa using hsz) hf' htl' hcl' ?_
      have hr2 : Rel U w0 (NX s0 (setOf l.length listed)) (entSt (mk (setOf l.length listed) 0 l xs s0) so none) (a.put o.dst undef) w ι := by
        unfold entSt skip1 put1
        rw [e1]
        cases hdst : o.dst with
        | none => exact hr
        | some d =>
          have hd2 := hd' (setOf l.length listed)
          exact hr.put (by simpa [dstOk, hdst] using hd2) rep_undef
      have hr3 := hr2.like hlike
      exact (hr3.weakN (nx' := (mk (setOf l.length (listed.setIfInBounds j true)) 0 l xs s0).nx) hnX)
/-- One operation at p of the front the first behind it does not wait for; nobody in the front waits for p. -/
def sideOk (m p n : Nat) (A : List (List Nat)) : Bool :=
  decide (p < m) && ((List.range (m + 1)).all fun j => !(A.getD j []).contains p) && ((List.range m).all fun i => i == p || (A.getD m []).contains i) && tailOk (m + 1) n A
theorem sideOk_spec {m p n : Nat} {A : List (List Nat)} (h : sideOk m p n A = true) : p < m ∧ (∀ j, j < m + 1 → p ∉ A.getD j []) ∧ (∀ i, i < m → i ≠ p → i ∈ A.getD m []) ∧ tailOk (m + 1) n A = true := by
  simp only [sideOk, Bool.and_eq_true, decide_eq_true_eq] at h
  obtain ⟨⟨⟨h1, h2⟩, h3⟩, h4⟩ := h
  refine ⟨h1, fun j hj hm => ?_, fun i hi hne => ?_, h4⟩
  · have h5 := List.all_eq_true.1 h2 j (List.mem_range.2 hj)
    rw [contains_iff.2 hm] at h5
    cases h5
  · have := List.all_eq_true.1 h3 i (by simpa using hi)
    simpa [hne] using this
def butP (m p : Nat) : List Nat := (allIn m).filter fun i => i != p
theorem side_any (hp : preOk pre = true) (hpre : pre = preds ops.toList) {m p n : Nat} (hmn : m + 1 + n = ops.size) (hs : sideOk m p n (ancs pre) = true) {op : Oper} (hop : ops[p]? = some op) (fuel : Nat) (listed : Array Bool) (a : Act) (w : World) (hsz : listed.size = ops.size) (hf : left ops.size listed ≤ fuel)
    (hall : ∀ j, j < m + 1 → j ≠ p → listed.getD j false = true) (hpu : listed.getD p false = false) (hno : ∀ j, m + 1 ≤ j → listed.getD j false = false) (hw : wpList P ops Q (op :: ops.toList.drop (m + 1)) a w) : wpAny P .any ops Q fuel listed a w := by
  obtain ⟨s1, s2, s3, s4⟩ := sideOk_spec hs
  have hlt0 : p < ops.size := by omega
  have hls := left_set (n := ops.size) hlt0 hsz hpu
  have hcl : ∀ k ∈ setOf (m + 1) listed, ∀ q ∈ (ancs pre).getD k [], q ∈ setOf (m + 1) listed := fun k hk q hq => by
    have h1 := ancs_lt hp k q hq
    have h2 := (mem_setOf.1 hk).1
    have h3 : q ≠ p := fun e => s2 k h2 (e ▸ hq)
    exact mem_setOf.2 ⟨by omega, hall q (by omega) h3⟩
  cases fuel with
  | zero => omega
  | succ fuel =>
    refine ⟨fun hnil => ?_, fun j hj => ?_⟩
    · have := all_listed (hpre ▸ hp) hsz hnil p hlt0
      rw [hpu] at this; cases this
    · obtain ⟨hu, o, ho, hbe⟩ := mem_ready.1 hj
      have hlt : j < ops.size := (Array.getElem?_eq_some_iff.1 ho).1
      have hu' : listed.getD j false = false := by rw [getD_ft (by omega) false true]; exact hu
      have hjp : j = p := by
        by_cases hjm : j < m + 1
        · by_cases he : j = p
          · exact he
          · have := hall j hjm he; rw [hu'] at this; cases this
        · exfalso
          have hin := tailOk_mem s4 (t := j - (m + 1)) (by omega) (i := p) (by omega)
          rw [show m + 1 + (j - (m + 1)) = j by omega] at hin
          have := hA0 hpre hsz (m := m + 1) (fun q hq => by rcases Nat.lt_or_ge q (m + 1) with h2 | h2; exact h2; rw [hno q h2] at hq; cases hq) hcl ho hbe _ hin
          have h2 := (mem_setOf.1 this).2
          rw [hpu] at h2; cases h2
      subst hjp
      obtain rfl : op = o := by rw [ho] at hop; exact (Option.some.inj hop).symm
      have next : ∀ a w, wpList P ops Q (ops.toList.drop (m + 1)) a w → wpAny P .any ops Q fuel (listed.setIfInBounds j true) a w := fun a w h => by
        refine tail_any (m := m + 1) (n := n) hp hpre hmn (fun t i ht _ hi => tailOk_mem s4 ht hi) 0 (Nat.zero_le _) fuel _ a w (by simpa using hsz) (by omega) (fun q hq => ?_) (fun q hq => ?_) h
        · by_cases hqe : q = j
          · subst hqe; simp [hsz, hlt0]
          · rw [getD_set_ne false (Ne.symm hqe)]; exact hall q (by omega) hqe
        · rw [getD_set_ne false (by omega)]; exact hno q (by omega)
      unfold wpOp
      rw [ho]
      simp only
      unfold wpList at hw
      by_cases hwt : Region.wanted op (yielded ops a.tmps) = true
      · rw [if_pos hwt] at hw ⊢
        exact hw.imp (Oper.wp_mono next) id
      · rw [if_neg hwt] at hw ⊢
        exact next _ _ hw
/-- In every order, with a side operation. -/
theorem draw_anyS {p : Nat} {o1 : SO} {tl2 : List SO} (hT : Trace P s0 pre l xs) (hp : preOk pre = true) (hpre : pre = preds ops.toList) (hU : ∀ b, w0.w.heap.size ≤ b → U b) (h0 : ∀ b o, lk s0.hp b = some o → b < s0.nx) (hl : All2 (SOk ops) ops.toList (l ++ o1 :: tl2)) (hs : sideOk l.length p tl2.length (ancs pre) = true)
    (hQ2 : ∀ (om op : Oper) a w, ops[l.length]? = some om → ops[p]? = some op → RS U w0 { mk (butP l.length p) 0 l xs s0 with nx := s0.nx + 16 * l.length } a w → wpList P ops Q (om :: op :: ops.toList.drop (l.length + 1)) a w)
    (hQ : ∀ a w, RS U w0 { mk (allIn l.length) 0 l xs s0 with nx := s0.nx + 16 * l.length } a w → wpList P ops Q (ops.toList.drop l.length) a w) :
    ∀ (fuel : Nat) (listed : Array Bool) (a : Act) (w : World) (ι : Nat → Option Nat), listed.size = ops.size → left ops.size listed ≤ fuel → (∀ j, l.length ≤ j → listed.getD j false = false) →
      (∀ k ∈ setOf l.length listed, ∀ i ∈ (ancs pre).getD k [], i ∈ setOf l.length listed) → Rel U w0 (NX s0 (setOf l.length listed)) (mk (setOf l.length listed) 0 l xs s0) a w ι → wpAny P .any ops Q fuel listed a w := by
  obtain ⟨s1, s2, s3, s4⟩ := sideOk_spec hs
  have hll : l.length + (o1 :: tl2).length = ops.size := by have := hl.length; simp at this; simp; omega
  have hll2 : l.length + 1 + tl2.length = ops.size := by have := hl.length; simp at this; omega
  have htt : ∀ t i, t < (o1 :: tl2).length → l.length ≤ i → i < l.length + t → i ∈ (ancs pre).getD (l.length + t) [] := fun t i ht h1 h2 => by
    have := tailOk_mem s4 (t := t - 1) (by simp at ht; omega) (i := i) (by omega)
    rwa [show l.length + 1 + (t - 1) = l.length + t by omega] at this
  have fin : ∀ (fuel : Nat) (listed : Array Bool) (a : Act) (w : World) (ι : Nat → Option Nat), listed.size = ops.size → left ops.size listed ≤ fuel → (∀ j, l.length ≤ j → listed.getD j false = false) → (∀ j, j < l.length → listed.getD j false = true) →
      Rel U w0 (NX s0 (setOf l.length listed)) (mk (setOf l.length listed) 0 l xs s0) a w ι → wpAny P .any ops Q fuel listed a w := by
    intro fuel listed a w ι hsz hf htl hall hr
    have hset : setOf l.length listed = allIn l.length := by
      unfold setOf allIn
      exact List.filter_eq_self.2 fun j hj => hall j (by simpa using hj)
    rw [hset] at hr
    refine tail_any (m := l.length) (n := (o1 :: tl2).length) hp hpre hll htt 0 (Nat.zero_le _) fuel listed a w hsz hf (fun j hj => hall j (by simpa using hj)) (fun j hj => htl j (by simpa using hj)) ?_
    refine hQ a w ⟨ι, hr.weakN fun b hb => ?_⟩
    simp only [Lt]
    rcases hb with hb | ⟨i, hi, h1, h2⟩
    · omega
    · have : i < l.length := by simpa [allIn] using hi
      unfold seedOf at h2
      have : 16 * i + 16 ≤ 16 * l.length := by omega
      omega
  intro fuel
  induction fuel with
  | zero =>
    intro listed a w ι hsz hf htl hcl hr
    have hnil : Region.ready .any ops listed = [] := by
      cases hrd : Region.ready .any ops listed with
      | nil => rfl
      | cons j js =>
        have hj : j ∈ Region.ready .any ops listed := by rw [hrd]; simp
        obtain ⟨hu, o, ho, _⟩ := mem_ready.1 hj
        have hlt : j < ops.size := (Array.getElem?_eq_some_iff.1 ho).1
        have := left_set (n := ops.size) hlt hsz (by rw [getD_ft (by omega) false true]; exact hu)
        omega
    have hall := all_listed (hpre ▸ hp) hsz hnil
    exact fin 0 listed a w ι hsz hf htl (fun j hj => hall j (by omega)) hr
  | succ fuel ih =>
    intro listed a w ι hsz hf htl hcl hr
    by_cases hal : ∀ j, j < l.length → listed.getD j false = true
    · exact fin (fuel + 1) listed a w ι hsz hf htl hal hr
    refine ⟨fun hnil => absurd (fun j hj => all_listed (hpre ▸ hp) hsz hnil j (by omega)) hal, fun j hj => ?_⟩
    obtain ⟨hu, o, ho, hbe⟩ := mem_ready.1 hj
    have hlt : j < ops.size := (Array.getElem?_eq_some_iff.1 ho).1
    have hu' : listed.getD j false = false := by rw [getD_ft (by omega) false true]; exact hu
    by_cases hjl : ¬ j < l.length
    · have hlt1 : ∀ k, listed.getD k false = true → k < l.length := fun k hk => by rcases Nat.lt_or_ge k l.length with h2 | h2; exact h2; rw [htl k h2] at hk; cases hk
      have hjm : j = l.length := by
        rcases Nat.lt_or_ge l.length j with h' | h'
        · exfalso
          refine hal fun i hi => ?_
          have hin := tailOk_mem s4 (t := j - (l.length + 1)) (by omega) (i := i) (by omega)
          rw [show l.length + 1 + (j - (l.length + 1)) = j by omega] at hin
          exact (mem_setOf.1 (hA0 hpre hsz hlt1 hcl ho hbe i hin)).2
        · omega
      subst hjm
      have hin : ∀ i, i < l.length → i ≠ p → listed.getD i false = true := fun i hi hne => (mem_setOf.1 (hA0 hpre hsz hlt1 hcl ho hbe i (s3 i hi hne))).2
      have hpu : listed.getD p false = false := by
        cases hb : listed.getD p false with
        | false => rfl
        | true => exact absurd (fun i hi => by by_cases hne : i = p; (subst hne; exact hb); exact hin i hi hne) hal
      have hset : setOf l.length listed = butP l.length p := by
        unfold setOf butP allIn
        refine List.filter_congr fun i hi => ?_
        have hi' : i < l.length := by simpa using hi
        by_cases hne : i = p
        · subst hne; rw [hpu]; simp
        · rw [hin i hi' hne]; simp [hne]
      rw [hset] at hr
      obtain ⟨op, hop⟩ : ∃ op, ops[p]? = some op := ⟨_, Array.getElem?_eq_getElem (by omega)⟩
      have hw := hQ2 o op a w ho hop ⟨ι, hr.weakN fun b hb => by
        simp only [Lt]
        rcases hb with hb | ⟨i, hi, h1, h2⟩
        · omega
        · have : i < l.length := by simpa [allIn] using (List.mem_filter.1 hi).1
          unfold seedOf at h2
          have : 16 * i + 16 ≤ 16 * l.length := by omega
          omega⟩
      have hls := left_set (n := ops.size) hlt hsz hu'
      have next : ∀ a w, wpList P ops Q (op :: ops.toList.drop (l.length + 1)) a w → wpAny P .any ops Q fuel (listed.setIfInBounds l.length true) a w := fun a w h => by
        refine side_any hp hpre hll2 hs hop fuel _ a w (by simpa using hsz) (by omega) (fun q hq hne => ?_) ?_ (fun q hq => ?_) h
        · by_cases hqe : q = l.length
          · subst hqe; simp [hsz, hlt]
          · rw [getD_set_ne false (Ne.symm hqe)]; exact hin q (by omega) hne
        · rw [getD_set_ne false (by omega)]; exact hpu
        · rw [getD_set_ne false (by omega)]; exact htl q (by omega)
      unfold wpOp
      rw [ho]
      simp only
      unfold wpList at hw
      by_cases hwt : Region.wanted o (yielded ops a.tmps) = true
      · rw [if_pos hwt] at hw ⊢
        exact hw.imp (Oper.wp_mono next) id
      · rw [if_neg hwt] at hw ⊢
        exact next _ _ hw
    replace hjl : j < l.length := by omega
    have hjX : j ∉ setOf l.length listed := fun hm => by rw [(mem_setOf.1 hm).2] at hu'; cases hu'
    have hX' := fun i => setOf_set2 (n := l.length) (listed := listed) hjl (by omega) i
    have hA : ∀ i ∈ (ancs pre).getD j [], i ∈ setOf l.length listed := fun i hi => by
      obtain ⟨p, hpj, hi⟩ := ancs_spec hi
      rw [hpre, preds_get (l := ops.toList) (j := j) (o := o) (by simpa using ho)] at hpj
      cases hpj
      have hin : ∀ k ∈ (o.after.toList.filter fun e => Region.binds .any e).map (·.on), k ∈ setOf l.length listed := fun k hk => by
        obtain ⟨e, he, rfl⟩ := List.mem_map.1 hk
        obtain ⟨he1, he2⟩ := List.mem_filter.1 he
        have hb := hbe e (by simpa using he1) he2
        refine mem_setOf.2 ⟨?_, hb⟩
        rcases Nat.lt_or_ge e.on l.length with h' | h'
        · exact h'
        · rw [htl _ h'] at hb; cases hb
      rcases hi with hi | ⟨k, hk, hi⟩
      · exact hin i hi
      · exact hcl k (hin k hk) i hi
    obtain ⟨so, hso0, hsok⟩ := all2_get hl (j := j) (x := o) (by simpa using ho)
    have hso : l[j]? = some so := by rw [List.getElem?_append_left hjl] at hso0; exact hso0
    have hxj : ∃ x, xs[j]? = some x := ⟨xs[j]'(by rw [hT.len]; exact hjl), List.getElem?_eq_getElem _⟩
    have htl' : ∀ k, l.length ≤ k → (listed.setIfInBounds j true).getD k false = false := fun k hk => by rw [getD_set_ne false (by omega)]; exact htl k hk
    obtain ⟨x, hx⟩ := hxj
    obtain ⟨hd, hent⟩ := hT.ent j so x hso hx
    obtain ⟨ask1, ask2⟩ := ask_same hT h0 hso hjX hA hcl
    have hcl' : ∀ k ∈ setOf l.length (listed.setIfInBounds j true), ∀ i ∈ (ancs pre).getD k [], i ∈ setOf l.length (listed.setIfInBounds j true) := fun k hk i hi => by
      rw [hX'] at hk ⊢
      rcases hk with hk | rfl
      · exact .inl (hcl k hk i hi)
      · exact .inl (hA i hi)
    have hf' : left ops.size (listed.setIfInBounds j true) ≤ fuel := by
      have := left_set (n := ops.size) hlt hsz hu'
      omega
    have hlike := like_step hT hso hx hjX hX' (last_of hT (ancs_lt hp) hx hjX hcl)
    have hnX : ∀ b, NX s0 (setOf l.length listed) b → NX s0 (setOf l.length (listed.setIfInBounds j true)) b := fun b hb => by
      rcases hb with hb | ⟨i, hi, hb⟩
      · exact .inl hb
      · exact .inr ⟨i, (hX' i).2 (.inl hi), hb⟩
    obtain ⟨e1, e2, _⟩ := id hsok
    have hd' : ∀ X, dstOk (mk X 0 l xs s0) o.dst = true := fun X => by
      rw [← e1]
      have hnt := (mk_nt X l xs 0 s0).1
      unfold dstOk at hd ⊢
      rw [hnt]; exact hd
    unfold wpOp
    rw [ho]
    simp only
    cases x with
    | some e =>
      obtain ⟨hg, hst, hcnt, hups⟩ := hent
      have hg' : gOk (mk (setOf l.length listed) 0 l xs s0) so.g := by
        unfold gOk at hg ⊢
        split
        · trivial
        · rename_i t w' hgg
          rw [hgg] at hg
          rw [boolV_cong (ask1 t (temps_g hgg))]
          exact hg
      rw [if_pos (wanted_yes hr hsok hg')]
      have hsub : Sub so.op (mk ((ancs pre).getD j []) 0 l xs s0) (mk (setOf l.length listed) 0 l xs s0) := by
        refine ⟨?_, ask2 e hx⟩
        intro y hy
        cases y with
        | tmp t => exact ask1 t (temps_op (by simpa using hy))
        | _ => rfl
      have hst' := stepE_mono hsub hst
      refine .inl (stepE_sound (seed := seedOf s0 j) hr hU (e := e) (hd' _) (fun k hk hk' hn => ?_) (e2 ▸ hst') (fun ι' a' w' hr' => ?_))
      · rcases hn with hn | ⟨i, hi, h1, h2⟩
        · unfold seedOf at hk; omega
        · have : i ≠ j := fun h => hjX (h ▸ hi)
          unfold seedOf at hk hk' h1 h2
          omega
      · refine ih _ a' w' ι' (by simpa using hsz) hf' htl' hcl' ?_
        have hr2 : Rel U w0 (Span (NX s0 (setOf l.length listed)) (seedOf s0 j) (seedOf s0 j + e.cnt)) (entSt (mk (setOf l.length listed) 0 l xs s0) so (some e)) a' w' ι' := by
          unfold entSt
          rw [e1]; exact hr'
        have hr3 := hr2.like hlike
        exact (hr3.weakN (nx' := (mk (setOf l.length (listed.setIfInBounds j true)) 0 l xs s0).nx) fun b hb => by
          rcases hb with hb | ⟨h1, h2⟩
          · exact hnX b hb
          · exact .inr ⟨j, (hX' j).2 (.inr rfl), h1, by omega⟩)
    | none =>
      obtain ⟨t, w', hgt, hb⟩ := hent
      have hb' : offB (mk (setOf l.length listed) 0 l xs s0) t w' := offB_cong (ask1 t (temps_g hgt)).symm hb
      rw [if_neg (by rw [wanted_no hr hsok hgt hb']; decide)]
      refine ih _ _ w ι (by simpa using hsz) hf' htl' hcl' ?_
      have hr2 : Rel U w0 (NX s0 (setOf l.length listed)) (entSt (mk (setOf l.length listed) 0 l xs s0) so none) (a.put o.dst undef) w ι := by
        unfold entSt skip1 put1
        rw [e1]
        cases hdst : o.dst with
        | none => exact hr
        | some d =>
          have hd2 := hd' (setOf l.length listed)
          exact hr.put (by simpa [dstOk, hdst] using hd2) rep_undef
      have hr3 := hr2.like hlike
      exact (hr3.weakN (nx' := (mk (setOf l.length (listed.setIfInBounds j true)) 0 l xs s0).nx) hnX)
end
end
end Go.Proofs.Ytmhnogmbpoeaeaa.Eng
namespace Go.Proofs.Ytmhnogmbpoeaeaa.Eng
set_option linter.all false
noncomputable section
open Go.RowKit

/-! ### A drawn region that writes nothing: one order tells all -/
inductive DrawP (P : Program) (K : St → Prop) : List SO → St → Prop
  | nil {s} (h : K s) : DrawP P K [] s
  | op {dst op g rest s v} (hd : dstOk s dst = true) (hg : gOk s g) (he : ∀ seed, effect P s seed op = some { val := some v }) (h : DrawP P K rest (put1 s dst (some v) [] s.nx)) : DrawP P K (⟨dst, op, g⟩ :: rest) s
  | call {dst f args ts g rest s vs ds r v} (hd : dstOk s dst = true) (hg : gOk s g) (hv : evL s args.toList = some vs) (ha : argL s.hp vs = some ds) (hc : Con P f ds r) (hfl : vs.flatMap idsX = [] ∨ Flat r) (hr : ∀ seed, unV' seed r = (v, [], seed))
      (h : DrawP P K rest (put1 s dst (some v) [] s.nx)) : DrawP P K (⟨dst, .call ⟨.value (.func f), args, ts⟩, g⟩ :: rest) s
  | off {dst op t w rest s} (hd : dstOk s dst = true) (hb : offB s t w) (h : DrawP P K rest (skip1 s dst)) : DrawP P K (⟨dst, op, some (t, w)⟩ :: rest) s
  | last {dst op g s e} (nx0 : Nat) (hnx : s.nx = nx0 + 16) (hd : dstOk s dst = true) (hg : gOk s g) (he : effect P s nx0 op = some e) (hc : e.cnt ≤ 14) (hn : ∀ p ∈ e.ups, nx0 ≤ p.1 ∧ p.1 < nx0 + e.cnt) (h : K (put1 s dst e.val e.ups s.nx)) : DrawP P K [⟨dst, op, g⟩] s
  | know {l s b} (t : Nat) (hb : boolV s t = some b) (ht : b = true → DrawP P K l (know s t true)) (hf : b = false → DrawP P K l (know s t false)) : DrawP P K l s
theorem mk_fr_old2 (anc : List Nat) (t : Nat) : ∀ (l : List SO) (xs : Ents) (i : Nat) (s : St), (∀ j o, j < xs.length → l[j]? = some o → anc.contains (i + j) = true → o.dst ≠ some t) → lk (mk anc i l xs s).fr t = lk s.fr t
  | [], xs, i, s, _ => by cases xs <;> rfl
  | o :: l, [], i, s, _ => rfl
  | o :: l, x :: xs, i, s, h => by
    rw [mk_cons, mk_fr_old2 anc t l xs (i + 1) _ (fun j o' hj0 hj hc => h (j + 1) o' (by simpa using hj0) (by simpa using hj) (by rw [show i + (j + 1) = i + 1 + j by omega]; exact hc))]
    by_cases hc : anc.contains i = true
    · rw [if_pos hc, entSt_fr, if_neg (h 0 o (by simp) rfl (by simpa using hc))]
    · rw [if_neg hc]
theorem mk_snoc (anc : List Nat) : ∀ (l : List SO) (xs : Ents) (i : Nat) (s : St) (o : SO) (x : Option Eff), l[xs.length]? = some o → mk anc i l (xs ++ [x]) s = if anc.contains (i + xs.length) then entSt (mk anc i l xs s) o x else mk anc i l xs s
  | [], xs, i, s, o, x, h => by simp at h
  | o0 :: l, [], i, s, o, x, h => by
    simp only [List.length_nil, List.getElem?_cons_zero, Option.some.injEq] at h
    subst h
    rw [List.nil_append, mk_cons, List.length_nil, Nat.add_zero]
    have e : ∀ s, mk anc (i + 1) l [] s = s := fun s => by cases l <;> rfl
    rw [e]
    have e2 : mk anc i (o0 :: l) [] s = s := rfl
    rw [e2]
    rfl
  | o0 :: l, x0 :: xs, i, s, o, x, h => by
    rw [List.cons_append, mk_cons, mk_cons, mk_snoc anc l xs (i + 1) _ o x (by simpa using h), List.length_cons, show i + 1 + xs.length = i + (xs.length + 1) by omega]
theorem drawP_A {P : Program} {K : St → Prop} {s0 : St} {pre : List (List Nat)} {l : List SO} (hp : preOk pre = true) (hdr : drawOk l (ancs pre) = true) {rest : List SO} {s : St} (h : DrawP P K rest s) :
    ∀ (dn : List SO) (xs : Ents), l = dn ++ rest → dn.length = xs.length → s.nt = s0.nt → s.nx = s0.nx + 16 * l.length → (∀ x ∈ xs, upsOf x = []) → (∀ b, lk s.hp b = lk s0.hp b) → (∀ t, lk s.fr t = lk (mk (allIn l.length) 0 l xs s0).fr t) →
    DrawA P (fun D => ∃ s', Like D s' ∧ s'.nx = D.nx ∧ K s') s0 (ancs pre) l rest xs := by
  have hallc : ∀ (k : Nat), k < l.length → (allIn l.length).contains k = true := fun k hk => by simp [allIn, hk]
  have hhp : ∀ (anc : List Nat) (xs : Ents) (b : Nat), (∀ x ∈ xs, upsOf x = []) → lk (mk anc 0 l xs s0).hp b = lk s0.hp b := fun anc xs b hu =>
    mk_hp_old anc b l xs 0 s0 fun j x hx _ _ => by rw [hu x (List.mem_of_getElem? hx)]; rfl
  -- what an operation asks for
  have ask : ∀ (dn rest : List SO) (o : SO) (xs : Ents), l = dn ++ o :: rest → dn.length = xs.length → ∀ t ∈ temps o, lk (mk ((ancs pre).getD xs.length []) 0 l xs s0).fr t = lk (mk (allIn l.length) 0 l xs s0).fr t := fun dn rest o xs hl hlen t ht => by
    have hj : l[xs.length]? = some o := by rw [hl, ← hlen, List.getElem?_append_right (Nat.le_refl _), Nat.sub_self]; rfl
    have hjl : xs.length < l.length := (List.getElem?_eq_some_iff.1 hj).1
    by_cases hw : ∃ (i : Nat) (oi : SO), i < xs.length ∧ l[i]? = some oi ∧ oi.dst = some t
    · obtain ⟨i, oi, hix, hi, hdi⟩ := hw
      have hxi : xs[i]? = some xs[i] := List.getElem?_eq_getElem hix
      have hu : ∀ (j' : Nat) (o' : SO), l[j']? = some o' → o'.dst = some t → j' = i := fun j' o' hj' hd' => drawOk_uniq hdr hj' hi hd' hdi
      have hin : i ∈ (ancs pre).getD xs.length [] := by
        rcases drawOk_cmp hdr hi hj hdi ht (by omega) with h' | h'
        · exact h'
        · have := ancs_lt hp _ _ h'; omega
      rw [mk_fr_new _ t l xs 0 s0 i oi _ hi hxi (by rw [contains_iff]; simpa using hin) hdi hu, mk_fr_new _ t l xs 0 s0 i oi _ hi hxi (by rw [Nat.zero_add]; exact hallc i (by omega)) hdi hu]
    · rw [mk_fr_old2 _ t l xs 0 s0 fun k ok hk0 hk _ hdk => hw ⟨k, ok, hk0, hk, hdk⟩, mk_fr_old2 _ t l xs 0 s0 fun k ok hk0 hk _ hdk => hw ⟨k, ok, hk0, hk, hdk⟩]
  -- behind it
  have behind : ∀ (dn rest : List SO) (o : SO) (xs : Ents) (x : Option Eff), l = dn ++ o :: rest → dn.length = xs.length → ∀ t, lk (mk (allIn l.length) 0 l (xs ++ [x]) s0).fr t = if o.dst = some t then valOf x else lk (mk (allIn l.length) 0 l xs s0).fr t := fun dn rest o xs x hl hlen t => by
    have hj : l[xs.length]? = some o := by rw [hl, ← hlen, List.getElem?_append_right (Nat.le_refl _), Nat.sub_self]; rfl
    have hjl : xs.length < l.length := (List.getElem?_eq_some_iff.1 hj).1
    rw [mk_snoc _ l xs 0 s0 o x hj, if_pos (by rw [Nat.zero_add]; exact hallc _ hjl), entSt_fr]
  have putfr : ∀ (s : St) (dst : Option Tmp) (v : AV) (t : Nat), lk (put1 s dst (some v) [] s.nx).fr t = if dst = some t then some v else lk s.fr t := fun s dst v t => by
    cases dst with
    | none => simp [put1, frOf]
    | some d => simp only [put1, frOf, lk_cons, Option.some.injEq]
  induction h with
  | @nil s hk =>
    intro dn xs hl hlen hnt hnx hu hh hf
    exact .nil ⟨s, ⟨fun t => (hf t).symm, fun b => by rw [hh b]; exact hhp _ xs b hu, by rw [hnt]; exact (mk_nt _ _ _ _ _).1⟩, hnx, hk⟩
  | @op dst op g rest s v hd hg he _ ih =>
    intro dn xs hl hlen hnt hnx hu hh hf
    have hask := ask dn rest ⟨dst, op, g⟩ xs hl hlen
    have hsub : Sub op s (mk ((ancs pre).getD xs.length []) 0 l xs s0) := by
      refine ⟨fun y hy => ?_, fun b o hb => by rw [hhp _ xs b hu, ← hh b]; exact hb⟩
      cases y with
      | tmp t => show lk _ t = lk _ t; rw [hask t (temps_op (o := ⟨dst, op, g⟩) (by simpa using hy)), ← hf t]
      | _ => rfl
    refine .op (e := { val := some v }) (by unfold dstOk at hd ⊢; rw [← hnt]; exact hd) ?_ (.inl (effect_mono hsub (he _))) (by show 0 ≤ 14; omega) (fun p hp => by cases hp) (ih (dn ++ [⟨dst, op, g⟩]) (xs ++ [some { val := some v }]) (by rw [hl]; simp) (by simp [hlen]) hnt hnx (fun x hx => ?_) hh (fun t => ?_))
    · cases g with
      | none => trivial
      | some tw =>
        obtain ⟨t, w⟩ := tw
        simp only [gOk] at hg ⊢
        rw [boolV_cong (s' := s) ((hask t (temps_g (o := ⟨dst, op, some (t, w)⟩) rfl)).trans (hf t).symm)]
        exact hg
    · rcases List.mem_append.1 hx with hx | hx
      · exact hu x hx
      · simp at hx; subst hx; rfl
    · rw [putfr, behind dn rest ⟨dst, op, g⟩ xs _ hl hlen t, hf t]; rfl
  | @call dst f args ts g rest s vs ds r v hd hg hv ha hc hfl hr _ ih =>
    intro dn xs hl hlen hnt hnx hu hh hf
    have hask := ask dn rest ⟨dst, .call ⟨.value (.func f), args, ts⟩, g⟩ xs hl hlen
    have hev : ∀ y ∈ args.toList, evO (mk ((ancs pre).getD xs.length []) 0 l xs s0) y = evO s y := fun y hy => by
      cases y with
      | tmp t => show lk _ t = lk _ t; rw [hask t (temps_op (o := ⟨dst, .call ⟨.value (.func f), args, ts⟩, g⟩) (by simp [Op.operands, Call.operands]; simpa using hy)), ← hf t]
      | _ => rfl
    have hr0 := hr (seedOf s0 xs.length)
    refine .op (e := { val := some v }) (by unfold dstOk at hd ⊢; rw [← hnt]; exact hd) ?_ (.inr ⟨f, args, ts, vs, ds, r, rfl, by rw [evL_cong hev]; exact hv, argL_mono (fun b o hb => by rw [hhp _ xs b hu, ← hh b]; exact hb) ha, hc, hfl, by rw [hr0]; simp⟩) (by show 0 ≤ 14; omega) (fun p hp => by cases hp)
      (ih (dn ++ [⟨dst, .call ⟨.value (.func f), args, ts⟩, g⟩]) (xs ++ [some { val := some v }]) (by rw [hl]; simp) (by simp [hlen]) hnt hnx (fun x hx => ?_) hh (fun t => ?_))
    · cases g with
      | none => trivial
      | some tw =>
        obtain ⟨t, w⟩ := tw
        simp only [gOk] at hg ⊢
        rw [boolV_cong (s' := s) ((hask t (temps_g (o := ⟨dst, .call ⟨.value (.func f), args, ts⟩, some (t, w)⟩) rfl)).trans (hf t).symm)]
        exact hg
    · rcases List.mem_append.1 hx with hx | hx
      · exact hu x hx
      · simp at hx; subst hx; rfl
    · rw [putfr, behind dn rest ⟨dst, .call ⟨.value (.func f), args, ts⟩, g⟩ xs _ hl hlen t, hf t]; rfl
  | @off dst op t w rest s hd hb _ ih =>
    intro dn xs hl hlen hnt hnx hu hh hf
    have hask := ask dn rest ⟨dst, op, some (t, w)⟩ xs hl hlen
    refine .off (by unfold dstOk at hd ⊢; rw [← hnt]; exact hd) (offB_cong (s := s) ((hf t).trans (hask t (temps_g (o := ⟨dst, op, some (t, w)⟩) rfl)).symm) hb) (ih (dn ++ [⟨dst, op, some (t, w)⟩]) (xs ++ [none]) (by rw [hl]; simp) (by simp [hlen]) hnt hnx (fun x hx => ?_) hh (fun t' => ?_))
    · rcases List.mem_append.1 hx with hx | hx
      · exact hu x hx
      · simp at hx; subst hx; rfl
    · rw [show (skip1 s dst) = put1 s dst (some (.tup [])) [] s.nx from rfl, putfr, behind dn rest ⟨dst, op, some (t, w)⟩ xs _ hl hlen t', hf t']; rfl
  | @last dst op g s e nx0 hnx0 hd hg he hc hn hk =>
    intro dn xs hl hlen hnt hnx hu hh hf
    have hask := ask dn [] ⟨dst, op, g⟩ xs hl hlen
    have hln : l.length = xs.length + 1 := by rw [hl, ← hlen]; simp
    have hse : seedOf s0 xs.length = nx0 := by unfold seedOf; omega
    have hsub : Sub op s (mk ((ancs pre).getD xs.length []) 0 l xs s0) := by
      refine ⟨fun y hy => ?_, fun b o hb => by rw [hhp _ xs b hu, ← hh b]; exact hb⟩
      cases y with
      | tmp t => show lk _ t = lk _ t; rw [hask t (temps_op (o := ⟨dst, op, g⟩) (by simpa using hy)), ← hf t]
      | _ => rfl
    have hj : l[xs.length]? = some (⟨dst, op, g⟩ : SO) := by rw [hl, ← hlen, List.getElem?_append_right (Nat.le_refl _), Nat.sub_self]; rfl
    refine .op (e := e) (by unfold dstOk at hd ⊢; rw [← hnt]; exact hd) ?_ (.inl (by rw [hse]; exact effect_mono hsub he)) hc (by rw [hse]; exact hn) (.nil ⟨put1 s dst e.val e.ups s.nx, ⟨fun t => ?_, fun b => ?_, ?_⟩, hnx, hk⟩)
    · cases g with
      | none => trivial
      | some tw =>
        obtain ⟨t, w⟩ := tw
        simp only [gOk] at hg ⊢
        rw [boolV_cong (s' := s) ((hask t (temps_g (o := ⟨dst, op, some (t, w)⟩) rfl)).trans (hf t).symm)]
        exact hg
    · show lk (mk (allIn l.length) 0 l (xs ++ [some e]) s0).fr t = lk (entSt s ⟨dst, op, g⟩ (some e)).fr t
      rw [behind dn [] ⟨dst, op, g⟩ xs _ hl hlen t, entSt_fr, hf t]
    · show lk (mk (allIn l.length) 0 l (xs ++ [some e]) s0).hp b = lk (entSt s ⟨dst, op, g⟩ (some e)).hp b
      rw [mk_snoc _ l xs 0 s0 ⟨dst, op, g⟩ (some e) hj, if_pos (by rw [Nat.zero_add]; exact hallc _ (by omega)), entSt_hp, entSt_hp, lk_app, lk_app, hhp _ xs b hu, hh b]
    · show (mk (allIn l.length) 0 l (xs ++ [some e]) s0).nt = s.nt
      rw [hnt]; exact (mk_nt _ _ _ _ _).1
  | @know l' s b t hb _ _ iht ihf =>
    intro dn xs hl hlen hnt hnx hu hh hf
    have key : ∀ t', lk ((t, vv (.bool b)) :: s.fr) t' = lk s.fr t' := fun t' => by
      rw [lk_cons]
      by_cases he : t = t'
      · subst he
        rw [if_pos rfl]
        unfold boolV at hb
        split at hb
        · rename_i b' hb'
          cases hb
          exact hb'.symm
        · cases hb
      · rw [if_neg he]
    cases b with
    | true => exact iht rfl dn xs hl hlen hnt hnx hu hh fun t' => (key t').trans (hf t')
    | false => exact ihf rfl dn xs hl hlen hnt hnx hu hh fun t' => (key t').trans (hf t')
end
end Go.Proofs.Ytmhnogmbpoeaeaa.Eng
namespace Go.Proofs.Ytmhnogmbpoeaeaa.Eng
set_option linter.all false
noncomputable section
open Go.RowKit

inductive DrawN (P : Program) (K : St → Prop) : List SO → List (Nat × Ob) → Nat → St → Prop
  | nil {U sd s} (h : K { s with hp := U ++ s.hp }) : DrawN P K [] U sd s
  | op {dst op g rest U sd s v ups cnt} (hd : dstOk s dst = true) (hg : gOk s g) (he : effect P s sd op = some ⟨some v, ups, cnt⟩) (hc : cnt ≤ 14) (hn : ∀ p ∈ ups, sd ≤ p.1 ∧ p.1 < sd + cnt) (h : DrawN P K rest (ups ++ U) (sd + 16) (put1 s dst (some v) [] s.nx)) : DrawN P K (⟨dst, op, g⟩ :: rest) U sd s
  | call {dst f args ts g rest U sd s vs ds r v ups n} (hd : dstOk s dst = true) (hg : gOk s g) (hv : evL s args.toList = some vs) (ha : argL s.hp vs = some ds) (hc : Con P f ds r) (hfl : vs.flatMap idsX = [] ∨ Flat r) (hr : unV' sd r = (v, ups, n)) (hc14 : n - sd ≤ 14)
      (hn : ∀ p ∈ ups, sd ≤ p.1 ∧ p.1 < sd + (n - sd)) (h : DrawN P K rest (ups ++ U) (sd + 16) (put1 s dst (some v) [] s.nx)) : DrawN P K (⟨dst, .call ⟨.value (.func f), args, ts⟩, g⟩ :: rest) U sd s
  | off {dst op t w rest U sd s} (hd : dstOk s dst = true) (hb : offB s t w) (h : DrawN P K rest U (sd + 16) (skip1 s dst)) : DrawN P K (⟨dst, op, some (t, w)⟩ :: rest) U sd s
  | know {l U sd s b} (t : Nat) (hb : boolV s t = some b) (ht : b = true → DrawN P K l U sd (know s t true)) (hf : b = false → DrawN P K l U sd (know s t false)) : DrawN P K l U sd s
theorem lk_none_of {α : Type} {u : List (Nat × α)} {b n : Nat} (h : ∀ p ∈ u, n ≤ p.1) (hb : b < n) : lk u b = none := by
  induction u with
  | nil => rfl
  | cons p u ih =>
    obtain ⟨k, v⟩ := p
    have h1 : n ≤ k := h (k, v) (by simp)
    rw [lk_cons, if_neg (by omega)]
    exact ih fun q hq => h q (by simp [hq])
theorem drawN_A {P : Program} {K : St → Prop} {s0 : St} {pre : List (List Nat)} {l : List SO} (hp : preOk pre = true) (hdr : drawOk l (ancs pre) = true) (hold : ∀ b o, lk s0.hp b = some o → b < s0.nx) {rest : List SO} {U : List (Nat × Ob)} {sd : Nat} {s : St} (h : DrawN P K rest U sd s) :
    ∀ (dn : List SO) (xs : Ents), l = dn ++ rest → dn.length = xs.length → s.nt = s0.nt → s.nx = s0.nx + 16 * l.length → sd = seedOf s0 xs.length → (∀ x ∈ xs, ∀ p ∈ upsOf x, s0.nx ≤ p.1) → s.hp = s0.hp → (∀ b, lk (U ++ s0.hp) b = lk (mk (allIn l.length) 0 l xs s0).hp b) → (∀ t, lk s.fr t = lk (mk (allIn l.length) 0 l xs s0).fr t) →
    DrawA P (fun D => ∃ s', Like D s' ∧ s'.nx = D.nx ∧ K s') s0 (ancs pre) l rest xs := by
  have hallc : ∀ (k : Nat), k < l.length → (allIn l.length).contains k = true := fun k hk => by simp [allIn, hk]
  have hhp : ∀ (anc : List Nat) (xs : Ents) (b : Nat) (o : Ob), (∀ x ∈ xs, ∀ p ∈ upsOf x, s0.nx ≤ p.1) → lk s0.hp b = some o → lk (mk anc 0 l xs s0).hp b = some o := fun anc xs b o hu hb => by
    rw [mk_hp_old anc b l xs 0 s0 fun j x hx _ _ => lk_none_of (hu x (List.mem_of_getElem? hx)) (hold b o hb)]
    exact hb
  have ask : ∀ (dn rest : List SO) (o : SO) (xs : Ents), l = dn ++ o :: rest → dn.length = xs.length → ∀ t ∈ temps o, lk (mk ((ancs pre).getD xs.length []) 0 l xs s0).fr t = lk (mk (allIn l.length) 0 l xs s0).fr t := fun dn rest o xs hl hlen t ht => by
    have hj : l[xs.length]? = some o := by rw [hl, ← hlen, List.getElem?_append_right (Nat.le_refl _), Nat.sub_self]; rfl
    have hjl : xs.length < l.length := (List.getElem?_eq_some_iff.1 hj).1
    by_cases hw : ∃ (i : Nat) (oi : SO), i < xs.length ∧ l[i]? = some oi ∧ oi.dst = some t
    · obtain ⟨i, oi, hix, hi, hdi⟩ := hw
      have hxi : xs[i]? = some xs[i] := List.getElem?_eq_getElem hix
      have hu : ∀ (j' : Nat) (o' : SO), l[j']? = some o' → o'.dst = some t → j' = i := fun j' o' hj' hd' => drawOk_uniq hdr hj' hi hd' hdi
      have hin : i ∈ (ancs pre).getD xs.length [] := by
        rcases drawOk_cmp hdr hi hj hdi ht (by omega) with h' | h'
        · exact h'
        · have := ancs_lt hp _ _ h'; omega
      rw [mk_fr_new _ t l xs 0 s0 i oi _ hi hxi (by rw [contains_iff]; simpa using hin) hdi hu, mk_fr_new _ t l xs 0 s0 i oi _ hi hxi (by rw [Nat.zero_add]; exact hallc i (by omega)) hdi hu]
    · rw [mk_fr_old2 _ t l xs 0 s0 fun k ok hk0 hk _ hdk => hw ⟨k, ok, hk0, hk, hdk⟩, mk_fr_old2 _ t l xs 0 s0 fun k ok hk0 hk _ hdk => hw ⟨k, ok, hk0, hk, hdk⟩]
  have snoc : ∀ (dn rest : List SO) (o : SO) (xs : Ents) (x : Option Eff), l = dn ++ o :: rest → dn.length = xs.length → mk (allIn l.length) 0 l (xs ++ [x]) s0 = entSt (mk (allIn l.length) 0 l xs s0) o x := fun dn rest o xs x hl hlen => by
    have hj : l[xs.length]? = some o := by rw [hl, ← hlen, List.getElem?_append_right (Nat.le_refl _), Nat.sub_self]; rfl
    have hjl : xs.length < l.length := (List.getElem?_eq_some_iff.1 hj).1
    rw [mk_snoc _ l xs 0 s0 o x hj, if_pos (by rw [Nat.zero_add]; exact hallc _ hjl)]
  have behind : ∀ (dn rest : List SO) (o : SO) (xs : Ents) (x : Option Eff), l = dn ++ o :: rest → dn.length = xs.length → ∀ t, lk (mk (allIn l.length) 0 l (xs ++ [x]) s0).fr t = if o.dst = some t then valOf x else lk (mk (allIn l.length) 0 l xs s0).fr t := fun dn rest o xs x hl hlen t => by
    rw [snoc dn rest o xs x hl hlen, entSt_fr]
  have putfr : ∀ (s : St) (dst : Option Tmp) (v : AV) (t : Nat), lk (put1 s dst (some v) [] s.nx).fr t = if dst = some t then some v else lk s.fr t := fun s dst v t => by
    cases dst with
    | none => simp [put1, frOf]
    | some d => simp only [put1, frOf, lk_cons, Option.some.injEq]
  have guard : ∀ (s : St) (xs : Ents) (g : Option (Nat × Bool)), (∀ t w, g = some (t, w) → lk (mk ((ancs pre).getD xs.length []) 0 l xs s0).fr t = lk s.fr t) → gOk s g → gOk (mk ((ancs pre).getD xs.length []) 0 l xs s0) g := fun s xs g hq hg => by
    cases g with
    | none => trivial
    | some tw =>
      obtain ⟨t, w⟩ := tw
      simp only [gOk] at hg ⊢
      rw [boolV_cong (s' := s) (hq t w rfl)]
      exact hg
  have hpnext : ∀ (dn rest : List SO) (o : SO) (xs : Ents) (e : Eff) (U : List (Nat × Ob)), l = dn ++ o :: rest → dn.length = xs.length → (∀ b, lk (U ++ s0.hp) b = lk (mk (allIn l.length) 0 l xs s0).hp b) → ∀ b, lk ((e.ups ++ U) ++ s0.hp) b = lk (mk (allIn l.length) 0 l (xs ++ [some e]) s0).hp b := fun dn rest o xs e U hl hlen hU b => by
    rw [snoc dn rest o xs _ hl hlen, entSt_hp, List.append_assoc, lk_app, lk_app (upsOf (some e)), hU b]
    rfl
  have unext : ∀ (xs : Ents) (e : Eff), (∀ x ∈ xs, ∀ p ∈ upsOf x, s0.nx ≤ p.1) → (∀ p ∈ e.ups, seedOf s0 xs.length ≤ p.1) → ∀ x ∈ xs ++ [some e], ∀ p ∈ upsOf x, s0.nx ≤ p.1 := fun xs e hu he x hx p hpx => by
    rcases List.mem_append.1 hx with hx | hx
    · exact hu x hx p hpx
    · simp at hx; subst hx
      have := he p hpx
      unfold seedOf at this; omega
  induction h with
  | @nil U sd s hk =>
    intro dn xs hl hlen hnt hnx hsd hu hh hU hf
    exact .nil ⟨{ s with hp := U ++ s.hp }, ⟨fun t => (hf t).symm, fun b => by show lk _ b = lk (U ++ s.hp) b; rw [hh, hU b], by show _ = s.nt; rw [hnt]; exact (mk_nt _ _ _ _ _).1⟩, hnx, hk⟩
  | @op dst op g rest U sd s v ups cnt hd hg he hc hn _ ih =>
    intro dn xs hl hlen hnt hnx hsd hu hh hU hf
    subst hsd
    have hask := ask dn rest ⟨dst, op, g⟩ xs hl hlen
    have hsub : Sub op s (mk ((ancs pre).getD xs.length []) 0 l xs s0) := by
      refine ⟨fun y hy => ?_, fun b o hb => hhp _ xs b o hu (hh ▸ hb)⟩
      cases y with
      | tmp t => show lk _ t = lk _ t; rw [hask t (temps_op (o := ⟨dst, op, g⟩) (by simpa using hy)), ← hf t]
      | _ => rfl
    refine .op (e := ⟨some v, ups, cnt⟩) (by unfold dstOk at hd ⊢; rw [← hnt]; exact hd) (guard s xs g (fun t w hgt => ?_) hg) (.inl (effect_mono hsub he)) hc hn
      (ih (dn ++ [⟨dst, op, g⟩]) (xs ++ [some ⟨some v, ups, cnt⟩]) (by rw [hl]; simp) (by simp [hlen]) hnt hnx (by unfold seedOf; simp; omega) (unext xs ⟨some v, ups, cnt⟩ hu fun p hpx => (hn p hpx).1) hh (hpnext dn rest ⟨dst, op, g⟩ xs ⟨some v, ups, cnt⟩ U hl hlen hU) (fun t => ?_))
    · rw [hask t (temps_g (o := ⟨dst, op, g⟩) (by rw [hgt])), ← hf t]
    · rw [putfr, behind dn rest ⟨dst, op, g⟩ xs _ hl hlen t, hf t]; rfl
  | @call dst f args ts g rest U sd s vs ds r v ups n hd hg hv ha hc hfl hr hc14 hn _ ih =>
    intro dn xs hl hlen hnt hnx hsd hu hh hU hf
    subst hsd
    have hask := ask dn rest ⟨dst, .call ⟨.value (.func f), args, ts⟩, g⟩ xs hl hlen
    have hev : ∀ y ∈ args.toList, evO (mk ((ancs pre).getD xs.length []) 0 l xs s0) y = evO s y := fun y hy => by
      cases y with
      | tmp t => show lk _ t = lk _ t; rw [hask t (temps_op (o := ⟨dst, .call ⟨.value (.func f), args, ts⟩, g⟩) (by simp [Op.operands, Call.operands]; simpa using hy)), ← hf t]
      | _ => rfl
    refine .op (e := ⟨some v, ups, n - seedOf s0 xs.length⟩) (by unfold dstOk at hd ⊢; rw [← hnt]; exact hd) (guard s xs g (fun t w hgt => ?_) hg) (.inr ⟨f, args, ts, vs, ds, r, rfl, by rw [evL_cong hev]; exact hv, argL_mono (fun b o hb => hhp _ xs b o hu (hh ▸ hb)) ha, hc, hfl, by rw [hr]⟩) hc14 hn
      (ih (dn ++ [⟨dst, .call ⟨.value (.func f), args, ts⟩, g⟩]) (xs ++ [some ⟨some v, ups, n - seedOf s0 xs.length⟩]) (by rw [hl]; simp) (by simp [hlen]) hnt hnx (by unfold seedOf; simp; omega) (unext xs ⟨some v, ups, _⟩ hu fun p hpx => (hn p hpx).1) hh (hpnext dn rest ⟨dst, .call ⟨.value (.func f), args, ts⟩, g⟩ xs ⟨some v, ups, _⟩ U hl hlen hU) (fun t => ?_))
    · rw [hask t (temps_g (o := ⟨dst, .call ⟨.value (.func f), args, ts⟩, g⟩) (by rw [hgt])), ← hf t]
    · rw [putfr, behind dn rest ⟨dst, .call ⟨.value (.func f), args, ts⟩, g⟩ xs _ hl hlen t, hf t]; rfl
  | @off dst op t w rest U sd s hd hb _ ih =>
    intro dn xs hl hlen hnt hnx hsd hu hh hU hf
    subst hsd
    have hask := ask dn rest ⟨dst, op, some (t, w)⟩ xs hl hlen
    refine .off (by unfold dstOk at hd ⊢; rw [← hnt]; exact hd) (offB_cong (s := s) ((hf t).trans (hask t (temps_g (o := ⟨dst, op, some (t, w)⟩) rfl)).symm) hb) (ih (dn ++ [⟨dst, op, some (t, w)⟩]) (xs ++ [none]) (by rw [hl]; simp) (by simp [hlen]) hnt hnx (by unfold seedOf; simp; omega) (fun x hx p hpx => ?_) hh (fun b => ?_) (fun t' => ?_))
    · rcases List.mem_append.1 hx with hx | hx
      · exact hu x hx p hpx
      · simp at hx; subst hx; cases hpx
    · rw [snoc dn rest ⟨dst, op, some (t, w)⟩ xs none hl hlen, entSt_hp]; exact hU b
    · rw [show (skip1 s dst) = put1 s dst (some (.tup [])) [] s.nx from rfl, putfr, behind dn rest ⟨dst, op, some (t, w)⟩ xs _ hl hlen t', hf t']; rfl
  | @know l' U sd s b t hb _ _ iht ihf =>
    intro dn xs hl hlen hnt hnx hsd hu hh hU hf
    have key : ∀ t', lk ((t, vv (.bool b)) :: s.fr) t' = lk s.fr t' := fun t' => by
      rw [lk_cons]
      by_cases he : t = t'
      · subst he
        rw [if_pos rfl]
        unfold boolV at hb
        split at hb
        · rename_i b' hb'
          cases hb
          exact hb'.symm
        · cases hb
      · rw [if_neg he]
    cases b with
    | true => exact iht rfl dn xs hl hlen hnt hnx hsd hu hh hU fun t' => (key t').trans (hf t')
    | false => exact ihf rfl dn xs hl hlen hnt hnx hsd hu hh hU fun t' => (key t').trans (hf t')

/-! ### Operations that lay objects of one another: each is asked in the state of those that it waits for. -/
def pickU (anc : List Nat) : List (List (Nat × Ob)) → List (Nat × Ob)
  | [] => []
  | u :: U => (if anc.contains U.length then u else []) ++ pickU anc U
def idU (U : List (List (Nat × Ob))) (j : Nat) : List Nat := (U.getD (U.length - 1 - j) []).map (·.1)
def chkM (A : List (List Nat)) (U : List (List (Nat × Ob))) (ups : List (Nat × Ob)) : Bool :=
  (List.range U.length).all fun j => (A.getD U.length []).contains j ||
    ((idU U j).all (fun b => !((ups.map (·.1)).contains b) && (A.getD U.length []).all fun i => !(decide (i < U.length) && (idU U i).contains b)) &&
      (ups.map (·.1)).all fun b => (A.getD j []).all fun i => !(decide (i < U.length) && (idU U i).contains b))
inductive DrawM (P : Program) (K : St → Prop) (nx0 : Nat) (A : List (List Nat)) : List SO → List (List (Nat × Ob)) → Nat → St → Prop
  | nil {U sd s} (h : K { s with hp := U.flatten ++ s.hp }) : DrawM P K nx0 A [] U sd s
  | op {dst op g rest U sd s sA} {e : Eff} (hs : { s with hp := pickU (A.getD U.length []) U ++ s.hp } = sA) (hd : dstOk s dst = true) (hg : gOk s g) (he : effect P sA sd op = some e) (hc : e.cnt ≤ 14) (hn : ∀ p ∈ e.ups, nx0 ≤ p.1) (hk : chkM A U e.ups = true)
      (h : DrawM P K nx0 A rest (e.ups :: U) (sd + 16) (put1 s dst e.val [] s.nx)) : DrawM P K nx0 A (⟨dst, op, g⟩ :: rest) U sd s
  | call {dst f args ts g rest U sd s sA vs ds r v ups n} (hs : { s with hp := pickU (A.getD U.length []) U ++ s.hp } = sA) (hd : dstOk s dst = true) (hg : gOk s g) (hv : evL sA args.toList = some vs) (ha : argL sA.hp vs = some ds) (hc : Con P f ds r) (hfl : vs.flatMap idsX = [] ∨ Flat r) (hr : unV' sd r = (v, ups, n)) (hc14 : n - sd ≤ 14)
      (hn : ∀ p ∈ ups, nx0 ≤ p.1) (hk : chkM A U ups = true) (h : DrawM P K nx0 A rest (ups :: U) (sd + 16) (put1 s dst (some v) [] s.nx)) : DrawM P K nx0 A (⟨dst, .call ⟨.value (.func f), args, ts⟩, g⟩ :: rest) U sd s
  | off {dst op t w rest U sd s} (hd : dstOk s dst = true) (hb : offB s t w) (h : DrawM P K nx0 A rest ([] :: U) (sd + 16) (skip1 s dst)) : DrawM P K nx0 A (⟨dst, op, some (t, w)⟩ :: rest) U sd s
  | know {l U sd s b} (t : Nat) (hb : boolV s t = some b) (ht : b = true → DrawM P K nx0 A l U sd (know s t true)) (hf : b = false → DrawM P K nx0 A l U sd (know s t false)) : DrawM P K nx0 A l U sd s
def usOf (xs : Ents) : List (List (Nat × Ob)) := (xs.map upsOf).reverse
theorem usOf_len (xs : Ents) : (usOf xs).length = xs.length := by simp [usOf]
theorem usOf_snoc (xs : Ents) (x : Option Eff) : usOf (xs ++ [x]) = upsOf x :: usOf xs := by simp [usOf]
theorem mem_ids {u : List (Nat × Ob)} {b : Nat} : b ∈ u.map (·.1) ↔ lk u b ≠ none := by
  induction u with
  | nil => simp [lk_nil]
  | cons p u ih =>
    obtain ⟨k, v⟩ := p
    rw [lk_cons, List.map_cons, List.mem_cons, ih]
    by_cases h : k = b
    · simp [h]
    · rw [if_neg h]
      exact ⟨fun h1 => h1.resolve_left fun e => h e.symm, .inr⟩
theorem mem_idU {xs : Ents} {j b : Nat} (hj : j < xs.length) : b ∈ idU (usOf xs) j ↔ Lays xs j b := by
  have e : (usOf xs).getD ((usOf xs).length - 1 - j) [] = upsOf xs[j] := by
    have h1 : (usOf xs)[xs.length - 1 - j]? = some (upsOf xs[j]) := by
      unfold usOf
      rw [List.getElem?_reverse (by rw [List.length_map]; omega), show (xs.map upsOf).length - 1 - (xs.length - 1 - j) = j by rw [List.length_map]; omega, List.getElem?_map, List.getElem?_eq_getElem hj]
      rfl
    rw [usOf_len, List.getD, h1]
    rfl
  unfold idU
  rw [e, mem_ids, lays_iff]
  constructor
  · intro h; exact ⟨xs[j], List.getElem?_eq_getElem hj, h⟩
  · rintro ⟨x, h1, h2⟩
    rw [List.getElem?_eq_getElem hj] at h1
    cases h1
    exact h2
theorem chk_at {A : List (List Nat)} (hlt : ∀ (j i : Nat), i ∈ A.getD j [] → i < j) {xs : Ents} {e : Eff} (h : chkM A (usOf xs) e.ups = true) : CmpAt A xs e ∧ CmpTo A xs e := by
  unfold chkM at h
  rw [usOf_len] at h
  have h1 := fun (j : Nat) (hj : j < xs.length) => List.all_eq_true.1 h j (by simpa using hj)
  have one : ∀ j, j < xs.length → j ∉ A.getD xs.length [] → (∀ b, Lays xs j b → lk e.ups b = none ∧ ∀ i ∈ A.getD xs.length [], ¬ Lays xs i b) ∧ ∀ b, lk e.ups b ≠ none → ∀ i ∈ A.getD j [], ¬ Lays xs i b := fun j hj hn => by
    have h2 := h1 j hj
    have hc : (A.getD xs.length []).contains j = false := by
      cases hcc : (A.getD xs.length []).contains j with
      | false => rfl
      | true => exact absurd (contains_iff.1 hcc) hn
    rw [hc, Bool.false_or, Bool.and_eq_true] at h2
    obtain ⟨a1, a2⟩ := h2
    refine ⟨fun b hb => ?_, fun b hb i hi hl => ?_⟩
    · have h3 := List.all_eq_true.1 a1 b ((mem_idU hj).2 hb)
      rw [Bool.and_eq_true] at h3
      refine ⟨?_, fun i hi hl => ?_⟩
      · cases hu : lk e.ups b with
        | none => rfl
        | some ob =>
          have := contains_iff.2 (mem_ids.2 (show lk e.ups b ≠ none by rw [hu]; simp))
          rw [this] at h3
          simp at h3
      · have h4 := List.all_eq_true.1 h3.2 i hi
        have hi2 := hlt _ i hi
        have := contains_iff.2 ((mem_idU hi2).2 hl)
        rw [this, decide_eq_true hi2] at h4
        simp at h4
    · have h3 := List.all_eq_true.1 a2 b (mem_ids.2 hb)
      have h4 := List.all_eq_true.1 h3 i hi
      have hi2 : i < xs.length := by have := hlt j i hi; omega
      have := contains_iff.2 ((mem_idU hi2).2 hl)
      rw [this, decide_eq_true hi2] at h4
      simp at h4
  refine ⟨fun k b hk hor => Decidable.byContradiction fun hn => ?_, fun j b hj hb hex => Decidable.byContradiction fun hn => ?_⟩
  · obtain ⟨p1, p2⟩ := (one k (lays_lt hk) hn).1 b hk
    rcases hor with h3 | ⟨i, hi, h3⟩
    · exact h3 p1
    · exact p2 i hi h3
  · obtain ⟨i, hi, h3⟩ := hex
    exact (one j hj hn).2 b hb i hi h3
theorem mk_pickR (anc : List Nat) (l : List SO) (s0 : St) : ∀ ys : Ents, ys.length ≤ l.length → (mk anc 0 l ys.reverse s0).hp = pickU anc (ys.map upsOf) ++ s0.hp
  | [], _ => by cases l <;> rfl
  | y :: ys, h => by
    have hlt : ys.reverse.length < l.length := by rw [List.length_reverse]; simp at h; omega
    obtain ⟨o, ho⟩ : ∃ o, l[ys.reverse.length]? = some o := ⟨_, List.getElem?_eq_getElem hlt⟩
    rw [List.reverse_cons, mk_snoc anc l ys.reverse 0 s0 o y ho, List.map_cons, pickU, List.length_map]
    have ih := mk_pickR anc l s0 ys (by simp at h; omega)
    rw [Nat.zero_add, List.length_reverse]
    by_cases hc : anc.contains ys.length = true
    · rw [if_pos hc, if_pos hc, entSt_hp, ih, List.append_assoc]
    · rw [if_neg hc, if_neg hc, ih, List.nil_append]
theorem mk_pick (anc : List Nat) (l : List SO) (s0 : St) (xs : Ents) (h : xs.length ≤ l.length) : (mk anc 0 l xs s0).hp = pickU anc (usOf xs) ++ s0.hp := by
  have := mk_pickR anc l s0 xs.reverse (by simpa using h)
  rw [List.reverse_reverse] at this
  rw [this]
  unfold usOf
  rw [List.map_reverse]
theorem pick_all (n : Nat) : ∀ U : List (List (Nat × Ob)), U.length ≤ n → pickU (allIn n) U = U.flatten
  | [], _ => rfl
  | u :: U, h => by
    have hlt : U.length < n := by simp at h; omega
    rw [pickU, if_pos (by rw [contains_iff]; simpa [allIn] using hlt), pick_all n U (Nat.le_of_lt hlt), List.flatten_cons]
theorem drawM_B {P : Program} {K : St → Prop} {s0 : St} {pre : List (List Nat)} {l : List SO} (hp : preOk pre = true) (hdr : drawOk l (ancs pre) = true) {rest : List SO} {U : List (List (Nat × Ob))} {sd : Nat} {s : St} (h : DrawM P K s0.nx (ancs pre) rest U sd s) :
    ∀ (dn : List SO) (xs : Ents), l = dn ++ rest → dn.length = xs.length → s.nt = s0.nt → s.nx = s0.nx + 16 * l.length → sd = seedOf s0 xs.length → s.hp = s0.hp → U = usOf xs → (∀ t, lk s.fr t = lk (mk (allIn l.length) 0 l xs s0).fr t) →
    DrawB P (fun D => ∃ s', Like D s' ∧ s'.nx = D.nx ∧ K s') s0 (ancs pre) l rest xs := by
  have hallc : ∀ (k : Nat), k < l.length → (allIn l.length).contains k = true := fun k hk => by simp [allIn, hk]
  have ask : ∀ (dn rest : List SO) (o : SO) (xs : Ents), l = dn ++ o :: rest → dn.length = xs.length → ∀ t ∈ temps o, lk (mk ((ancs pre).getD xs.length []) 0 l xs s0).fr t = lk (mk (allIn l.length) 0 l xs s0).fr t := fun dn rest o xs hl hlen t ht => by
    have hj : l[xs.length]? = some o := by rw [hl, ← hlen, List.getElem?_append_right (Nat.le_refl _), Nat.sub_self]; rfl
    have hjl : xs.length < l.length := (List.getElem?_eq_some_iff.1 hj).1
    by_cases hw : ∃ (i : Nat) (oi : SO), i < xs.length ∧ l[i]? = some oi ∧ oi.dst = some t
    · obtain ⟨i, oi, hix, hi, hdi⟩ := hw
      have hxi : xs[i]? = some xs[i] := List.getElem?_eq_getElem hix
      have hu : ∀ (j' : Nat) (o' : SO), l[j']? = some o' → o'.dst = some t → j' = i := fun j' o' hj' hd' => drawOk_uniq hdr hj' hi hd' hdi
      have hin : i ∈ (ancs pre).getD xs.length [] := by
        rcases drawOk_cmp hdr hi hj hdi ht (by omega) with h' | h'
        · exact h'
        · have := ancs_lt hp _ _ h'; omega
      rw [mk_fr_new _ t l xs 0 s0 i oi _ hi hxi (by rw [contains_iff]; simpa using hin) hdi hu, mk_fr_new _ t l xs 0 s0 i oi _ hi hxi (by rw [Nat.zero_add]; exact hallc i (by omega)) hdi hu]
    · rw [mk_fr_old2 _ t l xs 0 s0 fun k ok hk0 hk _ hdk => hw ⟨k, ok, hk0, hk, hdk⟩, mk_fr_old2 _ t l xs 0 s0 fun k ok hk0 hk _ hdk => hw ⟨k, ok, hk0, hk, hdk⟩]
  have behind : ∀ (dn rest : List SO) (o : SO) (xs : Ents) (x : Option Eff), l = dn ++ o :: rest → dn.length = xs.length → ∀ t, lk (mk (allIn l.length) 0 l (xs ++ [x]) s0).fr t = if o.dst = some t then valOf x else lk (mk (allIn l.length) 0 l xs s0).fr t := fun dn rest o xs x hl hlen t => by
    have hj : l[xs.length]? = some o := by rw [hl, ← hlen, List.getElem?_append_right (Nat.le_refl _), Nat.sub_self]; rfl
    have hjl : xs.length < l.length := (List.getElem?_eq_some_iff.1 hj).1
    rw [mk_snoc _ l xs 0 s0 o x hj, if_pos (by rw [Nat.zero_add]; exact hallc _ hjl), entSt_fr]
  have putfr : ∀ (s : St) (dst : Option Tmp) (v : Option AV) (t : Nat), lk (put1 s dst v [] s.nx).fr t = if dst = some t then v else lk s.fr t := fun s dst v t => by
    cases dst with
    | none => simp [put1, frOf]
    | some d =>
      cases v with
      | none => simp only [put1, frOf, lk_del, Option.some.injEq]
      | some v => simp only [put1, frOf, lk_cons, Option.some.injEq]
  have guard : ∀ (s : St) (xs : Ents) (g : Option (Nat × Bool)), (∀ t w, g = some (t, w) → lk (mk ((ancs pre).getD xs.length []) 0 l xs s0).fr t = lk s.fr t) → gOk s g → gOk (mk ((ancs pre).getD xs.length []) 0 l xs s0) g := fun s xs g hq hg => by
    cases g with
    | none => trivial
    | some tw =>
      obtain ⟨t, w⟩ := tw
      simp only [gOk] at hg ⊢
      rw [boolV_cong (s' := s) (hq t w rfl)]
      exact hg
  have hle : ∀ (dn rest : List SO) (o : SO) (xs : Ents), l = dn ++ o :: rest → dn.length = xs.length → xs.length ≤ l.length := fun dn rest o xs hl hlen => by rw [hl, ← hlen]; simp
  have hpq : ∀ (s sA : St) (xs : Ents), xs.length ≤ l.length → s.hp = s0.hp → { s with hp := pickU ((ancs pre).getD (usOf xs).length []) (usOf xs) ++ s.hp } = sA → sA.fr = s.fr ∧ sA.hp = (mk ((ancs pre).getD xs.length []) 0 l xs s0).hp := fun s sA xs hx hh hs => by
    subst hs
    refine ⟨rfl, ?_⟩
    show pickU _ _ ++ s.hp = _
    rw [hh, mk_pick _ l s0 xs hx, usOf_len]
  induction h with
  | @nil U sd s hk =>
    intro dn xs hl hlen hnt hnx hsd hh hU hf
    subst hU
    have hx : xs.length ≤ l.length := by rw [hl, ← hlen]; simp
    refine .nil ⟨{ s with hp := (usOf xs).flatten ++ s.hp }, ⟨fun t => (hf t).symm, fun b => ?_, by show _ = s.nt; rw [hnt]; exact (mk_nt _ _ _ _ _).1⟩, hnx, hk⟩
    show lk _ b = lk ((usOf xs).flatten ++ s.hp) b
    rw [mk_pick _ l s0 xs hx, pick_all _ _ (by rw [usOf_len]; exact hx), hh]
  | @op dst op g rest U sd s sA e hs hd hg he hc hn hk _ ih =>
    intro dn xs hl hlen hnt hnx hsd hh hU hf
    subst hsd hU
    obtain ⟨q1, q2⟩ := hpq s sA xs (hle dn rest _ xs hl hlen) hh hs
    have hask := ask dn rest ⟨dst, op, g⟩ xs hl hlen
    have hsub : Sub op sA (mk ((ancs pre).getD xs.length []) 0 l xs s0) := by
      refine ⟨fun y hy => ?_, fun b o hb => by rw [← q2]; exact hb⟩
      cases y with
      | tmp t => show lk _ t = lk _ t; rw [hask t (temps_op (o := ⟨dst, op, g⟩) (by simpa using hy)), ← hf t, q1]
      | _ => rfl
    obtain ⟨ca, ct⟩ := chk_at (ancs_lt hp) hk
    refine .op (e := e) (by unfold dstOk at hd ⊢; rw [← hnt]; exact hd) (guard s xs g (fun t w hgt => ?_) hg) (.inl (effect_mono hsub he)) hc hn ca ct
      (ih (dn ++ [⟨dst, op, g⟩]) (xs ++ [some e]) (by rw [hl]; simp) (by simp [hlen]) hnt hnx (by unfold seedOf; simp; omega) hh (by rw [usOf_snoc]; rfl) (fun t => ?_))
    · rw [hask t (temps_g (o := ⟨dst, op, g⟩) (by rw [hgt])), ← hf t]
    · rw [putfr, behind dn rest ⟨dst, op, g⟩ xs _ hl hlen t, hf t]; rfl
  | @call dst f args ts g rest U sd s sA vs ds r v ups n hs hd hg hv ha hc hfl hr hc14 hn hk _ ih =>
    intro dn xs hl hlen hnt hnx hsd hh hU hf
    subst hsd hU
    obtain ⟨q1, q2⟩ := hpq s sA xs (hle dn rest _ xs hl hlen) hh hs
    have hask := ask dn rest ⟨dst, .call ⟨.value (.func f), args, ts⟩, g⟩ xs hl hlen
    have hev : ∀ y ∈ args.toList, evO (mk ((ancs pre).getD xs.length []) 0 l xs s0) y = evO sA y := fun y hy => by
      cases y with
      | tmp t => show lk _ t = lk _ t; rw [hask t (temps_op (o := ⟨dst, .call ⟨.value (.func f), args, ts⟩, g⟩) (by simp [Op.operands, Call.operands]; simpa using hy)), ← hf t, q1]
      | _ => rfl
    obtain ⟨ca, ct⟩ := chk_at (e := ⟨some v, ups, n - seedOf s0 xs.length⟩) (ancs_lt hp) hk
    refine .op (e := ⟨some v, ups, n - seedOf s0 xs.length⟩) (by unfold dstOk at hd ⊢; rw [← hnt]; exact hd) (guard s xs g (fun t w hgt => ?_) hg) (.inr ⟨f, args, ts, vs, ds, r, rfl, by rw [evL_cong hev]; exact hv, by rw [← q2]; exact ha, hc, hfl, by rw [hr]⟩) hc14 hn ca ct
      (ih (dn ++ [⟨dst, .call ⟨.value (.func f), args, ts⟩, g⟩]) (xs ++ [some ⟨some v, ups, n - seedOf s0 xs.length⟩]) (by rw [hl]; simp) (by simp [hlen]) hnt hnx (by unfold seedOf; simp; omega) hh (by rw [usOf_snoc]; rfl) (fun t => ?_))
    · rw [hask t (temps_g (o := ⟨dst, .call ⟨.value (.func f), args, ts⟩, g⟩) (by rw [hgt])), ← hf t]
    · rw [putfr, behind dn rest ⟨dst, .call ⟨.value (.func f), args, ts⟩, g⟩ xs _ hl hlen t, hf t]; rfl
  | @off dst op t w rest U sd s hd hb _ ih =>
    intro dn xs hl hlen hnt hnx hsd hh hU hf
    subst hsd hU
    have hask := ask dn rest ⟨dst, op, some (t, w)⟩ xs hl hlen
    refine .off (by unfold dstOk at hd ⊢; rw [← hnt]; exact hd) (offB_cong (s := s) ((hf t).trans (hask t (temps_g (o := ⟨dst, op, some (t, w)⟩) rfl)).symm) hb) (ih (dn ++ [⟨dst, op, some (t, w)⟩]) (xs ++ [none]) (by rw [hl]; simp) (by simp [hlen]) hnt hnx (by unfold seedOf; simp; omega) hh (by rw [usOf_snoc]; rfl) (fun t' => ?_))
    rw [show (skip1 s dst) = put1 s dst (some (.tup [])) [] s.nx from rfl, putfr, behind dn rest ⟨dst, op, some (t, w)⟩ xs _ hl hlen t', hf t']; rfl
  | @know l' U sd s b t hb _ _ iht ihf =>
    intro dn xs hl hlen hnt hnx hsd hh hU hf
    have key : ∀ t', lk ((t, vv (.bool b)) :: s.fr) t' = lk s.fr t' := fun t' => by
      rw [lk_cons]
      by_cases he : t = t'
      · subst he
        rw [if_pos rfl]
        unfold boolV at hb
        split at hb
        · rename_i b' hb'
          cases hb
          exact hb'.symm
        · cases hb
      · rw [if_neg he]
    cases b with
    | true => exact iht rfl dn xs hl hlen hnt hnx hsd hh hU fun t' => (key t').trans (hf t')
    | false => exact ihf rfl dn xs hl hlen hnt hnx hsd hh hU fun t' => (key t').trans (hf t')
end
end Go.Proofs.Ytmhnogmbpoeaeaa.Eng
namespace Go.Proofs.Ytmhnogmbpoeaeaa.Eng
set_option linter.all false
noncomputable section
open Go.RowKit

section
variable {P : Program} {U : Nat → Prop} {w0 : Base} {N : Nat → Prop} {s : St} {a : Act} {w : World} {ι : Nat → Option Nat}
/-- Objects are dropped. -/
theorem Rel.drop (h : Rel U w0 N s a w ι) {hp' : List (Nat × Ob)} (hh : ∀ b o, lk hp' b = some o → lk s.hp b = some o) : Rel U w0 N { s with hp := hp' } a w ι ∧ Step (env U N s w ι) (env U N { s with hp := hp' } w ι) := by
  have hs : Step (env U N s w ι) (env U N { s with hp := hp' } w ι) := by
    refine ⟨fun b hb => ⟨hb.1, hb.2.1, fun b' o hb' hm => hb.2.2 b' o (hh b' o hb') hm⟩, fun _ _ => rfl, fun _ h => h, fun b sz es fz hN hb => ⟨sz, es, fz, hh b _ hb, .inl ⟨.inr rfl, rfl, rfl, fun _ _ cur ty hh => ⟨cur, hh, rfl⟩⟩⟩, fun b cs hN hb => ⟨cs, hh b _ hb, rfl⟩, fun b kd kv hN hb => ⟨kv, hh b _ hb, rfl⟩⟩
  refine ⟨h.change (nx' := s.nx) hs h.gr (fun b o hb => ?_) (fun b b' o o' g h1 h2 => h.inj b b' o o' g (hh b o h1) (hh b' o' h2)), hs⟩
  obtain ⟨hN, hr⟩ := h.ob b o (hh b o hb)
  exact ⟨hN, RepO.keep hs rfl (fun _ _ => rfl) hr⟩
end
/-- What is no longer wanted is dropped. -/
def Slim (s0 s : St) : Prop := (∀ t x, lk s0.fr t = some x → lk s.fr t = some x) ∧ (∀ b o, lk s0.hp b = some o → lk s.hp b = some o) ∧ s0.nx = s.nx ∧ s0.nt = s.nt
theorem RS.slim {U : Nat → Prop} {w0 : Base} {s s0 : St} {a : Act} {w : World} (hs : Slim s0 s) (h : RS U w0 s a w) : RS U w0 s0 a w := by
  obtain ⟨ι, h⟩ := h
  obtain ⟨h1, h2, h3, h4⟩ := hs
  obtain ⟨fr0, hp0, nx0, nt0⟩ := s0
  obtain ⟨fr, hp, nx, nt⟩ := s
  dsimp at h1 h2 h3 h4
  subst h3 h4
  have hd := (Rel.drop h h2).1
  exact ⟨ι, fun t x ht => hd.fr t x (h1 t x ht), hd.ob, hd.inj, hd.gr, hd.nt, hd.df, hd.st⟩
/-- Operations that only tell: they lay nothing. -/
def tells : Op → Bool
  | .extract _ _ => true
  | .load _ _ => true
  | _ => false
theorem tells_ups {P : Program} {s : St} {seed : Nat} {op : Op} {e : Eff} (h : tells op = true) (he : effect P s seed op = some e) : e.ups = [] := by
  cases op with
  | extract x k =>
    simp only [effect] at he
    split at he
    · simp only [Option.map_eq_some_iff] at he
      obtain ⟨_, _, rfl⟩ := he
      rfl
    · cases he
  | load t x =>
    simp only [effect, load1] at he
    split at he
    · simp only [Option.bind_eq_some_iff, Option.map_eq_some_iff] at he
      obtain ⟨_, _, _, _, rfl⟩ := he
      rfl
    · cases he
  | _ => simp [tells] at h
/-- What is to be shown of a piece of code. -/
inductive Awp (W : Prop) (P : Program) : SC → (Exit → St → Prop) → St → Prop
  | skip {Q s} (h : Q .normal s) : Awp W P .skip Q s
  | reg {l Q s} (h : RegA W P (Q .normal) l s) : Awp W P (.reg l) Q s
  | seq {x y Q s} (K : St → Prop) (hK : ∀ s', K s' → Awp W P y Q s') (h : Awp W P x (thenQ K Q) s) : Awp W P (.seq x y) Q s
  | cond {c x y Q s b} (hc : evP s c = some (.bool b)) (ht : b = true → Awp W P x Q s) (hf : b = false → Awp W P y Q s) : Awp W P (.cond c x y) Q s
  | block {id c Q s} (h : Awp W P c (blockQ id Q) s) : Awp W P (.block id c) Q s
  | loop {c Q s} {α : Type} (I : α → St) (μ : α → Nat) (x0 : α) (ρ : List (Nat × Nat)) (hw : Wk (rho ρ) (I x0) s)
      (h : ∀ x, Awp W P c (thenQ (fun s' => ∃ y ρ, Wk (rho ρ) (I y) s' ∧ μ y < μ x) Q) (I x)) (hW : W := by trivial) : Awp W P (.loop c) Q s
  | scope {c Q s} (h : Awp W P c (scopeQ Q) s) : Awp W P (.scope c) Q s
  | draw {l pre Q s} (hp : preOk pre = true) (hd : drawOk l (ancs pre) = true) (h : DrawA P (Q .normal) s (ancs pre) l l []) : Awp W P (.draw l pre) Q s
  | drawT {l tl pre Q s} (hp : preOk pre = true) (hd : drawOk l (ancs pre) = true) (ht : tailOk l.length tl.length (ancs pre) = true) (h : DrawA P (fun s' => RegA W P (Q .normal) tl s') s (ancs pre) l l []) : Awp W P (.draw (l ++ tl) pre) Q s
  | drawP {l tl pre Q s} (hp : preOk pre = true) (hd : drawOk l (ancs pre) = true) (ht : tailOk l.length tl.length (ancs pre) = true) (h : DrawP P (fun s' => RegA W P (Q .normal) tl s') l { s with nx := s.nx + 16 * l.length }) : Awp W P (.draw (l ++ tl) pre) Q s
  | drawN {l tl pre Q s} (hp : preOk pre = true) (hd : drawOk l (ancs pre) = true) (ht : tailOk l.length tl.length (ancs pre) = true) (h : DrawN P (fun s' => RegA W P (Q .normal) tl s') l [] s.nx { s with nx := s.nx + 16 * l.length }) : Awp W P (.draw (l ++ tl) pre) Q s
  | drawM {l tl pre Q s} (hp : preOk pre = true) (hd : drawOk l (ancs pre) = true) (ht : tailOk l.length tl.length (ancs pre) = true) (h : DrawM P (fun s' => RegA W P (Q .normal) tl s') s.nx (ancs pre) l [] s.nx { s with nx := s.nx + 16 * l.length }) : Awp W P (.draw (l ++ tl) pre) Q s
  | drawS {l o1 tl p d x k pre Q s} (hp : preOk pre = true) (hd : drawOk l (ancs pre) = true) (hs : sideOk l.length p tl.length (ancs pre) = true) (hpd : l[p]? = some ⟨some d, .extract x k, none⟩)
      (h : DrawA P (fun s' => ∃ sf, Q .normal sf ∧ RegA W P (fun s1 => Slim sf s1) (o1 :: tl) s' ∧ RegA W P (fun s1 => Slim sf s1) (o1 :: ⟨some d, .extract x k, none⟩ :: tl) { s' with fr := del s'.fr d }) s (ancs pre) l l []) : Awp W P (.draw (l ++ o1 :: tl) pre) Q s
  | drawQ {l o1 tl p d oq pre Q s} (hp : preOk pre = true) (hd : drawOk l (ancs pre) = true) (hs : sideOk l.length p tl.length (ancs pre) = true) (hte : tells oq = true) (hpd : l[p]? = some ⟨some d, oq, none⟩)
      (h : DrawP P (fun s' => ∃ sf, Q .normal sf ∧ RegA W P (fun s1 => Slim sf s1) (o1 :: tl) s' ∧ RegA W P (fun s1 => Slim sf s1) (o1 :: ⟨some d, oq, none⟩ :: tl) { s' with fr := del s'.fr d }) l { s with nx := s.nx + 16 * l.length }) : Awp W P (.draw (l ++ o1 :: tl) pre) Q s
  | exit {id Q s} (h : Q (.exit id) s) : Awp W P (.exit id) Q s
  | goto {l Q s} (h : Q (.goto l) s) : Awp W P (.goto l) Q s
  | ret {Q s} (h : Q .ret s) : Awp W P .ret Q s
  | slim {c Q s s0} (hs : Slim s0 s) (h : Awp W P c Q s0) : Awp W P c Q s
  | weak {c Q s s0} (ρ : List (Nat × Nat)) (hw : Wk (rho ρ) s0 s) (h : Awp W P c Q s0) (hW : W := by trivial) : Awp W P c Q s
theorem awp_seq {W : Prop} {P : Program} {x y : SC} {Q : Exit → St → Prop} {s : St} (h : ∀ K, (∀ s', Awp W P y Q s' → K s') → Awp W P x (thenQ K Q) s) : Awp W P (.seq x y) Q s :=
  .seq (Awp W P y Q) (fun _ h => h) (h _ fun _ h => h)

section
variable {P : Program} {U : Nat → Prop} {w0 : Base}
theorem awp_sound {W : Prop} (hfree : W → w0.free) (hm : P.follows .mixedOrders = true) (hU : ∀ b, w0.w.heap.size ≤ b → U b) {sc : SC} {Q : Exit → St → Prop} {s : St} (hA : Awp W P sc Q s) : ∀ (c : Code) (_ : slim c = some sc) (Q' : Exit → Act → World → Prop) (a : Act) (w : World),
    (∀ e s a w, Q e s → RS U w0 s a w → Q' e a w) → RS U w0 s a w → c.wp P Q' a w := by
  induction hA with
  | skip hk =>
    intro c hs Q' a w hQ h
    cases c with
    | skip => exact wp_skip (hQ _ _ _ _ hk h)
    | label l => exact wp_label (hQ _ _ _ _ hk h)
    | region id ops draw => simp only [slim] at hs; split at hs <;> (try split at hs) <;> simp at hs
    | seq x y => simp only [slim] at hs; split at hs <;> simp at hs
    | cond c x y => simp only [slim] at hs; split at hs <;> simp at hs
    | _ => simp [slim] at hs
  | @reg l Q s hr =>
    intro c hs Q' a w hQ h
    cases c with
    | region id ops draw =>
      simp only [slim] at hs
      split at hs
      · rename_i l' hl
        cases draw with
        | true => simp at hs
        | false =>
          simp only [Bool.false_eq_true, if_false, Option.some.injEq, SC.reg.injEq] at hs
          subst hs
          exact wp_region_list (regA_sound hfree hU (fun s' a' w' hk hr => hQ _ _ _ _ hk hr) hr (slimR_ok hl) a w h)
      · cases hs
    | seq x y => simp only [slim] at hs; split at hs <;> simp at hs
    | cond c x y => simp only [slim] at hs; split at hs <;> simp at hs
    | _ => simp [slim] at hs
  | @seq x y Q s K hK _ ihK ih =>
    intro c hs Q' a w hQ h
    cases c with
    | seq cx cy =>
      simp only [slim] at hs
      split at hs
      · rename_i x' y' h1 h2
        cases hs
        refine wp_seq (ih cx h1 _ a w (fun e s a w hq hr => ?_) h)
        cases e with
        | normal => exact ihK _ hq cy h2 _ a w hQ hr
        | _ => exact hQ _ _ _ _ hq hr
      · cases hs
    | region id ops draw => simp only [slim] at hs; split at hs <;> (try split at hs) <;> simp at hs
    | cond c x y => simp only [slim] at hs; split at hs <;> simp at hs
    | _ => simp [slim] at hs
  | @cond c x y Q s b hc _ _ iht ihf =>
    intro code hs Q' a w hQ h
    cases code with
    | cond c' cx cy =>
      simp only [slim] at hs
      split at hs
      · rename_i x' y' h1 h2
        cases hs
        have h' := h
        obtain ⟨ι, hr⟩ := h
        have hcv : a.eval c = .bool b := hr.evP hc
        cases b with
        | true => exact wp_cond_true hcv (iht rfl cx h1 _ a w hQ h')
        | false => exact wp_cond_false hcv (ihf rfl cy h2 _ a w hQ h')
      · cases hs
    | region id ops draw => simp only [slim] at hs; split at hs <;> (try split at hs) <;> simp at hs
    | seq x y => simp only [slim] at hs; split at hs <;> simp at hs
    | _ => simp [slim] at hs
  | @block id c Q s _ ih =>
    intro code hs Q' a w hQ h
    cases code with
    | block id' c' =>
      simp only [slim, Option.map_eq_some_iff, SC.block.injEq] at hs
      obtain ⟨sc', h1, rfl, rfl⟩ := hs
      refine wp_block (ih c' h1 _ a w (fun e s a w hq hr => ?_) h)
      cases e with
      | exit id' =>
        simp only [blockQ] at hq
        simp only [Exit.inBlock]
        split at hq
        · rename_i he; rw [if_pos he]; exact hQ _ _ _ _ hq hr
        · rename_i he; rw [if_neg he]; exact hQ _ _ _ _ hq hr
      | _ => exact hQ _ _ _ _ hq hr
    | region id ops draw => simp only [slim] at hs; split at hs <;> (try split at hs) <;> simp at hs
    | seq x y => simp only [slim] at hs; split at hs <;> simp at hs
    | cond c x y => simp only [slim] at hs; split at hs <;> simp at hs
    | _ => simp [slim] at hs
  | @loop c Q s α I μ x0 ρ hw _ hW ih =>
    intro code hs Q' a w hQ h
    cases code with
    | loop c' =>
      simp only [slim, Option.map_eq_some_iff, SC.loop.injEq] at hs
      obtain ⟨sc', hsc, rfl⟩ := hs
      have key : ∀ n (x : α) a w, μ x = n → RS U w0 (I x) a w → ∀ (b : Frame) (k : List Item) (cs : List Frame), ∃ e a' w', Q' e a' w' ∧ Arrives P (lone (b.at a (.code c' :: .inLoop c' :: k)) cs w) b k cs e a' w' := by
        intro n
        induction n using Nat.strongRecOn with
        | _ n ihn =>
          intro x a w hn hr b k cs
          have hround := ih x c' hsc (Exit.then (fun a' w' => ∃ y, RS U w0 (I y) a' w' ∧ μ y < n) Q') a w (fun e s a w hq hr => by
            cases e with
            | normal =>
              obtain ⟨y, ρ, hw, hlt⟩ := hq
              exact ⟨y, RS.weak (hfree hW) hw hr, hn ▸ hlt⟩
            | _ => exact hQ _ _ _ _ hq hr) hr
          obtain ⟨e, a₁, w₁, hq, harr⟩ := hround b (.inLoop c' :: k) cs
          cases e with
          | normal =>
            obtain ⟨y, hr1, hlt⟩ := hq
            obtain ⟨e₂, a₂, w₂, hq₂, harr₂⟩ := ihn (μ y) hlt y a₁ w₁ rfl hr1 b k cs
            exact ⟨e₂, a₂, w₂, hq₂, .of_steps (Steps.trans harr (.one step_inLoop)) harr₂⟩
          | exit id => exact ⟨_, a₁, w₁, hq, .pass (x := .inLoop c') rfl (fun _ _ => .inl (by simp)) harr⟩
          | goto l => exact ⟨_, a₁, w₁, hq, .pass (x := .inLoop c') rfl (fun _ _ => .inl (by simp)) harr⟩
          | ret => exact ⟨_, a₁, w₁, hq, .pass (x := .inLoop c') rfl (fun _ _ => .inl (by simp)) harr⟩
          | panic ch => exact ⟨_, a₁, w₁, hq, .pass (x := .inLoop c') rfl (fun _ _ => .inl (by simp)) harr⟩
          | outgrown => exact ⟨_, a₁, w₁, hq, .pass (x := .inLoop c') rfl (fun _ _ => .inl (by simp)) harr⟩
      intro b k cs
      obtain ⟨e, a', w', hq, harr⟩ := key _ x0 a w rfl (RS.weak (hfree hW) hw h) b k cs
      exact ⟨e, a', w', hq, .of_steps (.one step_loop) harr⟩
    | region id ops draw => simp only [slim] at hs; split at hs <;> (try split at hs) <;> simp at hs
    | seq x y => simp only [slim] at hs; split at hs <;> simp at hs
    | cond c x y => simp only [slim] at hs; split at hs <;> simp at hs
    | _ => simp [slim] at hs
  | @scope c Q s _ ih =>
    intro code hs Q' a w hQ h
    cases code with
    | scope c' =>
      simp only [slim, Option.map_eq_some_iff, SC.scope.injEq] at hs
      obtain ⟨sc', h1, rfl⟩ := hs
      refine wp_scope_straight (ih c' h1 _ a w (fun e s a w hq hr => ?_) h)
      cases e with
      | goto l => exact hq
      | _ => exact hQ _ _ _ _ hq hr
    | region id ops draw => simp only [slim] at hs; split at hs <;> (try split at hs) <;> simp at hs
    | seq x y => simp only [slim] at hs; split at hs <;> simp at hs
    | cond c x y => simp only [slim] at hs; split at hs <;> simp at hs
    | _ => simp [slim] at hs
  | @exit id Q s hk =>
    intro c hs Q' a w hQ h
    cases c with
    | exit id' => simp only [slim, Option.some.injEq, SC.exit.injEq] at hs; subst hs; exact wp_exit (hQ _ _ _ _ hk h)
    | region id ops draw => simp only [slim] at hs; split at hs <;> (try split at hs) <;> simp at hs
    | seq x y => simp only [slim] at hs; split at hs <;> simp at hs
    | cond c x y => simp only [slim] at hs; split at hs <;> simp at hs
    | _ => simp [slim] at hs
  | @goto l Q s hk =>
    intro c hs Q' a w hQ h
    cases c with
    | goto l' => simp only [slim, Option.some.injEq, SC.goto.injEq] at hs; subst hs; exact wp_goto (hQ _ _ _ _ hk h)
    | region id ops draw => simp only [slim] at hs; split at hs <;> (try split at hs) <;> simp at hs
    | seq x y => simp only [slim] at hs; split at hs <;> simp at hs
    | cond c x y => simp only [slim] at hs; split at hs <;> simp at hs
    | _ => simp [slim] at hs
  | @ret Q s hk =>
    intro c hs Q' a w hQ h
    cases c with
    | ret => exact wp_ret (hQ _ _ _ _ hk h)
    | region id ops draw => simp only [slim] at hs; split at hs <;> (try split at hs) <;> simp at hs
    | seq x y => simp only [slim] at hs; split at hs <;> simp at hs
    | cond c x y => simp only [slim] at hs; split at hs <;> simp at hs
    | _ => simp [slim] at hs
  | @draw l pre Q s hp hd hr =>
    intro c hs Q' a w hQ h
    cases c with
    | region id ops draw =>
      simp only [slim] at hs
      split at hs
      · rename_i l' hl
        cases draw with
        | false => simp at hs
        | true =>
          simp only [if_true, Option.some.injEq, SC.draw.injEq] at hs
          obtain ⟨rfl, hpre⟩ := hs
          obtain ⟨xs, hlen, hE, hC, hK⟩ := draw_ents hp hr
          have hT : Trace P s pre l' xs := ⟨hlen, hE, fun i j o o' t hi hj h1 h2 => drawOk_uniq hd hi hj h1 h2, fun i j o o' t hi hj h1 h2 hne => drawOk_cmp hd hi hj h1 h2 hne, hC⟩
          obtain ⟨ι, h⟩ := h
          refine wp_region_any hm ?_
          have hset : setOf ops.size (Array.replicate ops.size false) = [] := by
            unfold setOf
            refine List.filter_eq_nil_iff.2 fun j hj => ?_
            have : j < ops.size := by simpa using hj
            simp [this]
          have hmk : Like s (mk [] 0 l' xs s) := by
            refine ⟨fun t => (mk_fr_old [] t l' xs 0 s (fun _ _ _ hc => by simp at hc)).symm, fun b => (mk_hp_old [] b l' xs 0 s (fun _ _ _ _ hc => by simp at hc)).symm, (mk_nt _ _ _ _ _).1.symm⟩
          have hw : Rel U w0 (Lt s.nx) s a { w with drawn := w.drawn + 1 } ι := h.world (Gr.refl w).drew (fun _ _ h => h)
          refine draw_any hT hp hpre.symm hU (fun b o hb => (h.ob b o hb).1) (slimR_ok hl) (fun a' w' hr' => hQ _ _ _ _ hK hr') ops.size _ a _ ι (by simp) ?_ ?_ ?_
          · unfold left
            exact Nat.le_trans (List.countP_le_length) (by simp)
          · intro k hk
            rw [hset] at hk
            cases hk
          · rw [hset]
            exact ((hw.like hmk).weakN (nx' := (mk [] 0 l' xs s).nx) fun b hb => .inl hb)
      · cases hs
    | seq x y => simp only [slim] at hs; split at hs <;> simp at hs
    | cond c x y => simp only [slim] at hs; split at hs <;> simp at hs
    | _ => simp [slim] at hs
  | @drawT l tl pre Q s hp hd ht hr =>
    intro c hs Q' a w hQ h
    cases c with
    | region id ops draw =>
      simp only [slim] at hs
      split at hs
      · rename_i l' hl
        cases draw with
        | false => simp at hs
        | true =>
          simp only [if_true, Option.some.injEq, SC.draw.injEq] at hs
          obtain ⟨hll, hpre⟩ := hs
          subst hll
          obtain ⟨xs, hlen, hE, hC, hK⟩ := draw_ents hp hr
          have hT : Trace P s pre l xs := ⟨hlen, hE, fun i j o o' t hi hj h1 h2 => drawOk_uniq hd hi hj h1 h2, fun i j o o' t hi hj h1 h2 hne => drawOk_cmp hd hi hj h1 h2 hne, hC⟩
          obtain ⟨ι, h⟩ := h
          refine wp_region_any hm ?_
          have hset : setOf l.length (Array.replicate ops.size false) = [] := by
            unfold setOf
            refine List.filter_eq_nil_iff.2 fun j hj => ?_
            cases hd : (Array.replicate ops.size false).getD j false with
            | false => simp
            | true => simp [Array.getD] at hd
          have hmk : Like s (mk [] 0 l xs s) := by
            refine ⟨fun t => (mk_fr_old [] t l xs 0 s (fun _ _ _ hc => by simp at hc)).symm, fun b => (mk_hp_old [] b l xs 0 s (fun _ _ _ _ hc => by simp at hc)).symm, (mk_nt _ _ _ _ _).1.symm⟩
          have hw : Rel U w0 (Lt s.nx) s a { w with drawn := w.drawn + 1 } ι := h.world (Gr.refl w).drew (fun _ _ h => h)
          have hsl := slimR_ok hl
          have htl : All2 (SOk ops) (ops.toList.drop l.length) tl := by
            have := hsl.drop l.length
            rwa [List.drop_left] at this
          refine draw_anyT hT hp hpre.symm hU (fun b o hb => (h.ob b o hb).1) hsl ht (fun a' w' hr' => regA_sound hfree hU (fun s' a' w' hk hr => hQ _ _ _ _ hk hr) hK htl a' w' hr') ops.size _ a _ ι (by simp) ?_ (fun j hj => ?_) ?_ ?_
          · unfold left
            exact Nat.le_trans (List.countP_le_length) (by simp)
          · cases hd : (Array.replicate ops.size false).getD j false with
            | false => rfl
            | true => simp [Array.getD] at hd
          · intro k hk
            rw [hset] at hk
            cases hk
          · rw [hset]
            exact ((hw.like hmk).weakN (nx' := (mk [] 0 l xs s).nx) fun b hb => .inl hb)
      · cases hs
    | seq x y => simp only [slim] at hs; split at hs <;> simp at hs
    | cond c x y => simp only [slim] at hs; split at hs <;> simp at hs
    | _ => simp [slim] at hs
  | @drawS l o1 tl p d x k pre Q s hp hd hsd hpd hr =>
    intro c hs Q' a w hQ h
    cases c with
    | region id ops draw =>
      simp only [slim] at hs
      split at hs
      · rename_i l' hl
        cases draw with
        | false => simp at hs
        | true =>
          simp only [if_true, Option.some.injEq, SC.draw.injEq] at hs
          obtain ⟨hll, hpre⟩ := hs
          subst hll
          obtain ⟨xs, hlen, hE, hC, hK⟩ := draw_ents hp hr
          have hT : Trace P s pre l xs := ⟨hlen, hE, fun i j o o' t hi hj h1 h2 => drawOk_uniq hd hi hj h1 h2, fun i j o o' t hi hj h1 h2 hne => drawOk_cmp hd hi hj h1 h2 hne, hC⟩
          obtain ⟨ι, h⟩ := h
          refine wp_region_any hm ?_
          have hset : setOf l.length (Array.replicate ops.size false) = [] := by
            unfold setOf
            refine List.filter_eq_nil_iff.2 fun j hj => ?_
            cases hd : (Array.replicate ops.size false).getD j false with
            | false => simp
            | true => simp [Array.getD] at hd
          have hmk : Like s (mk [] 0 l xs s) := by
            refine ⟨fun t => (mk_fr_old [] t l xs 0 s (fun _ _ _ hc => by simp at hc)).symm, fun b => (mk_hp_old [] b l xs 0 s (fun _ _ _ _ hc => by simp at hc)).symm, (mk_nt _ _ _ _ _).1.symm⟩
          have hw : Rel U w0 (Lt s.nx) s a { w with drawn := w.drawn + 1 } ι := h.world (Gr.refl w).drew (fun _ _ h => h)
          have hsl := slimR_ok hl
          obtain ⟨sf, hq, hr1, hr2⟩ := hK
          obtain ⟨q1, q2, q3, q4⟩ := sideOk_spec hsd
          have htl : All2 (SOk ops) (ops.toList.drop l.length) (o1 :: tl) := by
            have := hsl.drop l.length
            rwa [List.drop_left] at this
          have htl2 : All2 (SOk ops) (ops.toList.drop (l.length + 1)) tl := by
            have := htl.drop 1
            rw [List.drop_drop] at this
            exact this
          have hQn : ∀ s' a' w', Slim sf s' → RS U w0 s' a' w' → Q' .normal a' w' := fun s' a' w' hk hr => hQ _ _ _ _ hq (RS.slim hk hr)
          have hjl : p < l.length := q1
          have hxp : xs[p]? = some xs[p] := List.getElem?_eq_getElem (by rw [hlen]; exact hjl)
          have hent := hT.ent p _ _ hpd hxp
          have hups : upsOf xs[p] = [] := by
            obtain ⟨_, hent⟩ := hent
            cases hxe : xs[p] with
            | none => rfl
            | some e =>
              rw [hxe] at hent
              obtain ⟨_, hst, _⟩ := hent
              rcases hst with hst | ⟨f, args, ts, vs, ds, r, he, _⟩
              · simp only [effect] at hst
                show e.ups = []
                split at hst
                · simp only [Option.map_eq_some_iff] at hst
                  obtain ⟨_, _, rfl⟩ := hst
                  rfl
                · cases hst
              · cases he
          have hlike := like_step hT hpd hxp (X := butP l.length p) (X' := allIn l.length) (by simp [butP]) (fun i => by
            simp only [butP, allIn, List.mem_filter, List.mem_range, bne_iff_ne, ne_eq]
            by_cases he : i = p
            · subst he; simp [hjl]
            · simp [he]) (fun b hb => absurd (by rw [hups]; rfl) hb)
          have hslim : Slim { mk (allIn l.length) 0 l xs s with nx := s.nx + 16 * l.length, fr := del (mk (allIn l.length) 0 l xs s).fr d } { mk (butP l.length p) 0 l xs s with nx := s.nx + 16 * l.length } := by
            refine ⟨fun t y ht => ?_, fun b o hb => ?_, rfl, ?_⟩
            · replace ht : lk (del (mk (allIn l.length) 0 l xs s).fr d) t = some y := ht
              rw [lk_del] at ht
              split at ht
              · cases ht
              · rename_i hne
                rw [← hlike.fr t, entSt_fr, if_neg (by simpa using hne)] at ht
                exact ht
            · replace hb : lk (mk (allIn l.length) 0 l xs s).hp b = some o := hb
              rw [← hlike.hp b, entSt_hp, hups] at hb
              exact hb
            · show (mk (allIn l.length) 0 l xs s).nt = (mk (butP l.length p) 0 l xs s).nt
              rw [(mk_nt _ _ _ _ _).1, (mk_nt _ _ _ _ _).1]
          refine draw_anyS hT hp hpre.symm hU (fun b o hb => (h.ob b o hb).1) hsl hsd (fun om op a' w' hom hop hr' => ?_) (fun a' w' hr' => regA_sound hfree hU hQn hr1 htl a' w' hr') ops.size _ a _ ι (by simp) ?_ (fun j hj => ?_) ?_ ?_
          · obtain ⟨so, hso, hsok⟩ := all2_get hsl (j := l.length) (x := om) (by simpa using hom)
            have e1 : so = o1 := by
              rw [List.getElem?_append_right (Nat.le_refl _), Nat.sub_self] at hso
              simpa using hso.symm
            obtain ⟨so2, hso2, hsok2⟩ := all2_get hsl (j := p) (x := op) (by simpa using hop)
            have e2 : so2 = ⟨some d, .extract x k, none⟩ := by
              rw [List.getElem?_append_left hjl, hpd] at hso2
              exact (Option.some.inj hso2).symm
            subst e1 e2
            exact regA_sound hfree hU hQn hr2 (.cons hsok (.cons hsok2 htl2)) a' w' (RS.slim hslim hr')
          · unfold left
            exact Nat.le_trans (List.countP_le_length) (by simp)
          · cases hd : (Array.replicate ops.size false).getD j false with
            | false => rfl
            | true => simp [Array.getD] at hd
          · intro k hk
            rw [hset] at hk
            cases hk
          · rw [hset]
            exact ((hw.like hmk).weakN (nx' := (mk [] 0 l xs s).nx) fun b hb => .inl hb)
      · cases hs
    | seq x y => simp only [slim] at hs; split at hs <;> simp at hs
    | cond c x y => simp only [slim] at hs; split at hs <;> simp at hs
    | _ => simp [slim] at hs
  | @drawQ l o1 tl p d oq pre Q s hp hd hsd hte hpd hr0 =>
    intro c hs Q' a w hQ h
    cases c with
    | region id ops draw =>
      simp only [slim] at hs
      split at hs
      · rename_i l' hl
        cases draw with
        | false => simp at hs
        | true =>
          simp only [if_true, Option.some.injEq, SC.draw.injEq] at hs
          obtain ⟨hll, hpre⟩ := hs
          subst hll
          have hr := drawP_A (s0 := s) hp hd hr0 [] [] rfl rfl rfl rfl (fun x hx => by cases hx) (fun _ => rfl) (fun t => by
            have e : ∀ (l : List SO), mk (allIn l.length) 0 l [] s = s := fun l => by cases l <;> rfl
            rw [e])
          obtain ⟨xs, hlen, hE, hC, s1, hlk, hnx1, hK⟩ := draw_ents hp hr
          have hT : Trace P s pre l xs := ⟨hlen, hE, fun i j o o' t hi hj h1 h2 => drawOk_uniq hd hi hj h1 h2, fun i j o o' t hi hj h1 h2 hne => drawOk_cmp hd hi hj h1 h2 hne, hC⟩
          obtain ⟨ι, h⟩ := h
          refine wp_region_any hm ?_
          have hset : setOf l.length (Array.replicate ops.size false) = [] := by
            unfold setOf
            refine List.filter_eq_nil_iff.2 fun j hj => ?_
            cases hd : (Array.replicate ops.size false).getD j false with
            | false => simp
            | true => simp [Array.getD] at hd
          have hmk : Like s (mk [] 0 l xs s) := by
            refine ⟨fun t => (mk_fr_old [] t l xs 0 s (fun _ _ _ hc => by simp at hc)).symm, fun b => (mk_hp_old [] b l xs 0 s (fun _ _ _ _ hc => by simp at hc)).symm, (mk_nt _ _ _ _ _).1.symm⟩
          have hw : Rel U w0 (Lt s.nx) s a { w with drawn := w.drawn + 1 } ι := h.world (Gr.refl w).drew (fun _ _ h => h)
          have hsl := slimR_ok hl
          obtain ⟨sf, hq, hr1, hr2⟩ := hK
          obtain ⟨q1, q2, q3, q4⟩ := sideOk_spec hsd
          have htl : All2 (SOk ops) (ops.toList.drop l.length) (o1 :: tl) := by
            have := hsl.drop l.length
            rwa [List.drop_left] at this
          have htl2 : All2 (SOk ops) (ops.toList.drop (l.length + 1)) tl := by
            have := htl.drop 1
            rw [List.drop_drop] at this
            exact this
          have hQn : ∀ s' a' w', Slim sf s' → RS U w0 s' a' w' → Q' .normal a' w' := fun s' a' w' hk hr => hQ _ _ _ _ hq (RS.slim hk hr)
          have hjl : p < l.length := q1
          have hxp : xs[p]? = some xs[p] := List.getElem?_eq_getElem (by rw [hlen]; exact hjl)
          have hent := hT.ent p _ _ hpd hxp
          have hups : upsOf xs[p] = [] := by
            obtain ⟨_, hent⟩ := hent
            cases hxe : xs[p] with
            | none => rfl
            | some e =>
              rw [hxe] at hent
              obtain ⟨_, hst, _⟩ := hent
              rcases hst with hst | ⟨f, args, ts, vs, ds, r, he, _⟩
              · exact tells_ups hte hst
              · rw [show oq = _ from he] at hte; cases hte
          have hlike := like_step hT hpd hxp (X := butP l.length p) (X' := allIn l.length) (by simp [butP]) (fun i => by
            simp only [butP, allIn, List.mem_filter, List.mem_range, bne_iff_ne, ne_eq]
            by_cases he : i = p
            · subst he; simp [hjl]
            · simp [he]) (fun b hb => absurd (by rw [hups]; rfl) hb)
          have hslim : Slim { s1 with fr := del s1.fr d } { mk (butP l.length p) 0 l xs s with nx := s.nx + 16 * l.length } := by
            refine ⟨fun t y ht => ?_, fun b o hb => ?_, hnx1, ?_⟩
            · replace ht : lk (del s1.fr d) t = some y := ht
              rw [lk_del] at ht
              split at ht
              · cases ht
              · rename_i hne
                have h1 : lk (mk (allIn l.length) 0 l xs s).fr t = lk s1.fr t := hlk.fr t
                rw [← h1, ← hlike.fr t, entSt_fr, if_neg (by simpa using hne)] at ht
                exact ht
            · replace hb : lk s1.hp b = some o := hb
              have h1 : lk (mk (allIn l.length) 0 l xs s).hp b = lk s1.hp b := hlk.hp b
              rw [← h1, ← hlike.hp b, entSt_hp, hups] at hb
              exact hb
            · have h1 : (mk (allIn l.length) 0 l xs s).nt = s1.nt := hlk.nt
              show s1.nt = (mk (butP l.length p) 0 l xs s).nt
              rw [← h1, (mk_nt _ _ _ _ _).1, (mk_nt _ _ _ _ _).1]
          refine draw_anyS hT hp hpre.symm hU (fun b o hb => (h.ob b o hb).1) hsl hsd (fun om op a' w' hom hop hr' => ?_) (fun a' w' hr' => regA_sound hfree hU hQn hr1 htl a' w' (by
            obtain ⟨ι', hr'⟩ := hr'
            have := hr'.like hlk
            exact ⟨ι', by rw [hnx1]; exact this⟩)) ops.size _ a _ ι (by simp) ?_ (fun j hj => ?_) ?_ ?_
          · obtain ⟨so, hso, hsok⟩ := all2_get hsl (j := l.length) (x := om) (by simpa using hom)
            have e1 : so = o1 := by
              rw [List.getElem?_append_right (Nat.le_refl _), Nat.sub_self] at hso
              simpa using hso.symm
            obtain ⟨so2, hso2, hsok2⟩ := all2_get hsl (j := p) (x := op) (by simpa using hop)
            have e2 : so2 = ⟨some d, oq, none⟩ := by
              rw [List.getElem?_append_left hjl, hpd] at hso2
              exact (Option.some.inj hso2).symm
            subst e1 e2
            exact regA_sound hfree hU hQn hr2 (.cons hsok (.cons hsok2 htl2)) a' w' (RS.slim hslim hr')
          · unfold left
            exact Nat.le_trans (List.countP_le_length) (by simp)
          · cases hd : (Array.replicate ops.size false).getD j false with
            | false => rfl
            | true => simp [Array.getD] at hd
          · intro k hk
            rw [hset] at hk
            cases hk
          · rw [hset]
            exact ((hw.like hmk).weakN (nx' := (mk [] 0 l xs s).nx) fun b hb => .inl hb)
      · cases hs
    | seq x y => simp only [slim] at hs; split at hs <;> simp at hs
    | cond c x y => simp only [slim] at hs; split at hs <;> simp at hs
    | _ => simp [slim] at hs
  | @drawP l tl pre Q s hp hd ht hr0 =>
    intro c hs Q' a w hQ h
    cases c with
    | region id ops draw =>
      simp only [slim] at hs
      split at hs
      · rename_i l' hl
        cases draw with
        | false => simp at hs
        | true =>
          simp only [if_true, Option.some.injEq, SC.draw.injEq] at hs
          obtain ⟨hll, hpre⟩ := hs
          subst hll
          have hr := drawP_A (s0 := s) hp hd hr0 [] [] rfl rfl rfl rfl (fun x hx => by cases hx) (fun _ => rfl) (fun t => by
            have e : ∀ (l : List SO), mk (allIn l.length) 0 l [] s = s := fun l => by cases l <;> rfl
            rw [e])
          obtain ⟨xs, hlen, hE, hC, s1, hlk, hnx1, hK⟩ := draw_ents hp hr
          have hT : Trace P s pre l xs := ⟨hlen, hE, fun i j o o' t hi hj h1 h2 => drawOk_uniq hd hi hj h1 h2, fun i j o o' t hi hj h1 h2 hne => drawOk_cmp hd hi hj h1 h2 hne, hC⟩
          obtain ⟨ι, h⟩ := h
          refine wp_region_any hm ?_
          have hset : setOf l.length (Array.replicate ops.size false) = [] := by
            unfold setOf
            refine List.filter_eq_nil_iff.2 fun j hj => ?_
            cases hd : (Array.replicate ops.size false).getD j false with
            | false => simp
            | true => simp [Array.getD] at hd
          have hmk : Like s (mk [] 0 l xs s) := by
            refine ⟨fun t => (mk_fr_old [] t l xs 0 s (fun _ _ _ hc => by simp at hc)).symm, fun b => (mk_hp_old [] b l xs 0 s (fun _ _ _ _ hc => by simp at hc)).symm, (mk_nt _ _ _ _ _).1.symm⟩
          have hw : Rel U w0 (Lt s.nx) s a { w with drawn := w.drawn + 1 } ι := h.world (Gr.refl w).drew (fun _ _ h => h)
          have hsl := slimR_ok hl
          have htl : All2 (SOk ops) (ops.toList.drop l.length) tl := by
            have := hsl.drop l.length
            rwa [List.drop_left] at this
          refine draw_anyT hT hp hpre.symm hU (fun b o hb => (h.ob b o hb).1) hsl ht (fun a' w' hr' => regA_sound hfree hU (fun s' a' w' hk hr => hQ _ _ _ _ hk hr) hK htl a' w' (by
            obtain ⟨ι', hr'⟩ := hr'
            have := hr'.like hlk
            exact ⟨ι', by rw [hnx1]; exact this⟩)) ops.size _ a _ ι (by simp) ?_ (fun j hj => ?_) ?_ ?_
          · unfold left
            exact Nat.le_trans (List.countP_le_length) (by simp)
          · cases hd : (Array.replicate ops.size false).getD j false with
            | false => rfl
            | true => simp [Array.getD] at hd
          · intro k hk
            rw [hset] at hk
            cases hk
          · rw [hset]
            exact ((hw.like hmk).weakN (nx' := (mk [] 0 l xs s).nx) fun b hb => .inl hb)
      · cases hs
    | seq x y => simp only [slim] at hs; split at hs <;> simp at hs
    | cond c x y => simp only [slim] at hs; split at hs <;> simp at hs
    | _ => simp [slim] at hs
  | @drawN l tl pre Q s hp hd ht hr0 =>
    intro c hs Q' a w hQ h
    cases c with
    | region id ops draw =>
      simp only [slim] at hs
      split at hs
      · rename_i l' hl
        cases draw with
        | false => simp at hs
        | true =>
          simp only [if_true, Option.some.injEq, SC.draw.injEq] at hs
          obtain ⟨hll, hpre⟩ := hs
          subst hll
          obtain ⟨ι, h⟩ := h
          have e0 : ∀ (l : List SO), mk (allIn l.length) 0 l [] s = s := fun l => by cases l <;> rfl
          have hr := drawN_A (s0 := s) hp hd (fun b o hb => (h.ob b o hb).1) hr0 [] [] rfl rfl rfl rfl rfl (fun x hx => by cases hx) rfl (fun b => by rw [e0]; rfl) (fun t => by rw [e0])
          obtain ⟨xs, hlen, hE, hC, s1, hlk, hnx1, hK⟩ := draw_ents hp hr
          have hT : Trace P s pre l xs := ⟨hlen, hE, fun i j o o' t hi hj h1 h2 => drawOk_uniq hd hi hj h1 h2, fun i j o o' t hi hj h1 h2 hne => drawOk_cmp hd hi hj h1 h2 hne, hC⟩
          refine wp_region_any hm ?_
          have hset : setOf l.length (Array.replicate ops.size false) = [] := by
            unfold setOf
            refine List.filter_eq_nil_iff.2 fun j hj => ?_
            cases hd : (Array.replicate ops.size false).getD j false with
            | false => simp
            | true => simp [Array.getD] at hd
          have hmk : Like s (mk [] 0 l xs s) := by
            refine ⟨fun t => (mk_fr_old [] t l xs 0 s (fun _ _ _ hc => by simp at hc)).symm, fun b => (mk_hp_old [] b l xs 0 s (fun _ _ _ _ hc => by simp at hc)).symm, (mk_nt _ _ _ _ _).1.symm⟩
          have hw : Rel U w0 (Lt s.nx) s a { w with drawn := w.drawn + 1 } ι := h.world (Gr.refl w).drew (fun _ _ h => h)
          have hsl := slimR_ok hl
          have htl : All2 (SOk ops) (ops.toList.drop l.length) tl := by
            have := hsl.drop l.length
            rwa [List.drop_left] at this
          refine draw_anyT hT hp hpre.symm hU (fun b o hb => (h.ob b o hb).1) hsl ht (fun a' w' hr' => regA_sound hfree hU (fun s' a' w' hk hr => hQ _ _ _ _ hk hr) hK htl a' w' (by
            obtain ⟨ι', hr'⟩ := hr'
            have := hr'.like hlk
            exact ⟨ι', by rw [hnx1]; exact this⟩)) ops.size _ a _ ι (by simp) ?_ (fun j hj => ?_) ?_ ?_
          · unfold left
            exact Nat.le_trans (List.countP_le_length) (by simp)
          · cases hd : (Array.replicate ops.size false).getD j false with
            | false => rfl
            | true => simp [Array.getD] at hd
          · intro k hk
            rw [hset] at hk
            cases hk
          · rw [hset]
            exact ((hw.like hmk).weakN (nx' := (mk [] 0 l xs s).nx) fun b hb => .inl hb)
      · cases hs
    | seq x y => simp only [slim] at hs; split at hs <;> simp at hs
    | cond c x y => simp only [slim] at hs; split at hs <;> simp at hs
    | _ => simp [slim] at hs
  | @drawM l tl pre Q s hp hd ht hr0 =>
    intro c hs Q' a w hQ h
    cases c with
    | region id ops draw =>
      simp only [slim] at hs
      split at hs
      · rename_i l' hl
        cases draw with
        | false => simp at hs
        | true =>
          simp only [if_true, Option.some.injEq, SC.draw.injEq] at hs
          obtain ⟨hll, hpre⟩ := hs
          subst hll
          obtain ⟨ι, h⟩ := h
          have e0 : ∀ (l : List SO), mk (allIn l.length) 0 l [] s = s := fun l => by cases l <;> rfl
          have hr := drawM_B (s0 := s) hp hd hr0 [] [] rfl rfl rfl rfl rfl rfl rfl (fun t => by rw [e0])
          obtain ⟨xs, hlen, hE, hC, s1, hlk, hnx1, hK⟩ := draw_ents0 hp hr
          have hT : Trace P s pre l xs := ⟨hlen, hE, fun i j o o' t hi hj h1 h2 => drawOk_uniq hd hi hj h1 h2, fun i j o o' t hi hj h1 h2 hne => drawOk_cmp hd hi hj h1 h2 hne, hC⟩
          refine wp_region_any hm ?_
          have hset : setOf l.length (Array.replicate ops.size false) = [] := by
            unfold setOf
            refine List.filter_eq_nil_iff.2 fun j hj => ?_
            cases hd : (Array.replicate ops.size false).getD j false with
            | false => simp
            | true => simp [Array.getD] at hd
          have hmk : Like s (mk [] 0 l xs s) := by
            refine ⟨fun t => (mk_fr_old [] t l xs 0 s (fun _ _ _ hc => by simp at hc)).symm, fun b => (mk_hp_old [] b l xs 0 s (fun _ _ _ _ hc => by simp at hc)).symm, (mk_nt _ _ _ _ _).1.symm⟩
          have hw : Rel U w0 (Lt s.nx) s a { w with drawn := w.drawn + 1 } ι := h.world (Gr.refl w).drew (fun _ _ h => h)
          have hsl := slimR_ok hl
          have htl : All2 (SOk ops) (ops.toList.drop l.length) tl := by
            have := hsl.drop l.length
            rwa [List.drop_left] at this
          refine draw_anyT hT hp hpre.symm hU (fun b o hb => (h.ob b o hb).1) hsl ht (fun a' w' hr' => regA_sound hfree hU (fun s' a' w' hk hr => hQ _ _ _ _ hk hr) hK htl a' w' (by
            obtain ⟨ι', hr'⟩ := hr'
            have := hr'.like hlk
            exact ⟨ι', by rw [hnx1]; exact this⟩)) ops.size _ a _ ι (by simp) ?_ (fun j hj => ?_) ?_ ?_
          · unfold left
            exact Nat.le_trans (List.countP_le_length) (by simp)
          · cases hd : (Array.replicate ops.size false).getD j false with
            | false => rfl
            | true => simp [Array.getD] at hd
          · intro k hk
            rw [hset] at hk
            cases hk
          · rw [hset]
            exact ((hw.like hmk).weakN (nx' := (mk [] 0 l xs s).nx) fun b hb => .inl hb)
      · cases hs
    | seq x y => simp only [slim] at hs; split at hs <;> simp at hs
    | cond c x y => simp only [slim] at hs; split at hs <;> simp at hs
    | _ => simp [slim] at hs
  | slim hs _ ih => exact fun c hc Q' a w hQ h => ih c hc Q' a w hQ (RS.slim hs h)
  | weak ρ hw _ hW ih => exact fun c hs Q' a w hQ h => ih c hs Q' a w hQ (RS.weak (hfree hW) hw h)
end
end
end Go.Proofs.Ytmhnogmbpoeaeaa.Eng
namespace Go.Proofs.Ytmhnogmbpoeaeaa.Eng
set_option linter.all false
noncomputable section
open Go.RowKit

/-! ### A function -/
def inX : DA → AX
  | .one c => .one (.d c)
  | .agg cs => .agg (cs.map .d)
def startFr : Nat → List DA → List (Nat × AV)
  | _, [] => []
  | k, d :: ds => (k, .x (inX d)) :: startFr (k + 1) ds
def start (ds : List DA) (nt : Nat) : St := { fr := startFr 0 ds, hp := [], nx := 0, nt := nt }

def outC (hp : List (Nat × Ob)) : AC → Option RC
  | .d x => some (.c x)
  | .own b L => match lk hp b with
    | some (.row sz es fz) => if es.length = L then some (if fz then .c (.sl sz es) else .o sz es) else none
    | _ => none
  | _ => none
def outL (hp : List (Nat × Ob)) : List AC → Option (List RC)
  | [] => some []
  | c :: cs => match outC hp c, outL hp cs with
    | some r, some rs => some (r :: rs)
    | _, _ => none
def outX (hp : List (Nat × Ob)) : AX → Option RX
  | .one c => (outC hp c).map .one
  | .agg cs => (outL hp cs).map .agg
def outXs (hp : List (Nat × Ob)) : List AX → Option RV
  | [] => some []
  | x :: xs => match outX hp x, outXs hp xs with
    | some r, some rs => some (r :: rs)
    | _, _ => none
def ownsC : AC → List Nat
  | .own b _ => [b]
  | _ => []
def ownsX : AX → List Nat
  | .one c => ownsC c
  | .agg cs => cs.flatMap ownsC
def resV (P : Program) (s : St) : ResultVar → Option AX
  | .tmp t => match lk s.fr t with
    | some (.x a) => some a
    | _ => none
  | .cell p ty => match lk s.fr p, ti P ty with
    | some (.x (.one c)), some i => match (cellsAt s.hp i.size c).bind (asVal i.k.isAgg) with
      | some (.x a) => some a
      | _ => none
    | _, _ => none
def resVs (P : Program) (s : St) : List ResultVar → Option (List AX)
  | [] => some []
  | r :: rs => match resV P s r, resVs P s rs with
    | some a, some l => some (a :: l)
    | _, _ => none
def laxC (c c' : RC) : Prop := c = c' ∨ (∃ k, c = .o 0 [] ∧ c' = .o k []) ∨ (∃ k, c = .c (.v (.slice none 0 0)) ∧ c' = .o k []) ∨ (∃ k, c = .c (.v (.slice none 0 0)) ∧ c' = .c (.sl k [])) ∨ (∃ j k, c = .c (.sl j []) ∧ c' = .c (.sl k [])) ∨ ∃ k, c = .o 0 [] ∧ c' = .c (.sl k [])
def laxCs : List RC → List RC → Prop
  | [], [] => True
  | c :: cs, c' :: cs' => laxC c c' ∧ laxCs cs cs'
  | _, _ => False
def laxX : RX → RX → Prop
  | .one c, .one c' => laxC c c'
  | .agg cs, .agg cs' => laxCs cs cs'
  | _, _ => False
def laxR : RV → RV → Prop
  | [], [] => True
  | x :: xs, x' :: xs' => laxX x x' ∧ laxR xs xs'
  | _, _ => False
theorem laxCs_rfl : ∀ cs : List RC, laxCs cs cs
  | [] => trivial
  | _ :: cs => ⟨.inl rfl, laxCs_rfl cs⟩
theorem laxX_rfl (x : RX) : laxX x x := by
  cases x with
  | one c => exact .inl rfl
  | agg cs => exact laxCs_rfl cs
theorem laxR_rfl : ∀ r : RV, laxR r r
  | [] => trivial
  | x :: xs => ⟨laxX_rfl x, laxR_rfl xs⟩
/-- The function's end: what it hands back. -/
def retA (P : Program) (res : List ResultVar) (r' : RV) : Exit → St → Prop
  | .normal, s | .ret, s => ∃ l r, resVs P s res = some l ∧ outXs s.hp l = some r ∧ (l.flatMap ownsX).Nodup ∧ laxR r r'
  | _, _ => False

section
variable {P : Program} {U : Nat → Prop} {w0 : Base} {N : Nat → Prop} {s : St} {a : Act} {w : World} {ι : Nat → Option Nat}

/-- The blocks of the rows that are handed back. -/
def blocks (ι : Nat → Option Nat) (ids : List Nat) : List Nat := ids.filterMap ι
theorem blocks_append (ι : Nat → Option Nat) (l m : List Nat) : blocks ι (l ++ m) = blocks ι l ++ blocks ι m := by simp [blocks]
/-- The rows among the parts are our own, and not frozen. -/
def mutOf (hp : List (Nat × Ob)) (b : Nat) : Bool :=
  match lk hp b with
  | some o => o.mut
  | none => false
def liveC (hp : List (Nat × Ob)) (c : AC) : List Nat := (ownsC c).filter (mutOf hp)
def liveX (hp : List (Nat × Ob)) (x : AX) : List Nat := (ownsX x).filter (mutOf hp)
theorem out_c (h : Rel U w0 N s a w ι) (hU : ∀ b, w0.w.heap.size ≤ b → U b) {x : Value} {c : AC} (hx : RepC (env U N s w ι) x c) {r : RC} (hr : outC s.hp c = some r) :
    ShowsC (Tr U w ι (lk s.hp)) w x r (blocks ι (liveC s.hp c)) := by
  cases c with
  | d d =>
    simp only [outC, Option.some.injEq] at hr
    subst hr
    exact .c hx
  | own b L =>
    simp only [outC] at hr
    split at hr
    · rename_i sz es fz hb
      split at hr
      · rename_i hl
        have hsl := h.slOf (c := .own b L) hx (sz := sz) (es := es) (by simp [dataC, hb, hl])
        obtain ⟨_, _, hx⟩ := hx
        obtain ⟨_, hx⟩ := hx sz es fz hb
        cases fz with
        | true =>
          simp only [if_true, Option.some.injEq] at hr
          subst hr
          have hlv : liveC s.hp (.own b L) = [] := by simp [liveC, ownsC, mutOf, hb, Ob.mut]
          rw [hlv]
          refine .c (slOf_shows hsl (fun _ h => h) fun ad n cap hxe hne => ?_)
          rcases hx hl with ⟨_, hq⟩ | ⟨g, cap', hg, hq, _⟩
          · rw [hxe] at hq; cases hq
          · rw [hxe] at hq; cases hq
            have hblk := h.block hb hg
            refine ⟨?_, h.old hb hg, fun b' o' hb' hm hi => ?_⟩
            · exact hU _ hblk.1
            · have := h.inj b b' _ _ g hb hb' hg hi
              subst this
              rw [hb] at hb'; cases hb'
              simp [Ob.mut] at hm
        | false =>
          simp only [Bool.false_eq_true, if_false, Option.some.injEq] at hr
          subst hr
          have hlv : liveC s.hp (.own b L) = [b] := by simp [liveC, ownsC, mutOf, hb, Ob.mut]
          rw [hlv]
          rcases hx hl with ⟨hn, rfl⟩ | ⟨g, cap, hg, rfl, hc, hm, cur, ty, hh, hs⟩
          · have h2 := (h.ob b _ hb).2
            unfold RepO at h2
            have hg' : (env U N s w ι).ι b = none := hn
            rw [hg'] at h2
            obtain ⟨_, _, he⟩ := h2
            cases he
            have : blocks ι [b] = [] := by have hn' : ι b = none := hn; simp [blocks, hn']
            rw [this]
            exact .nil
          · have hg' : ι b = some g := hg
            have : blocks ι [b] = [g] := by simp [blocks, hg']
            rw [this]
            obtain ⟨_, cur', ty', hh', hcc, hsh⟩ := h.block hb hg
            have hcc2 := hh.symm.trans hh'
            simp only [Option.some.injEq, Obj.cells.injEq, and_true] at hcc2
            obtain ⟨rfl, rfl⟩ := hcc2
            refine .o hl.symm ⟨hsh.1, by omega, hm, hsh.2, cur, ty, hh, hs, fun k c hk => ?_⟩
            exact hcc k (.d c) (by show (es.flatten.map AC.d)[k]? = _; rw [List.getElem?_map, hk]; rfl)
      · cases hr
    · cases hr
  | _ => simp [outC] at hr
theorem out_l (h : Rel U w0 N s a w ι) (hU : ∀ b, w0.w.heap.size ≤ b → U b) : ∀ {xs : List Value} {cs : List AC}, All2 (RepC (env U N s w ι)) xs cs → ∀ {rs : List RC}, outL s.hp cs = some rs →
    ShowsL (ShowsC (Tr U w ι (lk s.hp)) w) xs rs (blocks ι (cs.flatMap (liveC s.hp))) := by
  intro xs cs hx
  induction hx with
  | nil => intro rs hr; simp only [outL, Option.some.injEq] at hr; subst hr; exact .nil
  | @cons x c xs cs hc _ ih =>
    intro rs hr
    simp only [outL] at hr
    split at hr
    · rename_i r rs' h1 h2
      cases hr
      rw [List.flatMap_cons, blocks_append]
      exact .cons (out_c h hU hc h1) (ih h2)
    · cases hr
theorem out_x (h : Rel U w0 N s a w ι) (hU : ∀ b, w0.w.heap.size ≤ b → U b) {x : Value} {c : AX} (hx : RepX (env U N s w ι) x c) {r : RX} (hr : outX s.hp c = some r) : ShowsX (Tr U w ι (lk s.hp)) w x r (blocks ι (liveX s.hp c)) := by
  cases c with
  | one c =>
    obtain ⟨r', h1, rfl⟩ := Option.map_eq_some_iff.1 hr
    exact out_c h hU hx h1
  | agg cs =>
    obtain ⟨r', h1, rfl⟩ := Option.map_eq_some_iff.1 hr
    obtain ⟨arr, rfl, ha⟩ := hx
    refine ⟨arr, rfl, ?_⟩
    have := out_l h hU ha h1
    have e : liveX s.hp (.agg cs) = cs.flatMap (liveC s.hp) := by simp only [liveX, ownsX, List.filter_flatMap]; rfl
    rw [e]
    exact this
theorem out_xs (h : Rel U w0 N s a w ι) (hU : ∀ b, w0.w.heap.size ≤ b → U b) : ∀ {xs : List Value} {cs : List AX}, All2 (RepX (env U N s w ι)) xs cs → ∀ {rs : RV}, outXs s.hp cs = some rs →
    ShowsL (ShowsX (Tr U w ι (lk s.hp)) w) xs rs (blocks ι (cs.flatMap (liveX s.hp))) := by
  intro xs cs hx
  induction hx with
  | nil => intro rs hr; simp only [outXs, Option.some.injEq] at hr; subst hr; exact .nil
  | @cons x c xs cs hc _ ih =>
    intro rs hr
    simp only [outXs] at hr
    split at hr
    · rename_i r rs' h1 h2
      cases hr
      rw [List.flatMap_cons, blocks_append]
      exact .cons (out_x h hU hc h1) (ih h2)
    · cases hr
theorem ShowsL.length {β : Type} {R : Value → β → List Nat → Prop} {xs : List Value} {cs : List β} {F : List Nat} (h : ShowsL R xs cs F) : xs.length = cs.length := by
  induction h with
  | nil => rfl
  | cons _ _ ih => simp [ih]
theorem ShowsC.mono {T T' : Nat → Prop} {w : World} (hT : ∀ b, T b → T' b) {x : Value} {c : RC} {F : List Nat} (h : ShowsC T w x c F) : ShowsC T' w x c F := by
  cases h with
  | c h => exact .c (Shows.keep hT (fun _ _ => rfl) h)
  | nil => exact .nil
  | o hn h =>
    refine .o hn ⟨h.pos, h.le, h.max, h.width, ?_⟩
    obtain ⟨cur, ty, h1, h2, h3⟩ := h.cells
    refine ⟨cur, ty, h1, h2, fun k c hk => ?_⟩
    obtain ⟨y, hy, hs⟩ := h3 k c hk
    exact ⟨y, hy, Shows.keep hT (fun _ _ => rfl) hs⟩
theorem ShowsX.mono {T T' : Nat → Prop} {w : World} (hT : ∀ b, T b → T' b) {x : Value} {c : RX} {F : List Nat} (h : ShowsX T w x c F) : ShowsX T' w x c F := by
  cases c with
  | one c => exact ShowsC.mono hT h
  | agg cs => obtain ⟨arr, h1, h2⟩ := h; exact ⟨arr, h1, h2.mono fun x c F hc hs => ShowsC.mono hT hs⟩

theorem blocks_mem {ι : Nat → Option Nat} {ids : List Nat} {g : Nat} (h : g ∈ blocks ι ids) : ∃ b ∈ ids, ι b = some g := by
  simpa [blocks] using h
theorem blocks_nodup (h : Rel U w0 N s a w ι) : ∀ {ids : List Nat}, ids.Nodup → (∀ b ∈ ids, ∃ o, lk s.hp b = some o) → (blocks ι ids).Nodup
  | [], _, _ => List.nodup_nil
  | b :: ids, hnd, hl => by
    obtain ⟨h1, h2⟩ := List.nodup_cons.1 hnd
    have ih := blocks_nodup h h2 fun b' hb => hl b' (by simp [hb])
    cases hi : ι b with
    | none => have : blocks ι (b :: ids) = blocks ι ids := by simp [blocks, hi]
              rw [this]; exact ih
    | some g =>
      have : blocks ι (b :: ids) = g :: blocks ι ids := by simp [blocks, hi]
      rw [this]
      refine List.nodup_cons.2 ⟨fun hg => ?_, ih⟩
      obtain ⟨b', hb', hi'⟩ := blocks_mem hg
      obtain ⟨o, ho⟩ := hl b (by simp)
      obtain ⟨o', ho'⟩ := hl b' (by simp [hb'])
      exact h1 (h.inj b b' o o' g ho ho' hi hi' ▸ hb')

def resM (tmps : Array Value) : ResultVar → Sem Value
  | .tmp t => pure (tmps.getD t undef)
  | .cell a t => do loadVar t (← asAddr (tmps.getD a undef))
theorem results_eq (fn : Func) (tmps : Array Value) : results fn tmps = (do let vs ← fn.results.mapM (resM tmps); pure (if h : vs.size = 1 then vs[0] else .tuple vs)) := by
  unfold results
  congr 1
theorem res_run (h : Rel U w0 N s a w ι) : ∀ {rs : List ResultVar} {l : List AX}, resVs P s rs = some l → ∃ vs : List Value, (rs.mapM (resM a.tmps)).run P w = .ok vs w ∧ All2 (RepX (env U N s w ι)) vs l
  | [], l, hr => by
    simp only [resVs, Option.some.injEq] at hr
    subst hr
    exact ⟨[], by simp, .nil⟩
  | r :: rs, l, hr => by
    simp only [resVs] at hr
    split at hr
    · rename_i x l' h1 h2
      cases hr
      obtain ⟨vs, hv, hvs⟩ := res_run h h2
      have hone : ∃ v, (resM a.tmps r).run P w = .ok v w ∧ RepX (env U N s w ι) v x := by
        cases r with
        | tmp t =>
          simp only [resV] at h1
          split at h1
          · rename_i x' hl
            cases h1
            obtain ⟨v, hv1, hv2⟩ := h.fr t _ hl
            exact ⟨v, by simp [resM, hv1], hv2⟩
          · cases h1
        | cell p ty =>
          simp only [resV] at h1
          split at h1
          · rename_i c i hl hi
            split at h1
            · rename_i x' hb
              cases h1
              obtain ⟨cs, hc, hv'⟩ := Option.bind_eq_some_iff.1 hb
              obtain ⟨v, hv1, hv2⟩ := h.fr p _ hl
              obtain ⟨ad, ys, hp, hlen, hcell, hrr⟩ := h.cellsAt hv2 hc
              obtain ⟨g1, g2⟩ := asVal_rep hrr hv'
              refine ⟨_, ?_, g2⟩
              subst hp
              have hg : a.tmps.getD p undef = .pointer (some ad) := by simp [hv1]
              simp only [resM, hg, asAddr, Sem.run_bind, Sem.run_pure, Result.andThen_ok, run_loadVar hi w ad ys hlen hcell g1]
            · cases h1
          · cases h1
      obtain ⟨v, hv1, hv2⟩ := hone
      refine ⟨v :: vs, ?_, .cons hv2 hvs⟩
      rw [List.mapM_cons]
      simp only [Sem.run_bind, hv1, Result.andThen_ok, hv, Sem.run_pure]
    · cases hr
theorem start_rel {S : Nat → Prop} {w : World} {args : Array Value} {ds : List DA} (hS : ∀ b, S b → b < w.heap.size) (ha : All2 (ShowsA S w) args.toList ds) {nt : Nat} (hnt : args.size ≤ nt) :
    RS (fun b => S b ∨ w.heap.size ≤ b) ⟨w, botE w⟩ (start ds nt) { tmps := args ++ Array.replicate (nt - args.size) undef, defers := [] } w := by
  refine ⟨fun _ => none, fun t x ht => ?_, fun b o hb => (by cases hb), fun b b' o o' g hb => (by cases hb), Gr.refl w, (by simp [start]; omega), rfl, Step.bot⟩
  have key : ∀ {k : Nat} {xs : List Value} {ds : List DA}, All2 (ShowsA S w) xs ds → ∀ {t : Nat} {x : AV}, lk (startFr k ds) t = some x → ∃ v, k ≤ t ∧ xs[t - k]? = some v ∧ RepV (env (fun b => S b ∨ w.heap.size ≤ b) (Lt 0) (start ds nt) w (fun _ => none)) v x := by
    intro k xs ds hx
    induction hx generalizing k with
    | nil => intro t x ht; cases ht
    | @cons y d ys ds' hd _ ih =>
      intro t x ht
      simp only [startFr, lk_cons] at ht
      split at ht
      · rename_i hk
        subst hk
        cases ht
        refine ⟨y, Nat.le_refl _, by simp, ?_⟩
        have hT : ∀ b, S b → Tr (fun b => S b ∨ w.heap.size ≤ b) w (fun _ => none) (lk (start (d :: ds') nt).hp) b := fun b hb => ⟨.inl hb, hS b hb, fun b' o' hb' => by cases hb'⟩
        cases d with
        | one c => exact Shows.keep hT (fun _ _ => rfl) hd
        | agg cs =>
          obtain ⟨arr, rfl, ha⟩ := hd
          exact ⟨arr, rfl, All2.map_right (ha.mono fun _ _ hs => Shows.keep hT (fun _ _ => rfl) hs)⟩
      · obtain ⟨v, h1, h2, h3⟩ := ih ht
        refine ⟨v, by omega, ?_, h3⟩
        have : t - k = (t - (k + 1)) + 1 := by omega
        rw [this]; simpa using h2
  obtain ⟨v, _, h2, h3⟩ := key ha ht
  refine ⟨v, ?_, h3⟩
  have hlt : t < args.size := by
    have := (List.getElem?_eq_some_iff.1 h2).1
    simpa using this
  rw [Array.getElem?_append_left hlt]
  simpa using h2
theorem laxC.shows {T : Nat → Prop} {w : World} {x : Value} {c c' : RC} {F : List Nat} (h : laxC c c') (hx : ShowsC T w x c F) : ShowsC T w x c' F := by
  rcases h with rfl | ⟨k, rfl, rfl⟩ | ⟨k, rfl, rfl⟩ | ⟨k, rfl, rfl⟩ | ⟨j, k, rfl, rfl⟩ | ⟨k, rfl, rfl⟩
  · exact hx
  · cases hx with
    | nil => exact .nil
    | o hn h => exact absurd h.pos (by omega)
  · cases hx with
    | c h => cases h with
      | v h => exact .nil
  · cases hx with
    | c h => exact .c (laxD.shows (d := .v (.slice none 0 0)) (d' := .sl k []) (.inr ⟨trivial, k, rfl⟩) h)
  · cases hx with
    | c h => exact .c (laxD.shows (d := .sl j []) (d' := .sl k []) (.inr ⟨trivial, k, rfl⟩) h)
  · cases hx with
    | nil => exact .c .nil
    | o hn h => exact absurd h.pos (by omega)
theorem laxCs.shows {T : Nat → Prop} {w : World} {xs : List Value} {cs : List RC} {F : List Nat} (hx : ShowsL (ShowsC T w) xs cs F) : ∀ {cs' : List RC}, laxCs cs cs' → ShowsL (ShowsC T w) xs cs' F := by
  induction hx with
  | nil => intro cs' h; cases cs' with
    | nil => exact .nil
    | cons _ _ => exact h.elim
  | cons hc _ ih => intro cs' h; cases cs' with
    | nil => exact h.elim
    | cons _ _ => exact .cons (h.1.shows hc) (ih h.2)
theorem laxX.shows {T : Nat → Prop} {w : World} {x : Value} {c c' : RX} {F : List Nat} (h : laxX c c') (hx : ShowsX T w x c F) : ShowsX T w x c' F := by
  cases c <;> cases c' <;> simp only [laxX] at h
  · exact laxC.shows h hx
  · obtain ⟨arr, h1, h2⟩ := hx; exact ⟨arr, h1, laxCs.shows h2 h⟩
theorem laxR.shows {T : Nat → Prop} {w : World} {xs : List Value} {cs : List RX} {F : List Nat} (hx : ShowsL (ShowsX T w) xs cs F) : ∀ {cs' : List RX}, laxR cs cs' → ShowsL (ShowsX T w) xs cs' F := by
  induction hx with
  | nil => intro cs' h; cases cs' with
    | nil => exact .nil
    | cons _ _ => exact h.elim
  | cons hc _ ih => intro cs' h; cases cs' with
    | nil => exact h.elim
    | cons _ _ => exact .cons (h.1.shows hc) (ih h.2)
/-- What is handed back: the value that the results make up. -/
def resVal (vs : List Value) : Value := if h : vs.toArray.size = 1 then vs.toArray[0] else .tuple vs.toArray
theorem out_post {S : Nat → Prop} {w w' : World} {s : St} {a : Act} {l : List AX} {r' r : RV} {E0 : Env} {N : Nat → Prop} {ι : Nat → Option Nat} {vs : List Value} (hr : Rel (fun b => S b ∨ w.heap.size ≤ b) ⟨w, E0⟩ N s a w' ι)
    (hvs : All2 (RepX (env (fun b => S b ∨ w.heap.size ≤ b) N s w' ι)) vs l) (h2 : outXs s.hp l = some r') (h3 : (l.flatMap ownsX).Nodup) (hlax : laxR r' r) :
    ∃ F, ShowsV (fun b => (S b ∨ w.heap.size ≤ b) ∧ b < w'.heap.size ∧ b ∉ F) w' (resVal vs) r F ∧ Gr w w' ∧ F.Nodup ∧ ∀ g ∈ F, w.heap.size ≤ g ∧ g < w'.heap.size := by
  have hsh := laxR.shows (out_xs hr (fun b hb => .inr hb) hvs h2) hlax
  have hlive : l.flatMap (liveX s.hp) = (l.flatMap ownsX).filter (mutOf s.hp) := by simp only [List.filter_flatMap]; rfl
  have hmem : ∀ b ∈ l.flatMap (liveX s.hp), ∃ o, lk s.hp b = some o ∧ o.mut = true := fun b hb => by
    rw [hlive] at hb
    have := (List.mem_filter.1 hb).2
    unfold mutOf at this
    split at this
    · rename_i o ho; exact ⟨o, ho, this⟩
    · cases this
  have hnd : (blocks ι (l.flatMap (liveX s.hp))).Nodup := by
    refine blocks_nodup hr ?_ fun b hb => ?_
    · rw [hlive]; exact List.Pairwise.filter _ h3
    · obtain ⟨o, ho, _⟩ := hmem b hb; exact ⟨o, ho⟩
  have hT : ∀ b, Tr (fun b => S b ∨ w.heap.size ≤ b) w' ι (lk s.hp) b → ((S b ∨ w.heap.size ≤ b) ∧ b < w'.heap.size ∧ b ∉ blocks ι (l.flatMap (liveX s.hp))) := fun b ⟨q1, q2, q3⟩ => ⟨q1, q2, fun hb => by
    obtain ⟨i, hi, hii⟩ := blocks_mem hb
    obtain ⟨o, ho, hmu⟩ := hmem i hi
    exact q3 i o ho hmu hii⟩
  have hsh' := hsh.mono (R' := ShowsX (fun b => (S b ∨ w.heap.size ≤ b) ∧ b < w'.heap.size ∧ b ∉ blocks ι (l.flatMap (liveX s.hp))) w') fun x c F _ hs => ShowsX.mono hT hs
  refine ⟨blocks ι (l.flatMap (liveX s.hp)), ?_, hr.gr, hnd, fun g hg => ?_⟩
  · match vs, r, hsh' with
    | [], [], hs => exact ⟨#[], rfl, hs⟩
    | [v], [y], hs =>
      generalize blocks ι (l.flatMap (liveX s.hp)) = F at hs ⊢
      cases hs with
      | @cons _ _ F1 _ _ F2 hx ht =>
        cases ht
        rw [List.append_nil] at hx ⊢
        exact hx
    | [v], y1 :: y2 :: ys, hs => exact absurd hs.length (by simp)
    | v1 :: v2 :: vs1, [y], hs => exact absurd hs.length (by simp)
    | v :: u :: vs, y :: z :: ys, hs => exact ⟨(v :: u :: vs).toArray, by simp [resVal], hs⟩
  · obtain ⟨b, hb, hi⟩ := blocks_mem hg
    obtain ⟨o, ho, _⟩ := hmem b hb
    exact hr.lt ho hi
/-- What is handed back, at the function's end. -/
theorem ret_post {fn : Func} {S : Nat → Prop} {w w' : World} {s : St} {a : Act} {l : List AX} {r' r : RV} {E0 : Env} (hr : RS (fun b => S b ∨ w.heap.size ≤ b) ⟨w, E0⟩ s a w') (h1 : resVs P s fn.results.toList = some l) (h2 : outXs s.hp l = some r') (h3 : (l.flatMap ownsX).Nodup) (hlax : laxR r' r) :
    bodyPost P fn (fun e w' => ∃ v F, e = .returned v ∧ ShowsV (fun b => (S b ∨ w.heap.size ≤ b) ∧ b < w'.heap.size ∧ b ∉ F) w' v r F ∧ Gr w w' ∧ F.Nodup ∧ ∀ g ∈ F, w.heap.size ≤ g ∧ g < w'.heap.size) .ret a w' := by
  obtain ⟨ι, hr⟩ := hr
  obtain ⟨vs, hv, hvs⟩ := res_run hr h1
  obtain ⟨F, h4⟩ := out_post hr hvs h2 h3 hlax
  have hrun : (results fn a.tmps).run P w' = .ok (resVal vs) w' := by
    rw [results_eq, Array.mapM_eq_mapM_toList]
    simp only [Sem.run_bind, Sem.run_map, hv, Result.andThen_ok, Sem.run_pure]
    rfl
  exact ⟨hr.df, _, hrun, _, F, rfl, h4⟩
/-- A FUNCTION'S CONTRACT, OUT OF ITS CODE. -/
theorem con_of_awp (hm : P.follows .mixedOrders = true) {f : FuncId} {fn : Func} {sc : SC} {ds : List DA} {r : RV} (hf : P.funcs[f]? = some fn) (hsc : fn.body.bind slim = some sc) (hname : (fn.name == "runtime.NumGoroutine") = false)
    (hnt : (ds.length ≤ fn.ntmps)) {res : List ResultVar} (hres : fn.results.toList = res) {nt : Nat} (hntm : fn.ntmps = nt) (h : Awp True P sc (retA P res r) (start ds nt)) : Con P f ds r := by
  subst hres hntm
  obtain ⟨c, hb, hslim⟩ := Option.bind_eq_some_iff.1 hsc
  refine ⟨⟨fn, hf, hname, by rw [hb]; rfl⟩, fun S w args hS ha => ?_⟩
  have hlen : args.size ≤ fn.ntmps := by have := ha.length; simp at this; omega
  refine calls_of_wp hf hb (awp_sound (fun _ _ => Step.bot) hm (U := fun b => S b ∨ w.heap.size ≤ b) (w0 := ⟨w, botE w⟩) (fun b hb => .inr hb) h c hslim _ _ w (fun e s a w' hq hr => ?_) (start_rel hS ha hlen))
  have fin : (∃ l r', resVs P s fn.results.toList = some l ∧ outXs s.hp l = some r' ∧ (l.flatMap ownsX).Nodup ∧ laxR r' r) → bodyPost P fn (fun e w' => ∃ v F, e = .returned v ∧ ShowsV (fun b => (S b ∨ w.heap.size ≤ b) ∧ b < w'.heap.size ∧ b ∉ F) w' v r F ∧ Gr w w' ∧ F.Nodup ∧ ∀ g ∈ F, w.heap.size ≤ g ∧ g < w'.heap.size) .ret a w' := by
    rintro ⟨l, r', h1, h2, h3, hlax⟩
    exact ret_post hr h1 h2 h3 hlax
  cases e with
  | normal => exact fin hq
  | ret => exact fin hq
  | _ => exact hq.elim
end
end
end Go.Proofs.Ytmhnogmbpoeaeaa.Eng
namespace Go.Proofs.Ytmhnogmbpoeaeaa.Eng
set_option linter.all false
noncomputable section
open Go.RowKit
section
variable {W : Prop} {P : Program} {K : St → Prop}
theorem RegA.split {dst : Option Nat} {op : Op} {t : Nat} {w : Bool} {rest : List SO} {s : St} {b : Bool} (hb : boolV s t = some b)
    (ht : b = true → RegA W P K (⟨dst, op, some (t, w)⟩ :: rest) (Eng.know s t true)) (hf : b = false → RegA W P K (⟨dst, op, some (t, w)⟩ :: rest) (Eng.know s t false)) : RegA W P K (⟨dst, op, some (t, w)⟩ :: rest) s :=
  .know t hb ht hf
theorem RegA.off1 {dst : Option Nat} {op : Op} {t : Nat} {w : Bool} {rest : List SO} {s : St} (hb : boolV s t = some (!w)) (hd : dstOk s dst = true) (h : RegA W P K rest (skip1 s dst)) : RegA W P K (⟨dst, op, some (t, w)⟩ :: rest) s := .off (.inl hb) hd h
theorem RegA.off2 {dst : Option Nat} {op : Op} {t : Nat} {w : Bool} {rest : List SO} {s : St} (hb : lk s.fr t = some (.tup [])) (hd : dstOk s dst = true) (h : RegA W P K rest (skip1 s dst)) : RegA W P K (⟨dst, op, some (t, w)⟩ :: rest) s := .off (.inr hb) hd h
theorem RegA.done {s : St} {P' : St → Prop} (hK : ∀ s', P' s' → K s') (h : P' s) : RegA W P K [] s := .nil (hK s h)
/-- A condition by a temporary that is decided. -/
theorem Awp.ct {c : Operand} {x y : SC} {Q : Exit → St → Prop} {s : St} (hc : evP s c = some (.bool true)) (h : Awp W P x Q s) : Awp W P (.cond c x y) Q s :=
  .cond hc (fun _ => h) (fun e => by cases e)
theorem Awp.cf {c : Operand} {x y : SC} {Q : Exit → St → Prop} {s : St} (hc : evP s c = some (.bool false)) (h : Awp W P y Q s) : Awp W P (.cond c x y) Q s :=
  .cond hc (fun e => by cases e) (fun _ => h)
/-! Conditions that are to be discharged. -/
theorem ite_and {p q : Prop} [Decidable (p ∧ q)] {α : Type} {x y : α} (h : p ∧ q) : (if p ∧ q then x else y) = x := if_pos h
theorem ite_le {a b : Nat} {α : Type} {x y : α} (h : a ≤ b) : (if a ≤ b then x else y) = x := if_pos h
theorem ite_lt {a b : Nat} {α : Type} {x y : α} (h : a < b) : (if a < b then x else y) = x := if_pos h
theorem ite_eq {a b : Nat} {α : Type} {x y : α} (h : a = b) : (if a = b then x else y) = x := if_pos h
theorem ite_lei {a b : Int} {α : Type} {x y : α} (h : a ≤ b) : (if a ≤ b then x else y) = x := if_pos h
theorem ite_lti {a b : Int} {α : Type} {x y : α} (h : a < b) : (if a < b then x else y) = x := if_pos h
theorem ite_nei {a b : Int} {α : Type} {x y : α} (h : ¬ a = b) : (if a = b then x else y) = y := if_neg h
theorem viaK {K' P' : St → Prop} {s : St} (hK : ∀ s', P' s' → K' s') (h : P' s) : K' s := hK s h
theorem thenQ_normal {K' : St → Prop} {Q : Exit → St → Prop} {s : St} : thenQ K' Q .normal s = K' s := rfl
theorem blockQ_normal {id : Nat} {Q : Exit → St → Prop} {s : St} : blockQ id Q .normal s = Q .normal s := rfl
/-! Drawn regions, step by step. -/
theorem Awp.draw' {l : List SO} {pre A : List (List Nat)} {Q : Exit → St → Prop} {s : St} (hA : ancs pre = A) (hp : preOk pre = true) (hd : drawOk l A = true) (h : DrawA P (Q .normal) s A l l []) : Awp W P (.draw l pre) Q s := by
  subst hA
  exact .draw hp hd h
def idsOk (lo n : Nat) (ups : List (Nat × Ob)) : Bool := ups.all fun p => Nat.ble lo p.1 && Nat.blt p.1 (lo + n)
theorem DrawA.op' {s0 sj : St} {A : List (List Nat)} {l rest : List SO} {xs : Ents} {dst : Option Nat} {op : Op} {g : Option (Nat × Bool)} {e : Eff} {sd : Nat} (hsd : s0.nx + 16 * xs.length = sd) (hs : Eng.mk (A.getD xs.length []) 0 l xs s0 = sj) (hd : dstOk s0 dst = true) (hg : gOk sj g)
    (he : effect P sj sd op = some e) (hc : Nat.ble e.cnt 14 = true) (hn : idsOk sd e.cnt e.ups = true) (h : DrawA P K s0 A l rest (xs ++ [some e])) : DrawA P K s0 A l (⟨dst, op, g⟩ :: rest) xs := by
  subst hs hsd
  refine .op hd hg (.inl he) (Nat.le_of_ble_eq_true hc) (fun p hp => ?_) h
  have := List.all_eq_true.1 hn p hp
  simp only [Bool.and_eq_true, Nat.ble_eq, Nat.blt_eq] at this
  exact this
theorem DrawA.call' {s0 sj : St} {A : List (List Nat)} {l rest : List SO} {xs : Ents} {dst : Option Nat} {f : FuncId} {args : Array Operand} {ts : Array TypeId} {g : Option (Nat × Bool)} {vs : List AV} {ds : List DA} {r : RV} {sd : Nat} (hsd : s0.nx + 16 * xs.length = sd) (hs : Eng.mk (A.getD xs.length []) 0 l xs s0 = sj) (hd : dstOk s0 dst = true) (hg : gOk sj g)
    (hv : evL sj args.toList = some vs) (ha : argL sj.hp vs = some ds) (hc : Con P f ds r) (hfz : vs.flatMap idsX = [] ∨ Flat r) (hc14 : Nat.ble ((unV' sd r).2.2 - sd) 14 = true)
    (hn : idsOk sd ((unV' sd r).2.2 - sd) (unV' sd r).2.1 = true)
    (h : DrawA P K s0 A l rest (xs ++ [some ⟨some (unV' sd r).1, (unV' sd r).2.1, (unV' sd r).2.2 - sd⟩])) : DrawA P K s0 A l (⟨dst, .call ⟨.value (.func f), args, ts⟩, g⟩ :: rest) xs := by
  subst hs hsd
  refine .op hd hg (.inr ⟨f, args, ts, vs, ds, r, rfl, hv, ha, hc, hfz, rfl⟩) (Nat.le_of_ble_eq_true hc14) (fun p hp => ?_) h
  have := List.all_eq_true.1 hn p hp
  simp only [Bool.and_eq_true, Nat.ble_eq, Nat.blt_eq] at this
  exact this
theorem DrawA.off' {s0 sj : St} {A : List (List Nat)} {l rest : List SO} {xs : Ents} {dst : Option Nat} {op : Op} {t : Nat} {w : Bool} (hs : Eng.mk (A.getD xs.length []) 0 l xs s0 = sj) (hd : dstOk s0 dst = true) (hb : boolV sj t = some (!w)) (h : DrawA P K s0 A l rest (xs ++ [none])) : DrawA P K s0 A l (⟨dst, op, some (t, w)⟩ :: rest) xs := by
  subst hs
  exact .off hd (.inl hb) h
theorem DrawA.off2' {s0 sj : St} {A : List (List Nat)} {l rest : List SO} {xs : Ents} {dst : Option Nat} {op : Op} {t : Nat} {w : Bool} (hs : Eng.mk (A.getD xs.length []) 0 l xs s0 = sj) (hd : dstOk s0 dst = true) (hb : lk sj.fr t = some (.tup [])) (h : DrawA P K s0 A l rest (xs ++ [none])) : DrawA P K s0 A l (⟨dst, op, some (t, w)⟩ :: rest) xs := by
  subst hs
  exact .off hd (.inr hb) h
theorem DrawA.split' {s0 sj : St} {A : List (List Nat)} {l rest : List SO} {xs : Ents} {dst : Option Nat} {op : Op} {t : Nat} {w b : Bool} (_hs : Eng.mk (A.getD xs.length []) 0 l xs s0 = sj) (_hb : boolV sj t = some b) (ht : b = true → DrawA P K s0 A l (⟨dst, op, some (t, w)⟩ :: rest) xs)
    (hf : b = false → DrawA P K s0 A l (⟨dst, op, some (t, w)⟩ :: rest) xs) : DrawA P K s0 A l (⟨dst, op, some (t, w)⟩ :: rest) xs := .split b ht hf
def mkAll : List SO → Ents → St → St
  | o :: l, x :: xs, s => mkAll l xs (match x with
      | some e => put1 s o.dst e.val e.ups s.nx
      | none => skip1 s o.dst)
  | _, _, s => s
theorem mk_all (anc : List Nat) : ∀ (l : List SO) (xs : Ents) (i : Nat) (s : St), (∀ k, i ≤ k → k < i + l.length → anc.contains k = true) → Eng.mk anc i l xs s = mkAll l xs s
  | [], xs, i, s, _ => by cases xs <;> rfl
  | o :: l, [], i, s, _ => rfl
  | o :: l, x :: xs, i, s, h => by
    rw [mk_cons, if_pos (h i (Nat.le_refl _) (by simp)), mk_all anc l xs (i + 1) _ (fun k hk hk' => h k (by omega) (by simp; omega))]
    rfl
theorem DrawA.nil' {s0 sf : St} {A : List (List Nat)} {l : List SO} {xs : Ents} {P' : St → Prop} {n' : Nat} (hn : s0.nx + 16 * l.length = n') (hs : { mkAll l xs s0 with nx := n' } = sf) (hK : ∀ s', P' s' → K s') (h : P' sf) : DrawA P K s0 A l [] xs := by
  subst hs hn
  refine .nil (hK _ ?_)
  rw [mk_all (allIn l.length) l xs 0 s0 (fun k _ hk => by simp [allIn]; omega)]
  exact h
end
theorem Awp.draw2 {W : Prop} {P : Program} {l : List SO} {pre A : List (List Nat)} {Q : Exit → St → Prop} {s : St} (m : Nat) {l0 tl : List SO} (h0 : l.take m = l0) (h1 : l.drop m = tl) (hA : ancs pre = A) (hp : preOk pre = true) (hd : drawOk l0 A = true) (ht : tailOk l0.length tl.length A = true)
    (h : DrawA P (fun s' => RegA W P (Q .normal) tl s') s A l0 l0 []) : Awp W P (.draw l pre) Q s := by
  subst hA
  rw [← List.take_append_drop m l, h0, h1]
  exact .drawT hp hd ht h
theorem Awp.draw3 {W : Prop} {P : Program} {l : List SO} {pre A : List (List Nat)} {Q : Exit → St → Prop} {s s1 : St} (m : Nat) {l0 tl : List SO} (h0 : l.take m = l0) (h1 : l.drop m = tl) (hA : ancs pre = A) (hp : preOk pre = true) (hd : drawOk l0 A = true) (ht : tailOk l0.length tl.length A = true)
    (hs : { s with nx := s.nx + 16 * l0.length } = s1) (h : DrawP P (fun s' => RegA W P (Q .normal) tl s') l0 s1) : Awp W P (.draw l pre) Q s := by
  subst hA hs
  rw [← List.take_append_drop m l, h0, h1]
  exact .drawP hp hd ht h
theorem DrawP.split {P : Program} {K : St → Prop} {dst : Option Nat} {op : Op} {t : Nat} {w : Bool} {rest : List SO} {s : St} {b : Bool} (hb : boolV s t = some b)
    (ht : b = true → DrawP P K (⟨dst, op, some (t, w)⟩ :: rest) (Eng.know s t true)) (hf : b = false → DrawP P K (⟨dst, op, some (t, w)⟩ :: rest) (Eng.know s t false)) : DrawP P K (⟨dst, op, some (t, w)⟩ :: rest) s :=
  .know t hb ht hf
theorem DrawP.off1 {P : Program} {K : St → Prop} {dst : Option Nat} {op : Op} {t : Nat} {w : Bool} {rest : List SO} {s : St} (hb : boolV s t = some (!w)) (hd : dstOk s dst = true) (h : DrawP P K rest (skip1 s dst)) : DrawP P K (⟨dst, op, some (t, w)⟩ :: rest) s := .off hd (.inl hb) h
theorem DrawP.off2 {P : Program} {K : St → Prop} {dst : Option Nat} {op : Op} {t : Nat} {w : Bool} {rest : List SO} {s : St} (hb : lk s.fr t = some (.tup [])) (hd : dstOk s dst = true) (h : DrawP P K rest (skip1 s dst)) : DrawP P K (⟨dst, op, some (t, w)⟩ :: rest) s := .off hd (.inr hb) h
theorem DrawA.nilT {W : Prop} {P : Program} {s0 sf : St} {A : List (List Nat)} {l tl : List SO} {xs : Ents} {K : St → Prop} {n' : Nat} (hn : s0.nx + 16 * l.length = n') (hs : { mkAll l xs s0 with nx := n' } = sf) (h : RegA W P K tl sf) : DrawA P (fun s' => RegA W P K tl s') s0 A l [] xs := by
  subst hs hn
  refine .nil ?_
  rw [mk_all (allIn l.length) l xs 0 s0 (fun k _ hk => by simp [allIn]; omega)]
  exact h
/-! A drawn region with a side operation: the tail's first doesn't wait for it. -/
theorem Awp.drawS' {W : Prop} {P : Program} {l : List SO} {pre A : List (List Nat)} {Q : Exit → St → Prop} {s : St} (m p : Nat) {l0 : List SO} {o1 : SO} {tl : List SO} {d : Nat} {x : Operand} {k : Nat} (h0 : l.take m = l0) (h1 : l.drop m = o1 :: tl) (hA : ancs pre = A) (hp : preOk pre = true) (hd : drawOk l0 A = true)
    (hs : sideOk l0.length p tl.length A = true) (hpd : l0[p]? = some ⟨some d, .extract x k, none⟩)
    (h : DrawA P (fun s' => ∃ sf, Q .normal sf ∧ RegA W P (fun s1 => Slim sf s1) (o1 :: tl) s' ∧ RegA W P (fun s1 => Slim sf s1) (o1 :: ⟨some d, .extract x k, none⟩ :: tl) { s' with fr := del s'.fr d }) s A l0 l0 []) : Awp W P (.draw l pre) Q s := by
  subst hA
  rw [← List.take_append_drop m l, h0, h1]
  exact .drawS hp hd hs hpd h
theorem DrawA.nilS {W : Prop} {P : Program} {s0 sf s1 : St} {A : List (List Nat)} {l tl1 tl2 : List SO} {xs : Ents} {K : St → Prop} {n' d : Nat} (hn : s0.nx + 16 * l.length = n') (hs : { mkAll l xs s0 with nx := n' } = s1) (h1 : RegA W P (fun s' => Slim sf s') tl1 s1)
    (h2 : RegA W P (fun s' => Slim sf s') tl2 { s1 with fr := del s1.fr d }) (hq : K sf) : DrawA P (fun s' => ∃ sf, K sf ∧ RegA W P (fun s'' => Slim sf s'') tl1 s' ∧ RegA W P (fun s'' => Slim sf s'') tl2 { s' with fr := del s'.fr d }) s0 A l [] xs := by
  subst hs hn
  refine .nil ⟨sf, hq, ?_⟩
  rw [mk_all (allIn l.length) l xs 0 s0 (fun k _ hk => by simp [allIn]; omega)]
  exact ⟨h1, h2⟩
theorem Awp.drawQ' {W : Prop} {P : Program} {l : List SO} {pre A : List (List Nat)} {Q : Exit → St → Prop} {s s1 : St} (m p : Nat) {l0 : List SO} {o1 : SO} {tl : List SO} {d : Nat} {oq : Op} (h0 : l.take m = l0) (h1 : l.drop m = o1 :: tl) (hA : ancs pre = A) (hp : preOk pre = true) (hd : drawOk l0 A = true)
    (hs : sideOk l0.length p tl.length A = true) (hte : tells oq = true) (hpd : l0[p]? = some ⟨some d, oq, none⟩) (hs1 : { s with nx := s.nx + 16 * l0.length } = s1)
    (h : DrawP P (fun s' => ∃ sf, Q .normal sf ∧ RegA W P (fun s2 => Slim sf s2) (o1 :: tl) s' ∧ RegA W P (fun s2 => Slim sf s2) (o1 :: ⟨some d, oq, none⟩ :: tl) { s' with fr := del s'.fr d }) l0 s1) : Awp W P (.draw l pre) Q s := by
  subst hA hs1
  rw [← List.take_append_drop m l, h0, h1]
  exact .drawQ hp hd hs hte hpd h
theorem exS {W : Prop} {P : Program} {sf s1 : St} {tl1 tl2 : List SO} {K : St → Prop} {d : Nat} (h1 : RegA W P (fun s' => Slim sf s') tl1 s1) (h2 : RegA W P (fun s' => Slim sf s') tl2 { s1 with fr := del s1.fr d }) (hq : K sf) :
    ∃ sf, K sf ∧ RegA W P (fun s'' => Slim sf s'') tl1 s1 ∧ RegA W P (fun s'' => Slim sf s'') tl2 { s1 with fr := del s1.fr d } := ⟨sf, hq, h1, h2⟩
/-- An element's cells, by its number. -/
theorem getD_map {α : Type} (f : α → List D) (l : List α) (i : Nat) (d : α) (h : i < l.length) : (l.map f).getD i [] = f (l.getD i d) := by
  simp [List.getD, h]
end
end Go.Proofs.Ytmhnogmbpoeaeaa.Eng
namespace Go.Proofs.Ytmhnogmbpoeaeaa.Eng
set_option linter.all false
noncomputable section
open Go.ChangeShapes Go.WideShapes Go.ChangeAt Go.RowKit

/-! ### The arguments read again -/
theorem args_stay {H : Type} {enc : TypeId × Value → H} {P : Program} (hl : laidOutB P = true) {W W' : World} (hb : Below W.heap.size W W') {sp : Nat → Bool} :
    ∀ {ts : List TypeId} {vs : List Value} {ds : List (DataW H)} {ps : List MemPlace}, (∀ t ∈ ts, P.readableRec t = true ∧ t < P.types.size) →
      DataW.TrodAll enc P W 0 (fun _ => true) true ts vs ds ps → (∀ x ∈ ps, x.block < W.heap.size ∧ sp x.block = true) → DataW.TrodAll enc P W' 0 sp true ts vs ds ps
  | [], [], [], _, _, h, _ => h
  | t :: ts, v :: vs, d :: ds, _, ht, ⟨p, q, h1, h2, e⟩, hp => by
    subst e
    refine ⟨p, q, WideElems.Trod_stays hl (ht t (by simp)).1 (ht t (by simp)).2 h1 (fun x hx => hb.same (hp x (by simp [hx])).1) (fun x hx => (hp x (by simp [hx])).2),
      args_stay hl hb (fun u hu => ht u (by simp [hu])) h2 (fun x hx => hp x (by simp [hx])), rfl⟩
  | [], [], _ :: _, _, _, h, _ => h.elim
  | [], _ :: _, _, _, _, h, _ => by simp [DataW.TrodAll] at h
  | _ :: _, [], _, _, _, h, _ => by simp [DataW.TrodAll] at h
  | _ :: _, _ :: _, [], _, _, h, _ => by simp [DataW.TrodAll] at h

/-- The last step of a law's row: it answered true, and whatever lay in memory lies there. -/
theorem law_post {H : Type} {enc : TypeId × Value → H} {P : Program} {f : Func} {s : ChangeSpec} {apart fresh handsOn again : Bool} {W W' : World} {args : Array Value} {ds : List (DataW H)} {before : List MemPlace} {tb : TypeId}
    (hl : laidOutB P = true) (hread : (f.params.toList.all fun t => P.readableRec t && decide (t < P.types.size)) = true)
    (hv : s.vars = []) (hres : f.resultTypes = #[tb]) (htb : P.underlying tb = some .bool)
    (hW : DataW.Whole enc P f.params.toList s.vars apart W args.toList ds [] before)
    (hs : (s.fn H (ds ++ [])).results = [.lit (.bool true)] ∧ (s.fn H (ds ++ [])).args = ds ∧ (s.fn H (ds ++ [])).vars = [])
    (hg : Gr W W') : s.post enc P f apart fresh handsOn again W args (.bool true) W' := by
  have hW' := hW
  obtain ⟨p, q, hA, hV, rfl, hfz, hnd⟩ := hW
  rw [hv] at hV
  obtain ⟨_, rfl⟩ := trodVars_none hV
  have hA' : DataW.TrodAll enc P W 0 (fun _ => true) true f.params.toList args.toList ds p := hA
  refine post_of_same (pa := p) (pv := []) hW' ?_ ?_ ?_ (by simp) (hg.below.frame _) hg.marks (ok_one hres rfl (okWide_bool_mk htb _))
  · intro b sp hd
    rw [hs.1, hres]
    exact trodAll_cons_mk (shut_bool htb _) trodAll_mk0
  · intro sp hsp
    rw [hs.2.1]
    refine args_stay hl hg.below (fun t ht => ?_) hA' (fun x hx => ⟨hW'.lt x (by simpa using hx), hsp x (by simpa using hx)⟩)
    have := List.all_eq_true.1 hread t ht
    simpa using this
  · intro sp _
    rw [hv, hs.2.2]
    rfl

/-! ### What comes in -/
/-- A list of a machine's numbers. -/
def Wf (k : IntKind) (l : List Int) : Prop := ∀ n ∈ l, (Lit.int k n).wf = true
def numD (k : IntKind) (x : Int) : List D := [.v (.int k x)]
def sN (k : IntKind) (l : List Int) : DA := .one (.sl 1 (l.map (numD k)))
def vN (k : IntKind) (x : Int) : DA := .one (.v (.int k x))
theorem getD_num (k : IntKind) (l : List Int) (i : Nat) (h : i < l.length) : (l.map (numD k)).getD i [] = [.v (.int k (l.getD i 0))] := getD_map (numD k) l i 0 h
theorem flat_num (k : IntKind) (l : List Int) : (l.map (numD k)).flatten = l.map fun x => D.v (.int k x) := by
  induction l with
  | nil => rfl
  | cons x l ih => simp [numD, ih]
theorem takeAll {α : Type} {l : List α} {n : Nat} (h : l.length ≤ n) : l.take n = l := List.take_of_length_le h
theorem takeDropAll {α : Type} {l : List α} {i n : Nat} (h : l.length - i ≤ n) : (l.drop i).take n = l.drop i := List.take_of_length_le (by simpa using h)
theorem toNatAdd {a : Int} {n : Nat} (h : 0 ≤ a) : (a + (n : Int)).toNat = a.toNat + n := by omega
theorem toNatSub {a b : Int} (h : 0 ≤ a) (h' : 0 ≤ b) : (a + b).toNat - a.toNat = b.toNat := by omega
theorem dropMap {α β : Type} (f : α → β) (l : List α) (n : Nat) : (l.map f).drop n = (l.drop n).map f := List.map_drop.symm
theorem takeMap {α β : Type} (f : α → β) (l : List α) (n : Nat) : (l.map f).take n = (l.take n).map f := List.map_take.symm
/-- One result, and more. -/
def rB (b : Bool) : RX := .one (.c (.v (.bool b)))
def rN (k : IntKind) (x : Int) : RX := .one (.c (.v (.int k x)))
def rO (k : IntKind) (l : List Int) : RX := .one (.o 1 (l.map (numD k)))
theorem shows_bool {T : Nat → Prop} {w : World} {v : Value} {F : List Nat} {b : Bool} (h : ShowsV T w v [rB b] F) : v = .bool b := by
  cases h with
  | c h => cases h; rfl
theorem ret_of {P : Program} {s : St} {res : List ResultVar} {l : List AX} {r r' : RV} {e : Exit} (he : e = .ret ∨ e = .normal) (h1 : resVs P s res = some l) (h2 : outXs s.hp l = some r) (h3 : (l.flatMap ownsX).Nodup) (h4 : laxR r r') : retA P res r' e s := by
  rcases he with rfl | rfl <;> exact ⟨l, r, h1, h2, h3, h4⟩
section
variable {H : Type} {enc : TypeId × Value → H} {P : Program} {w : World} {base : Nat} {spare : Nat → Bool} {held : Bool} {r : Reach} {b0 : Nat} {t : TypeId} {v : Value} {d : DataW H} {ps : List MemPlace}
/-- A number comes in. -/
theorem in_int {k : IntKind} (ht : P.underlying t = some (.int k)) (hv : Value.okWide P w r b0 t v) (h : DataW.Trod enc P w base spare held t v d ps) {S : Nat → Prop} : ∃ x : Int, (Lit.int k x).wf = true ∧ ShowsA S w v (vN k x) := by
  obtain ⟨n, rfl, _, _, hw⟩ := open_int ht hv h
  exact ⟨n, hw, .v rfl⟩
/-- A slice of numbers comes in. -/
theorem in_ints {k : IntKind} {e : TypeId} (ht : P.underlying t = some (.slice e)) (he : P.underlying e = some (.int k)) (hc : P.cellsOf e = 1) (hv : Value.okWide P w r b0 t v) (h : DataW.Trod enc P w base spare held t v d ps)
    {S : Nat → Prop} (hS : ∀ x ∈ ps, S x.block) : ∃ l : List Int, (Wf k l ∧ l.length ≤ maxLen) ∧ ShowsA S w v (sN k l) := by
  obtain ⟨a0, n0, c0, rfl⟩ := okWide_slice ht hv
  obtain ⟨fuel, hf⟩ := h
  have hcs : (Value.slice a0 n0 c0).cells.toList = [.slice a0 n0 c0] := rfl
  rw [hcs] at hf
  rcases open_ints ht he hc hf with ⟨h1, _⟩ | ⟨a, len, cap, zs, h1, hb, hl, hm, hlen, hx, hcell, hwf⟩
  · simp only [List.cons.injEq, Value.slice.injEq, and_true] at h1
    obtain ⟨rfl, rfl, rfl⟩ := h1
    exact ⟨[], ⟨fun _ h => by (cases h), by simp⟩, .nil⟩
  · simp only [List.cons.injEq, Value.slice.injEq, and_true] at h1
    obtain ⟨rfl, rfl, rfl⟩ := h1
    simp only [Prod.mk.injEq] at hx
    obtain ⟨_, rfl⟩ := hx
    have hle : n0 ≤ zs.length := by rw [hlen]; split <;> omega
    have hlt : (zs.take n0).length = n0 := by simp; omega
    refine ⟨zs.take n0, ⟨fun n hn => hwf n (List.mem_of_mem_take hn), by omega⟩, .sl (fun i => .int k (zs.getD i 0)) (by simp; omega) (fun hne => ?_) hl hm (fun e he => ?_) (fun i c hi => ?_) (fun i c hi => ?_)⟩
    · have hne' : 0 < zs.length := by
        rcases Nat.eq_zero_or_pos zs.length with h0 | h0
        · have : zs = [] := List.length_eq_zero_iff.1 h0
          simp [this] at hne
        · exact h0
      exact hS (.cell a.block (a.off + 0)) (List.mem_map.2 ⟨0, by simpa using hne', rfl⟩)
    · obtain ⟨x, _, rfl⟩ := List.mem_map.1 he; rfl
    · rw [flat_num, List.getElem?_map] at hi
      obtain ⟨x, hx, rfl⟩ := Option.map_eq_some_iff.1 hi
      have := (List.getElem?_eq_some_iff.1 hx).1
      exact hcell i (by omega)
    · rw [flat_num, List.getElem?_map] at hi
      obtain ⟨x, hx, rfl⟩ := Option.map_eq_some_iff.1 hi
      have hlt' := (List.getElem?_eq_some_iff.1 hx).1
      have : zs.getD i 0 = x := by
        rw [List.getElem?_take_of_lt (by omega)] at hx
        simp [List.getD, hx]
      rw [this]
      exact .v rfl
end
end
end Go.Proofs.Ytmhnogmbpoeaeaa.Eng
