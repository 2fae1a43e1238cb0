/-
  Values seen as data: a part of the engine, of no one program. No condition.
-/
import Derived.Test.YtnmpdpijcehofaaE38
namespace Go.Proofs.Ytnmpdpijcehofaa.Eng
set_option linter.all false
noncomputable section
open Go.RowKit

/-- What is to be shown of a piece of code. -/
inductive Awp (W : Prop) (P : Program) : SC → (Exit → St → Prop) → St → Prop
  | skip {Q s} (h : Q .normal s) : Awp W P .skip Q s
  | reg {l Q s} (h : RegA W P (Q .normal) l s) : Awp W P (.reg l) Q s
  | seq {x y Q s} (K : St → Prop) (hK : ∀ s', K s' → Awp W P y Q s') (h : Awp W P x (thenQ K Q) s) : Awp W P (.seq x y) Q s
  | cond {c x y Q s b} (hc : evP s c = some (.bool b)) (ht : b = true → Awp W P x Q s) (hf : b = false → Awp W P y Q s) : Awp W P (.cond c x y) Q s
  | block {id c Q s} (h : Awp W P c (blockQ id Q) s) : Awp W P (.block id c) Q s
  | loop {c Q s} {α : Type} (I : α → St) (μ : α → Nat) (x0 : α) (ρ : List (Nat × Nat)) (hw : Wk (rho ρ) (I x0) s)
      (h : ∀ x, Awp W P c (thenQ (fun s' => ∃ y ρ, Wk (rho ρ) (I y) s' ∧ μ y < μ x) Q) (I x)) (hW : W := by trivial) : Awp W P (.loop c) Q s
  | scope {c Q s} (h : Awp W P c (scopeQ Q) s) : Awp W P (.scope c) Q s
  | draw {l pre Q s} (hp : preOk pre = true) (hd : drawOk l (ancs pre) = true) (h : DrawA P (Q .normal) s (ancs pre) l l []) : Awp W P (.draw l pre) Q s
  | drawT {l tl pre Q s} (hp : preOk pre = true) (hd : drawOk l (ancs pre) = true) (ht : tailOk l.length tl.length (ancs pre) = true) (h : DrawA P (fun s' => RegA W P (Q .normal) tl s') s (ancs pre) l l []) : Awp W P (.draw (l ++ tl) pre) Q s
  | drawP {l tl pre Q s} (hp : preOk pre = true) (hd : drawOk l (ancs pre) = true) (ht : tailOk l.length tl.length (ancs pre) = true) (h : DrawP P (fun s' => RegA W P (Q .normal) tl s') l { s with nx := s.nx + 16 * l.length }) : Awp W P (.draw (l ++ tl) pre) Q s
  | exit {id Q s} (h : Q (.exit id) s) : Awp W P (.exit id) Q s
  | goto {l Q s} (h : Q (.goto l) s) : Awp W P (.goto l) Q s
  | ret {Q s} (h : Q .ret s) : Awp W P .ret Q s
  | weak {c Q s s0} (ρ : List (Nat × Nat)) (hw : Wk (rho ρ) s0 s) (h : Awp W P c Q s0) (hW : W := by trivial) : Awp W P c Q s
theorem awp_seq {W : Prop} {P : Program} {x y : SC} {Q : Exit → St → Prop} {s : St} (h : ∀ K, (∀ s', Awp W P y Q s' → K s') → Awp W P x (thenQ K Q) s) : Awp W P (.seq x y) Q s :=
  .seq (Awp W P y Q) (fun _ h => h) (h _ fun _ h => h)

section
variable {P : Program} {U : Nat → Prop} {w0 : Base}
theorem awp_sound {W : Prop} (hfree : W → w0.free) (hm : P.follows .mixedOrders = true) (hU : ∀ b, w0.w.heap.size ≤ b → U b) {sc : SC} {Q : Exit → St → Prop} {s : St} (hA : Awp W P sc Q s) : ∀ (c : Code) (_ : slim c = some sc) (Q' : Exit → Act → World → Prop) (a : Act) (w : World),
    (∀ e s a w, Q e s → RS U w0 s a w → Q' e a w) → RS U w0 s a w → c.wp P Q' a w := by
  induction hA with
  | skip hk =>
    intro c hs Q' a w hQ h
    cases c with
    | skip => exact wp_skip (hQ _ _ _ _ hk h)
    | label l => exact wp_label (hQ _ _ _ _ hk h)
    | region id ops draw => simp only [slim] at hs; split at hs <;> (try split at hs) <;> simp at hs
    | seq x y => simp only [slim] at hs; split at hs <;> simp at hs
    | cond c x y => simp only [slim] at hs; split at hs <;> simp at hs
    | _ => simp [slim] at hs
  | @reg l Q s hr =>
    intro c hs Q' a w hQ h
    cases c with
    | region id ops draw =>
      simp only [slim] at hs
      split at hs
      · rename_i l' hl
        cases draw with
        | true => simp at hs
        | false =>
          simp only [Bool.false_eq_true, if_false, Option.some.injEq, SC.reg.injEq] at hs
          subst hs
          exact wp_region_list (regA_sound hfree hU (fun s' a' w' hk hr => hQ _ _ _ _ hk hr) hr (slimR_ok hl) a w h)
      · cases hs
    | seq x y => simp only [slim] at hs; split at hs <;> simp at hs
    | cond c x y => simp only [slim] at hs; split at hs <;> simp at hs
    | _ => simp [slim] at hs
  | @seq x y Q s K hK _ ihK ih =>
    intro c hs Q' a w hQ h
    cases c with
    | seq cx cy =>
      simp only [slim] at hs
      split at hs
      · rename_i x' y' h1 h2
        cases hs
        refine wp_seq (ih cx h1 _ a w (fun e s a w hq hr => ?_) h)
        cases e with
        | normal => exact ihK _ hq cy h2 _ a w hQ hr
        | _ => exact hQ _ _ _ _ hq hr
      · cases hs
    | region id ops draw => simp only [slim] at hs; split at hs <;> (try split at hs) <;> simp at hs
    | cond c x y => simp only [slim] at hs; split at hs <;> simp at hs
    | _ => simp [slim] at hs
  | @cond c x y Q s b hc _ _ iht ihf =>
    intro code hs Q' a w hQ h
    cases code with
    | cond c' cx cy =>
      simp only [slim] at hs
      split at hs
      · rename_i x' y' h1 h2
        cases hs
        have h' := h
        obtain ⟨ι, hr⟩ := h
        have hcv : a.eval c = .bool b := hr.evP hc
        cases b with
        | true => exact wp_cond_true hcv (iht rfl cx h1 _ a w hQ h')
        | false => exact wp_cond_false hcv (ihf rfl cy h2 _ a w hQ h')
      · cases hs
    | region id ops draw => simp only [slim] at hs; split at hs <;> (try split at hs) <;> simp at hs
    | seq x y => simp only [slim] at hs; split at hs <;> simp at hs
    | _ => simp [slim] at hs
  | @block id c Q s _ ih =>
    intro code hs Q' a w hQ h
    cases code with
    | block id' c' =>
      simp only [slim, Option.map_eq_some_iff, SC.block.injEq] at hs
      obtain ⟨sc', h1, rfl, rfl⟩ := hs
      refine wp_block (ih c' h1 _ a w (fun e s a w hq hr => ?_) h)
      cases e with
      | exit id' =>
        simp only [blockQ] at hq
        simp only [Exit.inBlock]
        split at hq
        · rename_i he; rw [if_pos he]; exact hQ _ _ _ _ hq hr
        · rename_i he; rw [if_neg he]; exact hQ _ _ _ _ hq hr
      | _ => exact hQ _ _ _ _ hq hr
    | region id ops draw => simp only [slim] at hs; split at hs <;> (try split at hs) <;> simp at hs
    | seq x y => simp only [slim] at hs; split at hs <;> simp at hs
    | cond c x y => simp only [slim] at hs; split at hs <;> simp at hs
    | _ => simp [slim] at hs
  | @loop c Q s α I μ x0 ρ hw _ hW ih =>
    intro code hs Q' a w hQ h
    cases code with
    | loop c' =>
      simp only [slim, Option.map_eq_some_iff, SC.loop.injEq] at hs
      obtain ⟨sc', hsc, rfl⟩ := hs
      have key : ∀ n (x : α) a w, μ x = n → RS U w0 (I x) a w → ∀ (b : Frame) (k : List Item) (cs : List Frame), ∃ e a' w', Q' e a' w' ∧ Arrives P (lone (b.at a (.code c' :: .inLoop c' :: k)) cs w) b k cs e a' w' := by
        intro n
        induction n using Nat.strongRecOn with
        | _ n ihn =>
          intro x a w hn hr b k cs
          have hround := ih x c' hsc (Exit.then (fun a' w' => ∃ y, RS U w0 (I y) a' w' ∧ μ y < n) Q') a w (fun e s a w hq hr => by
            cases e with
            | normal =>
              obtain ⟨y, ρ, hw, hlt⟩ := hq
              exact ⟨y, RS.weak (hfree hW) hw hr, hn ▸ hlt⟩
            | _ => exact hQ _ _ _ _ hq hr) hr
          obtain ⟨e, a₁, w₁, hq, harr⟩ := hround b (.inLoop c' :: k) cs
          cases e with
          | normal =>
            obtain ⟨y, hr1, hlt⟩ := hq
            obtain ⟨e₂, a₂, w₂, hq₂, harr₂⟩ := ihn (μ y) hlt y a₁ w₁ rfl hr1 b k cs
            exact ⟨e₂, a₂, w₂, hq₂, .of_steps (Steps.trans harr (.one step_inLoop)) harr₂⟩
          | exit id => exact ⟨_, a₁, w₁, hq, .pass (x := .inLoop c') rfl (fun _ _ => .inl (by simp)) harr⟩
          | goto l => exact ⟨_, a₁, w₁, hq, .pass (x := .inLoop c') rfl (fun _ _ => .inl (by simp)) harr⟩
          | ret => exact ⟨_, a₁, w₁, hq, .pass (x := .inLoop c') rfl (fun _ _ => .inl (by simp)) harr⟩
          | panic ch => exact ⟨_, a₁, w₁, hq, .pass (x := .inLoop c') rfl (fun _ _ => .inl (by simp)) harr⟩
          | outgrown => exact ⟨_, a₁, w₁, hq, .pass (x := .inLoop c') rfl (fun _ _ => .inl (by simp)) harr⟩
      intro b k cs
      obtain ⟨e, a', w', hq, harr⟩ := key _ x0 a w rfl (RS.weak (hfree hW) hw h) b k cs
      exact ⟨e, a', w', hq, .of_steps (.one step_loop) harr⟩
    | region id ops draw => simp only [slim] at hs; split at hs <;> (try split at hs) <;> simp at hs
    | seq x y => simp only [slim] at hs; split at hs <;> simp at hs
    | cond c x y => simp only [slim] at hs; split at hs <;> simp at hs
    | _ => simp [slim] at hs
  | @scope c Q s _ ih =>
    intro code hs Q' a w hQ h
    cases code with
    | scope c' =>
      simp only [slim, Option.map_eq_some_iff, SC.scope.injEq] at hs
      obtain ⟨sc', h1, rfl⟩ := hs
      refine wp_scope_straight (ih c' h1 _ a w (fun e s a w hq hr => ?_) h)
      cases e with
      | goto l => exact hq
      | _ => exact hQ _ _ _ _ hq hr
    | region id ops draw => simp only [slim] at hs; split at hs <;> (try split at hs) <;> simp at hs
    | seq x y => simp only [slim] at hs; split at hs <;> simp at hs
    | cond c x y => simp only [slim] at hs; split at hs <;> simp at hs
    | _ => simp [slim] at hs
  | @exit id Q s hk =>
    intro c hs Q' a w hQ h
    cases c with
    | exit id' => simp only [slim, Option.some.injEq, SC.exit.injEq] at hs; subst hs; exact wp_exit (hQ _ _ _ _ hk h)
    | region id ops draw => simp only [slim] at hs; split at hs <;> (try split at hs) <;> simp at hs
    | seq x y => simp only [slim] at hs; split at hs <;> simp at hs
    | cond c x y => simp only [slim] at hs; split at hs <;> simp at hs
    | _ => simp [slim] at hs
  | @goto l Q s hk =>
    intro c hs Q' a w hQ h
    cases c with
    | goto l' => simp only [slim, Option.some.injEq, SC.goto.injEq] at hs; subst hs; exact wp_goto (hQ _ _ _ _ hk h)
    | region id ops draw => simp only [slim] at hs; split at hs <;> (try split at hs) <;> simp at hs
    | seq x y => simp only [slim] at hs; split at hs <;> simp at hs
    | cond c x y => simp only [slim] at hs; split at hs <;> simp at hs
    | _ => simp [slim] at hs
  | @ret Q s hk =>
    intro c hs Q' a w hQ h
    cases c with
    | ret => exact wp_ret (hQ _ _ _ _ hk h)
    | region id ops draw => simp only [slim] at hs; split at hs <;> (try split at hs) <;> simp at hs
    | seq x y => simp only [slim] at hs; split at hs <;> simp at hs
    | cond c x y => simp only [slim] at hs; split at hs <;> simp at hs
    | _ => simp [slim] at hs
  | @draw l pre Q s hp hd hr =>
    intro c hs Q' a w hQ h
    cases c with
    | region id ops draw =>
      simp only [slim] at hs
      split at hs
      · rename_i l' hl
        cases draw with
        | false => simp at hs
        | true =>
          simp only [if_true, Option.some.injEq, SC.draw.injEq] at hs
          obtain ⟨rfl, hpre⟩ := hs
          obtain ⟨xs, hlen, hE, hK⟩ := draw_ents hp hr [] rfl rfl (fun j o x _ hx => by simp at hx)
          have hT : Trace P s pre l' xs := ⟨hlen, hE, fun i j o o' t hi hj h1 h2 => drawOk_uniq hd hi hj h1 h2, fun i j o o' t hi hj h1 h2 hne => drawOk_cmp hd hi hj h1 h2 hne⟩
          obtain ⟨ι, h⟩ := h
          refine wp_region_any hm ?_
          have hset : setOf ops.size (Array.replicate ops.size false) = [] := by
            unfold setOf
            refine List.filter_eq_nil_iff.2 fun j hj => ?_
            have : j < ops.size := by simpa using hj
            simp [this]
          have hmk : Like s (mk [] 0 l' xs s) := by
            refine ⟨fun t => (mk_fr_old [] t l' xs 0 s (fun _ _ _ hc => by simp at hc)).symm, fun b => (mk_hp_old [] b l' xs 0 s (fun _ _ _ _ hc => by simp at hc)).symm, (mk_nt _ _ _ _ _).1.symm⟩
          have hw : Rel U w0 (Lt s.nx) s a { w with drawn := w.drawn + 1 } ι := h.world (Gr.refl w).drew (fun _ _ h => h)
          refine draw_any hT hp hpre.symm hU (fun b o hb => (h.ob b o hb).1) (slimR_ok hl) (fun a' w' hr' => hQ _ _ _ _ hK hr') ops.size _ a _ ι (by simp) ?_ ?_ ?_
          · unfold left
            exact Nat.le_trans (List.countP_le_length) (by simp)
          · intro k hk
            rw [hset] at hk
            cases hk
          · rw [hset]
            exact ((hw.like hmk).weakN (nx' := (mk [] 0 l' xs s).nx) fun b hb => .inl hb)
      · cases hs
    | seq x y => simp only [slim] at hs; split at hs <;> simp at hs
    | cond c x y => simp only [slim] at hs; split at hs <;> simp at hs
    | _ => simp [slim] at hs
  | @drawT l tl pre Q s hp hd ht hr =>
    intro c hs Q' a w hQ h
    cases c with
    | region id ops draw =>
      simp only [slim] at hs
      split at hs
      · rename_i l' hl
        cases draw with
        | false => simp at hs
        | true =>
          simp only [if_true, Option.some.injEq, SC.draw.injEq] at hs
          obtain ⟨hll, hpre⟩ := hs
          subst hll
          obtain ⟨xs, hlen, hE, hK⟩ := draw_ents hp hr [] rfl rfl (fun j o x _ hx => by simp at hx)
          have hT : Trace P s pre l xs := ⟨hlen, hE, fun i j o o' t hi hj h1 h2 => drawOk_uniq hd hi hj h1 h2, fun i j o o' t hi hj h1 h2 hne => drawOk_cmp hd hi hj h1 h2 hne⟩
          obtain ⟨ι, h⟩ := h
          refine wp_region_any hm ?_
          have hset : setOf l.length (Array.replicate ops.size false) = [] := by
            unfold setOf
            refine List.filter_eq_nil_iff.2 fun j hj => ?_
            cases hd : (Array.replicate ops.size false).getD j false with
            | false => simp
            | true => simp [Array.getD] at hd
          have hmk : Like s (mk [] 0 l xs s) := by
            refine ⟨fun t => (mk_fr_old [] t l xs 0 s (fun _ _ _ hc => by simp at hc)).symm, fun b => (mk_hp_old [] b l xs 0 s (fun _ _ _ _ hc => by simp at hc)).symm, (mk_nt _ _ _ _ _).1.symm⟩
          have hw : Rel U w0 (Lt s.nx) s a { w with drawn := w.drawn + 1 } ι := h.world (Gr.refl w).drew (fun _ _ h => h)
          have hsl := slimR_ok hl
          have htl : All2 (SOk ops) (ops.toList.drop l.length) tl := by
            have := hsl.drop l.length
            rwa [List.drop_left] at this
          refine draw_anyT hT hp hpre.symm hU (fun b o hb => (h.ob b o hb).1) hsl ht (fun a' w' hr' => regA_sound hfree hU (fun s' a' w' hk hr => hQ _ _ _ _ hk hr) hK htl a' w' hr') ops.size _ a _ ι (by simp) ?_ (fun j hj => ?_) ?_ ?_
          · unfold left
            exact Nat.le_trans (List.countP_le_length) (by simp)
          · cases hd : (Array.replicate ops.size false).getD j false with
            | false => rfl
            | true => simp [Array.getD] at hd
          · intro k hk
            rw [hset] at hk
            cases hk
          · rw [hset]
            exact ((hw.like hmk).weakN (nx' := (mk [] 0 l xs s).nx) fun b hb => .inl hb)
      · cases hs
    | seq x y => simp only [slim] at hs; split at hs <;> simp at hs
    | cond c x y => simp only [slim] at hs; split at hs <;> simp at hs
    | _ => simp [slim] at hs
  | @drawP l tl pre Q s hp hd ht hr0 =>
    intro c hs Q' a w hQ h
    cases c with
    | region id ops draw =>
      simp only [slim] at hs
      split at hs
      · rename_i l' hl
        cases draw with
        | false => simp at hs
        | true =>
          simp only [if_true, Option.some.injEq, SC.draw.injEq] at hs
          obtain ⟨hll, hpre⟩ := hs
          subst hll
          have hr := drawP_A (s0 := s) hp hd hr0 [] [] rfl rfl rfl rfl (fun x hx => by cases hx) (fun _ => rfl) (fun t => by
            have e : ∀ (l : List SO), mk (allIn l.length) 0 l [] s = s := fun l => by cases l <;> rfl
            rw [e])
          obtain ⟨xs, hlen, hE, s1, hlk, hnx1, hK⟩ := draw_ents hp hr [] rfl rfl (fun j o x _ hx => by simp at hx)
          have hT : Trace P s pre l xs := ⟨hlen, hE, fun i j o o' t hi hj h1 h2 => drawOk_uniq hd hi hj h1 h2, fun i j o o' t hi hj h1 h2 hne => drawOk_cmp hd hi hj h1 h2 hne⟩
          obtain ⟨ι, h⟩ := h
          refine wp_region_any hm ?_
          have hset : setOf l.length (Array.replicate ops.size false) = [] := by
            unfold setOf
            refine List.filter_eq_nil_iff.2 fun j hj => ?_
            cases hd : (Array.replicate ops.size false).getD j false with
            | false => simp
            | true => simp [Array.getD] at hd
          have hmk : Like s (mk [] 0 l xs s) := by
            refine ⟨fun t => (mk_fr_old [] t l xs 0 s (fun _ _ _ hc => by simp at hc)).symm, fun b => (mk_hp_old [] b l xs 0 s (fun _ _ _ _ hc => by simp at hc)).symm, (mk_nt _ _ _ _ _).1.symm⟩
          have hw : Rel U w0 (Lt s.nx) s a { w with drawn := w.drawn + 1 } ι := h.world (Gr.refl w).drew (fun _ _ h => h)
          have hsl := slimR_ok hl
          have htl : All2 (SOk ops) (ops.toList.drop l.length) tl := by
            have := hsl.drop l.length
            rwa [List.drop_left] at this
          refine draw_anyT hT hp hpre.symm hU (fun b o hb => (h.ob b o hb).1) hsl ht (fun a' w' hr' => regA_sound hfree hU (fun s' a' w' hk hr => hQ _ _ _ _ hk hr) hK htl a' w' (by
            obtain ⟨ι', hr'⟩ := hr'
            have := hr'.like hlk
            exact ⟨ι', by rw [hnx1]; exact this⟩)) ops.size _ a _ ι (by simp) ?_ (fun j hj => ?_) ?_ ?_
          · unfold left
            exact Nat.le_trans (List.countP_le_length) (by simp)
          · cases hd : (Array.replicate ops.size false).getD j false with
            | false => rfl
            | true => simp [Array.getD] at hd
          · intro k hk
            rw [hset] at hk
            cases hk
          · rw [hset]
            exact ((hw.like hmk).weakN (nx' := (mk [] 0 l xs s).nx) fun b hb => .inl hb)
      · cases hs
    | seq x y => simp only [slim] at hs; split at hs <;> simp at hs
    | cond c x y => simp only [slim] at hs; split at hs <;> simp at hs
    | _ => simp [slim] at hs
  | weak ρ hw _ hW ih => exact fun c hs Q' a w hQ h => ih c hs Q' a w hQ (RS.weak (hfree hW) hw h)
end
end
end Go.Proofs.Ytnmpdpijcehofaa.Eng
