/-
  Loops with what they keep, calls by number. A part of the engine, of no one program. No condition.
-/
import Derived.Test.YtnmpdpijcehofaaE32
namespace Go.Proofs.Ytnmpdpijcehofaa.Eng
set_option linter.all false
noncomputable section
open Go.RowKit
section
variable {P : Program}
/-- A loop: what turns, by the round's state; what stays, by its numbers. -/
theorem Awp.loopK {c : SC} {Q : Exit → St → Prop} {s : St} {α : Type} (fr' : α → List (Nat × AV)) (hp' : α → List (Nat × Ob)) (ks hs : List Nat) (μ : α → Nat) (x0 : α) (ρ : List (Nat × Nat)) {F : List (Nat × AV)} {H : List (Nat × Ob)} {nx nt : Nat}
    (hF : ks.filterMap (fun k => (lk s.fr k).map fun v => (k, v)) = F) (hH : hs.filterMap (fun k => (lk s.hp k).map fun v => (k, v)) = H) (hnx : s.nx = nx) (hnt : s.nt = nt)
    (hw : Wk (rho ρ) ⟨fr' x0 ++ F, hp' x0 ++ H, nx, nt⟩ s) (h : ∀ x, Awp True P c (thenQ (fun s' => ∃ y ρ, Wk (rho ρ) ⟨fr' y ++ F, hp' y ++ H, nx, nt⟩ s' ∧ μ y < μ x) Q) ⟨fr' x ++ F, hp' x ++ H, nx, nt⟩) : Awp True P (.loop c) Q s := by
  subst hF hH hnx hnt
  exact Awp.loop (fun x => ⟨fr' x ++ _, hp' x ++ _, _, _⟩) μ x0 ρ hw h
theorem laxD_refl (d : D) : laxD d d := .inl rfl
theorem laxDs_refl : ∀ ds : List D, laxDs ds ds
  | [] => trivial
  | d :: ds => ⟨.inl rfl, laxDs_refl ds⟩
theorem laxA_refl (d : DA) : laxA d d := by
  cases d with
  | one c => exact .inl rfl
  | agg cs => exact laxDs_refl cs
theorem laxAs_refl : ∀ ds : List DA, laxAs ds ds
  | [] => trivial
  | d :: ds => ⟨laxA_refl d, laxAs_refl ds⟩
/-- A call by a contract on data, whoever names the function. -/
theorem RegA.callC {K : St → Prop} {dst : Option Nat} {x : Operand} {args : Array Operand} {ts : Array TypeId} {g : Option (Nat × Bool)} {rest : List SO} {s : St} (f : FuncId) (fz : Bool) {vs : List AV} {ds ds' : List DA} {r : RV} (hg : gOk s g) (hd : dstOk s dst = true)
    (hf : evP s x = some (.func (.func f) #[] #[])) (hv : evL s args.toList = some vs) (ha : argL s.hp vs = some ds) (hc : Con P f ds' r) (hl : laxAs ds ds') (hfz : fz = true ∨ Flat r)
    (h : RegA True P K rest (put1 { s with hp := callHp s fz vs } dst (some (unV' s.nx r).1) (unV' s.nx r).2.1 (unV' s.nx r).2.2)) : RegA True P K (⟨dst, .call ⟨.value x, args, ts⟩, g⟩ :: rest) s :=
  .callH hg hd hf hv (con_callH (hc.lax hl) ha hfz) (by
    have e : put1 { s with hp := (unV' s.nx r).2.1 ++ callHp (mem s.hp s.nx) fz vs, nx := (unV' s.nx r).2.2 } dst (some (unV' s.nx r).1) [] (unV' s.nx r).2.2 = put1 { s with hp := callHp s fz vs } dst (some (unV' s.nx r).1) (unV' s.nx r).2.1 (unV' s.nx r).2.2 := by
      simp [put1, callHp, mem]
    rw [e]; exact h)
theorem RegA.callD {K : St → Prop} {dst : Option Nat} {x : Operand} {args : Array Operand} {ts : Array TypeId} {g : Option (Nat × Bool)} {rest : List SO} {s : St} (f : FuncId) (fz : Bool) {vs : List AV} {ds : List DA} {r : RV} (hg : gOk s g) (hd : dstOk s dst = true)
    (hf : evP s x = some (.func (.func f) #[] #[])) (hv : evL s args.toList = some vs) (ha : argL s.hp vs = some ds) (hc : Con P f ds r) (hfz : fz = true ∨ Flat r)
    (h : RegA True P K rest (put1 { s with hp := callHp s fz vs } dst (some (unV' s.nx r).1) (unV' s.nx r).2.1 (unV' s.nx r).2.2)) : RegA True P K (⟨dst, .call ⟨.value x, args, ts⟩, g⟩ :: rest) s :=
  RegA.callC f fz hg hd hf hv ha hc (laxAs_refl ds) hfz h
end
end
end Go.Proofs.Ytnmpdpijcehofaa.Eng
