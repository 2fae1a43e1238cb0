/-
  Values seen as data: a part of the engine, of no one program. No condition.
-/
import Derived.Test.YtnmpdpijcehofaaE22
namespace Go.Proofs.Ytnmpdpijcehofaa.Eng
set_option linter.all false
noncomputable section
open Go.RowKit
section
variable {W : Prop} {P : Program} {K : St → Prop}
theorem RegA.split {dst : Option Nat} {op : Op} {t : Nat} {w : Bool} {rest : List SO} {s : St} {b : Bool} (hb : boolV s t = some b)
    (ht : b = true → RegA W P K (⟨dst, op, some (t, w)⟩ :: rest) (Eng.know s t true)) (hf : b = false → RegA W P K (⟨dst, op, some (t, w)⟩ :: rest) (Eng.know s t false)) : RegA W P K (⟨dst, op, some (t, w)⟩ :: rest) s :=
  .know t hb ht hf
theorem RegA.off1 {dst : Option Nat} {op : Op} {t : Nat} {w : Bool} {rest : List SO} {s : St} (hb : boolV s t = some (!w)) (hd : dstOk s dst = true) (h : RegA W P K rest (skip1 s dst)) : RegA W P K (⟨dst, op, some (t, w)⟩ :: rest) s := .off (.inl hb) hd h
theorem RegA.off2 {dst : Option Nat} {op : Op} {t : Nat} {w : Bool} {rest : List SO} {s : St} (hb : lk s.fr t = some (.tup [])) (hd : dstOk s dst = true) (h : RegA W P K rest (skip1 s dst)) : RegA W P K (⟨dst, op, some (t, w)⟩ :: rest) s := .off (.inr hb) hd h
theorem RegA.done {s : St} {P' : St → Prop} (hK : ∀ s', P' s' → K s') (h : P' s) : RegA W P K [] s := .nil (hK s h)
/-- A condition by a temporary that is decided. -/
theorem Awp.ct {c : Operand} {x y : SC} {Q : Exit → St → Prop} {s : St} (hc : evP s c = some (.bool true)) (h : Awp W P x Q s) : Awp W P (.cond c x y) Q s :=
  .cond hc (fun _ => h) (fun e => by cases e)
theorem Awp.cf {c : Operand} {x y : SC} {Q : Exit → St → Prop} {s : St} (hc : evP s c = some (.bool false)) (h : Awp W P y Q s) : Awp W P (.cond c x y) Q s :=
  .cond hc (fun e => by cases e) (fun _ => h)
/-! Conditions that are to be discharged. -/
theorem ite_and {p q : Prop} [Decidable (p ∧ q)] {α : Type} {x y : α} (h : p ∧ q) : (if p ∧ q then x else y) = x := if_pos h
theorem ite_le {a b : Nat} {α : Type} {x y : α} (h : a ≤ b) : (if a ≤ b then x else y) = x := if_pos h
theorem ite_lt {a b : Nat} {α : Type} {x y : α} (h : a < b) : (if a < b then x else y) = x := if_pos h
theorem ite_eq {a b : Nat} {α : Type} {x y : α} (h : a = b) : (if a = b then x else y) = x := if_pos h
theorem ite_lei {a b : Int} {α : Type} {x y : α} (h : a ≤ b) : (if a ≤ b then x else y) = x := if_pos h
theorem ite_lti {a b : Int} {α : Type} {x y : α} (h : a < b) : (if a < b then x else y) = x := if_pos h
theorem ite_nei {a b : Int} {α : Type} {x y : α} (h : ¬ a = b) : (if a = b then x else y) = y := if_neg h
theorem viaK {K' P' : St → Prop} {s : St} (hK : ∀ s', P' s' → K' s') (h : P' s) : K' s := hK s h
theorem thenQ_normal {K' : St → Prop} {Q : Exit → St → Prop} {s : St} : thenQ K' Q .normal s = K' s := rfl
theorem blockQ_normal {id : Nat} {Q : Exit → St → Prop} {s : St} : blockQ id Q .normal s = Q .normal s := rfl
/-! Drawn regions, step by step. -/
theorem Awp.draw' {l : List SO} {pre A : List (List Nat)} {Q : Exit → St → Prop} {s : St} (hA : ancs pre = A) (hp : preOk pre = true) (hd : drawOk l A = true) (h : DrawA P (Q .normal) s A l l []) : Awp W P (.draw l pre) Q s := by
  subst hA
  exact .draw hp hd h
def idsOk (lo n : Nat) (ups : List (Nat × Ob)) : Bool := ups.all fun p => Nat.ble lo p.1 && Nat.blt p.1 (lo + n)
theorem DrawA.op' {s0 sj : St} {A : List (List Nat)} {l rest : List SO} {xs : Ents} {dst : Option Nat} {op : Op} {g : Option (Nat × Bool)} {e : Eff} {sd : Nat} (hsd : s0.nx + 16 * xs.length = sd) (hs : Eng.mk (A.getD xs.length []) 0 l xs s0 = sj) (hd : dstOk s0 dst = true) (hg : gOk sj g)
    (he : effect P sj sd op = some e) (hc : Nat.ble e.cnt 14 = true) (hn : idsOk sd e.cnt e.ups = true) (h : DrawA P K s0 A l rest (xs ++ [some e])) : DrawA P K s0 A l (⟨dst, op, g⟩ :: rest) xs := by
  subst hs hsd
  refine .op hd hg (.inl he) (Nat.le_of_ble_eq_true hc) (fun p hp => ?_) h
  have := List.all_eq_true.1 hn p hp
  simp only [Bool.and_eq_true, Nat.ble_eq, Nat.blt_eq] at this
  exact this
theorem DrawA.call' {s0 sj : St} {A : List (List Nat)} {l rest : List SO} {xs : Ents} {dst : Option Nat} {f : FuncId} {args : Array Operand} {ts : Array TypeId} {g : Option (Nat × Bool)} {vs : List AV} {ds : List DA} {r : RV} {sd : Nat} (hsd : s0.nx + 16 * xs.length = sd) (hs : Eng.mk (A.getD xs.length []) 0 l xs s0 = sj) (hd : dstOk s0 dst = true) (hg : gOk sj g)
    (hv : evL sj args.toList = some vs) (ha : argL sj.hp vs = some ds) (hc : Con P f ds r) (hfz : vs.flatMap idsX = [] ∨ Flat r) (hc14 : Nat.ble ((unV' sd r).2.2 - sd) 14 = true)
    (hn : idsOk sd ((unV' sd r).2.2 - sd) (unV' sd r).2.1 = true)
    (h : DrawA P K s0 A l rest (xs ++ [some ⟨some (unV' sd r).1, (unV' sd r).2.1, (unV' sd r).2.2 - sd⟩])) : DrawA P K s0 A l (⟨dst, .call ⟨.value (.func f), args, ts⟩, g⟩ :: rest) xs := by
  subst hs hsd
  refine .op hd hg (.inr ⟨f, args, ts, vs, ds, r, rfl, hv, ha, hc, hfz, rfl⟩) (Nat.le_of_ble_eq_true hc14) (fun p hp => ?_) h
  have := List.all_eq_true.1 hn p hp
  simp only [Bool.and_eq_true, Nat.ble_eq, Nat.blt_eq] at this
  exact this
theorem DrawA.off' {s0 sj : St} {A : List (List Nat)} {l rest : List SO} {xs : Ents} {dst : Option Nat} {op : Op} {t : Nat} {w : Bool} (hs : Eng.mk (A.getD xs.length []) 0 l xs s0 = sj) (hd : dstOk s0 dst = true) (hb : boolV sj t = some (!w)) (h : DrawA P K s0 A l rest (xs ++ [none])) : DrawA P K s0 A l (⟨dst, op, some (t, w)⟩ :: rest) xs := by
  subst hs
  exact .off hd (.inl hb) h
theorem DrawA.off2' {s0 sj : St} {A : List (List Nat)} {l rest : List SO} {xs : Ents} {dst : Option Nat} {op : Op} {t : Nat} {w : Bool} (hs : Eng.mk (A.getD xs.length []) 0 l xs s0 = sj) (hd : dstOk s0 dst = true) (hb : lk sj.fr t = some (.tup [])) (h : DrawA P K s0 A l rest (xs ++ [none])) : DrawA P K s0 A l (⟨dst, op, some (t, w)⟩ :: rest) xs := by
  subst hs
  exact .off hd (.inr hb) h
theorem DrawA.split' {s0 sj : St} {A : List (List Nat)} {l rest : List SO} {xs : Ents} {dst : Option Nat} {op : Op} {t : Nat} {w b : Bool} (_hs : Eng.mk (A.getD xs.length []) 0 l xs s0 = sj) (_hb : boolV sj t = some b) (ht : b = true → DrawA P K s0 A l (⟨dst, op, some (t, w)⟩ :: rest) xs)
    (hf : b = false → DrawA P K s0 A l (⟨dst, op, some (t, w)⟩ :: rest) xs) : DrawA P K s0 A l (⟨dst, op, some (t, w)⟩ :: rest) xs := .split b ht hf
def mkAll : List SO → Ents → St → St
  | o :: l, x :: xs, s => mkAll l xs (match x with
      | some e => put1 s o.dst e.val e.ups s.nx
      | none => skip1 s o.dst)
  | _, _, s => s
theorem mk_all (anc : List Nat) : ∀ (l : List SO) (xs : Ents) (i : Nat) (s : St), (∀ k, i ≤ k → k < i + l.length → anc.contains k = true) → Eng.mk anc i l xs s = mkAll l xs s
  | [], xs, i, s, _ => by cases xs <;> rfl
  | o :: l, [], i, s, _ => rfl
  | o :: l, x :: xs, i, s, h => by
    rw [mk_cons, if_pos (h i (Nat.le_refl _) (by simp)), mk_all anc l xs (i + 1) _ (fun k hk hk' => h k (by omega) (by simp; omega))]
    rfl
theorem DrawA.nil' {s0 sf : St} {A : List (List Nat)} {l : List SO} {xs : Ents} {P' : St → Prop} {n' : Nat} (hn : s0.nx + 16 * l.length = n') (hs : { mkAll l xs s0 with nx := n' } = sf) (hK : ∀ s', P' s' → K s') (h : P' sf) : DrawA P K s0 A l [] xs := by
  subst hs hn
  refine .nil (hK _ ?_)
  rw [mk_all (allIn l.length) l xs 0 s0 (fun k _ hk => by simp [allIn]; omega)]
  exact h
end
theorem Awp.draw2 {W : Prop} {P : Program} {l : List SO} {pre A : List (List Nat)} {Q : Exit → St → Prop} {s : St} (m : Nat) {l0 tl : List SO} (h0 : l.take m = l0) (h1 : l.drop m = tl) (hA : ancs pre = A) (hp : preOk pre = true) (hd : drawOk l0 A = true) (ht : tailOk l0.length tl.length A = true)
    (h : DrawA P (fun s' => RegA W P (Q .normal) tl s') s A l0 l0 []) : Awp W P (.draw l pre) Q s := by
  subst hA
  rw [← List.take_append_drop m l, h0, h1]
  exact .drawT hp hd ht h
theorem Awp.draw3 {W : Prop} {P : Program} {l : List SO} {pre A : List (List Nat)} {Q : Exit → St → Prop} {s s1 : St} (m : Nat) {l0 tl : List SO} (h0 : l.take m = l0) (h1 : l.drop m = tl) (hA : ancs pre = A) (hp : preOk pre = true) (hd : drawOk l0 A = true) (ht : tailOk l0.length tl.length A = true)
    (hs : { s with nx := s.nx + 16 * l0.length } = s1) (h : DrawP P (fun s' => RegA W P (Q .normal) tl s') l0 s1) : Awp W P (.draw l pre) Q s := by
  subst hA hs
  rw [← List.take_append_drop m l, h0, h1]
  exact .drawP hp hd ht h
theorem DrawP.split {P : Program} {K : St → Prop} {dst : Option Nat} {op : Op} {t : Nat} {w : Bool} {rest : List SO} {s : St} {b : Bool} (hb : boolV s t = some b)
    (ht : b = true → DrawP P K (⟨dst, op, some (t, w)⟩ :: rest) (Eng.know s t true)) (hf : b = false → DrawP P K (⟨dst, op, some (t, w)⟩ :: rest) (Eng.know s t false)) : DrawP P K (⟨dst, op, some (t, w)⟩ :: rest) s :=
  .know t hb ht hf
theorem DrawP.off1 {P : Program} {K : St → Prop} {dst : Option Nat} {op : Op} {t : Nat} {w : Bool} {rest : List SO} {s : St} (hb : boolV s t = some (!w)) (hd : dstOk s dst = true) (h : DrawP P K rest (skip1 s dst)) : DrawP P K (⟨dst, op, some (t, w)⟩ :: rest) s := .off hd (.inl hb) h
theorem DrawP.off2 {P : Program} {K : St → Prop} {dst : Option Nat} {op : Op} {t : Nat} {w : Bool} {rest : List SO} {s : St} (hb : lk s.fr t = some (.tup [])) (hd : dstOk s dst = true) (h : DrawP P K rest (skip1 s dst)) : DrawP P K (⟨dst, op, some (t, w)⟩ :: rest) s := .off hd (.inr hb) h
theorem DrawA.nilT {W : Prop} {P : Program} {s0 sf : St} {A : List (List Nat)} {l tl : List SO} {xs : Ents} {K : St → Prop} {n' : Nat} (hn : s0.nx + 16 * l.length = n') (hs : { mkAll l xs s0 with nx := n' } = sf) (h : RegA W P K tl sf) : DrawA P (fun s' => RegA W P K tl s') s0 A l [] xs := by
  subst hs hn
  refine .nil ?_
  rw [mk_all (allIn l.length) l xs 0 s0 (fun k _ hk => by simp [allIn]; omega)]
  exact h
/-- An element's cells, by its number. -/
theorem getD_map {α : Type} (f : α → List D) (l : List α) (i : Nat) (d : α) (h : i < l.length) : (l.map f).getD i [] = f (l.getD i d) := by
  simp [List.getD, h]
end
end Go.Proofs.Ytnmpdpijcehofaa.Eng
