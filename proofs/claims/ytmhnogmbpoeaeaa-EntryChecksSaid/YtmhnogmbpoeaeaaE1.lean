/-
  Values seen as data: a part of the engine, of no one program. No condition.
-/
import Derived.WalkKit
import Derived.Below
import Derived.Laws.AppendOwn
import Derived.Laws.MakeOwn
import Derived.Laws.OwnMore
import Derived.Laws.CopyRow
import Derived.Laws.Rows
import Derived.Laws.NewBlocks
import Derived.Orders
import Derived.Deep.Draws
namespace Go.Proofs.Ytmhnogmbpoeaeaa.Eng
set_option linter.all false
open Go.RowKit

/-! ### Pointwise -/
inductive All2 {α β : Type} (R : α → β → Prop) : List α → List β → Prop
  | nil : All2 R [] []
  | cons {a b as bs} (h : R a b) (t : All2 R as bs) : All2 R (a :: as) (b :: bs)
theorem All2.length {α β : Type} {R : α → β → Prop} {as : List α} {bs : List β} (h : All2 R as bs) : as.length = bs.length := by
  induction h with
  | nil => rfl
  | cons _ _ ih => simp [ih]
theorem All2.get {α β : Type} {R : α → β → Prop} {as : List α} {bs : List β} (h : All2 R as bs) : ∀ {k : Nat} {b : β}, bs[k]? = some b → ∃ a, as[k]? = some a ∧ R a b := by
  induction h with
  | nil => intro k b hb; simp at hb
  | cons h _ ih =>
    intro k b hb
    cases k with
    | zero => simp at hb; subst hb; exact ⟨_, by simp, h⟩
    | succ k => simpa using ih (by simpa using hb)
theorem All2.get' {α β : Type} {R : α → β → Prop} {as : List α} {bs : List β} (h : All2 R as bs) {k : Nat} {a : α} {b : β} (ha : as[k]? = some a) (hb : bs[k]? = some b) : R a b := by
  obtain ⟨a', h1, h2⟩ := h.get hb
  rw [ha] at h1
  cases h1
  exact h2
theorem All2.of_get {α β : Type} {R : α → β → Prop} : ∀ {as : List α} {bs : List β}, as.length = bs.length → (∀ (k : Nat) (a : α) (b : β), as[k]? = some a → bs[k]? = some b → R a b) → All2 R as bs
  | [], [], _, _ => .nil
  | a :: as, b :: bs, hl, h => .cons (h 0 a b rfl rfl) (All2.of_get (by simpa using hl) fun k x y hx hy => h (k + 1) x y (by simpa using hx) (by simpa using hy))
  | [], _ :: _, hl, _ => by simp at hl
  | _ :: _, [], hl, _ => by simp at hl
theorem All2.mono {α β : Type} {R R' : α → β → Prop} {as : List α} {bs : List β} (h : All2 R as bs) (hr : ∀ a b, R a b → R' a b) : All2 R' as bs := by
  induction h with
  | nil => exact .nil
  | cons h _ ih => exact .cons (hr _ _ h) ih
theorem All2.append {α β : Type} {R : α → β → Prop} {as as' : List α} {bs bs' : List β} (h : All2 R as bs) (h' : All2 R as' bs') : All2 R (as ++ as') (bs ++ bs') := by
  induction h with
  | nil => exact h'
  | cons h _ ih => exact .cons h ih
theorem All2.set {α β : Type} {R : α → β → Prop} {as : List α} {bs : List β} (h : All2 R as bs) (k : Nat) {a : α} {b : β} (hab : R a b) : All2 R (as.set k a) (bs.set k b) := by
  induction h generalizing k with
  | nil => exact .nil
  | cons h t ih =>
    cases k with
    | zero => exact .cons hab t
    | succ k => exact .cons h (ih k)
theorem All2.take {α β : Type} {R : α → β → Prop} {as : List α} {bs : List β} (h : All2 R as bs) (k : Nat) : All2 R (as.take k) (bs.take k) := by
  induction h generalizing k with
  | nil => simpa using All2.nil
  | cons h t ih =>
    cases k with
    | zero => exact .nil
    | succ k => exact .cons h (ih k)
theorem All2.drop {α β : Type} {R : α → β → Prop} {as : List α} {bs : List β} (h : All2 R as bs) (k : Nat) : All2 R (as.drop k) (bs.drop k) := by
  induction h generalizing k with
  | nil => simpa using All2.nil
  | cons h t ih =>
    cases k with
    | zero => exact .cons h t
    | succ k => exact ih k
theorem All2.map_right {α β γ : Type} {R : α → γ → Prop} {f : β → γ} {as : List α} {bs : List β} (h : All2 (fun a b => R a (f b)) as bs) : All2 R as (bs.map f) := by
  induction h with
  | nil => exact .nil
  | cons h _ ih => exact .cons h ih
theorem All2.of_map_right {α β γ : Type} {R : α → γ → Prop} {f : β → γ} : ∀ {as : List α} {bs : List β}, All2 R as (bs.map f) → All2 (fun a b => R a (f b)) as bs
  | [], [], _ => .nil
  | _ :: _, _ :: _, .cons h t => .cons h (All2.of_map_right t)

/-! ### Data -/
/-- One cell: a value that leads to no memory, or a slice, by its elements' cells. -/
inductive D where
  | v (x : Value)
  | sl (sz : Nat) (es : List (List D))
/-- An argument: one cell, or a struct's or array's cells. -/
inductive DA where
  | one (c : D)
  | agg (cs : List D)
/-- A result's cell: data, or a slice that nothing else leads to. -/
inductive RC where
  | c (d : D)
  | o (sz : Nat) (es : List (List D))
inductive RX where
  | one (c : RC)
  | agg (cs : List RC)
abbrev RV := List RX

inductive Shows (S : Nat → Prop) (w : World) : Value → D → Prop
  | v {x : Value} (h : x.oneCell' = true) : Shows S w x (.v x)
  | nil {sz : Nat} : Shows S w (.slice none 0 0) (.sl sz [])
  | sl {ad : Addr} {n cap sz : Nat} {es : List (List D)} (f : Nat → Value) (hn : n = es.length)
      (hS : es ≠ [] → S ad.block) (hc : n ≤ cap) (hm : cap ≤ maxLen) (hw : ∀ e ∈ es, e.length = sz)
      (hr : ∀ k c, es.flatten[k]? = some c → w.cell? (ad.add k) = some (f k))
      (hd : ∀ k c, es.flatten[k]? = some c → Shows S w (f k) c) :
      Shows S w (.slice (some ad) n cap) (.sl sz es)

theorem Shows.one {S : Nat → Prop} {w : World} {x : Value} {d : D} (h : Shows S w x d) : x.oneCell' = true := by
  cases h <;> first | assumption | rfl

theorem add_block (a : Addr) (n : Nat) : (a.add n).block = a.block := by unfold Addr.add; split <;> rfl
theorem add_add' (a : Addr) (i j : Nat) : (a.add i).add j = a.add (i + j) := by
  unfold Addr.add
  by_cases hi : i = 0 <;> by_cases hj : j = 0 <;> simp [hi, hj, Nat.add_assoc]

theorem Shows.keep {S S' : Nat → Prop} {w w' : World} (hS : ∀ b, S b → S' b) (hw : ∀ a : Addr, S a.block → w'.cell? a = w.cell? a) {x : Value} {d : D} (h : Shows S w x d) : Shows S' w' x d := by
  induction h with
  | v h => exact .v h
  | nil => exact .nil
  | @sl ad n cap sz es f hn hs hc hm hwd hr _ ih =>
    refine .sl f hn (fun he => hS _ (hs he)) hc hm hwd (fun k c hk => ?_) ih
    have hne : es ≠ [] := by rintro rfl; simp at hk
    rw [hw _ (by rw [add_block]; exact hs hne)]
    exact hr k c hk

/-- An argument shows its data. -/
def ShowsA (S : Nat → Prop) (w : World) (x : Value) : DA → Prop
  | .one c => Shows S w x c
  | .agg cs => ∃ arr : Array Value, x = .agg arr ∧ All2 (Shows S w) arr.toList cs

/-! ### Own rows in a result -/
/-- Block g holds a row whose first cells are these; the slice is its whole, up to the capacity. -/
structure RowAt (T : Nat → Prop) (w : World) (g cap sz : Nat) (es : List (List D)) : Prop where
  pos : 0 < sz
  le : es.length ≤ cap
  max : cap ≤ maxLen
  width : ∀ e ∈ es, e.length = sz
  cells : ∃ (cur : Array Value) (ty : TypeId), w.heap[g]? = some (.cells cur ty (0, 0)) ∧ cur.size = cap * sz ∧ ∀ (k : Nat) (c : D), es.flatten[k]? = some c → ∃ x, cur[k]? = some x ∧ Shows T w x c

inductive ShowsC (T : Nat → Prop) (w : World) : Value → RC → List Nat → Prop
  | c {x : Value} {d : D} (h : Shows T w x d) : ShowsC T w x (.c d) []
  | nil {sz : Nat} : ShowsC T w (.slice none 0 0) (.o sz []) []
  | o {g cap sz : Nat} {es : List (List D)} {n : Nat} (hn : n = es.length) (h : RowAt T w g cap sz es) : ShowsC T w (.slice (some ⟨g, 0, none⟩) n cap) (.o sz es) [g]
inductive ShowsL {β : Type} (R : Value → β → List Nat → Prop) : List Value → List β → List Nat → Prop
  | nil : ShowsL R [] [] []
  | cons {x : Value} {c : β} {F : List Nat} {xs : List Value} {cs : List β} {G : List Nat} (h : R x c F) (t : ShowsL R xs cs G) : ShowsL R (x :: xs) (c :: cs) (F ++ G)
def ShowsX (T : Nat → Prop) (w : World) (x : Value) (r : RX) (F : List Nat) : Prop :=
  match r with
  | .one c => ShowsC T w x c F
  | .agg cs => ∃ arr : Array Value, x = .agg arr ∧ ShowsL (ShowsC T w) arr.toList cs F
def ShowsV (T : Nat → Prop) (w : World) (x : Value) (r : RV) (F : List Nat) : Prop :=
  match r with
  | [y] => ShowsX T w x y F
  | l => ∃ arr : Array Value, x = .tuple arr ∧ ShowsL (ShowsX T w) arr.toList l F

/-! ### The frame -/
/-- Whatever lay in memory when the call began lies there as it was, and no mark of a frozen cell has turned. -/
structure Gr (w w' : World) : Prop where
  below : Below w.heap.size w w'
  marks : ∀ a, w'.frozen? a = w.frozen? a
theorem Gr.refl (w : World) : Gr w w := ⟨Below.refl _ _, fun _ => rfl⟩
theorem Gr.size {w w' : World} (h : Gr w w') : w.heap.size ≤ w'.heap.size := h.below.size
theorem Gr.trans {a b c : World} (h : Gr a b) (k : Gr b c) : Gr a c :=
  ⟨h.below.trans (k.below.mono h.size), fun x => (k.marks x).trans (h.marks x)⟩
theorem Gr.drewN {a w : World} (h : Gr a w) (n : Nat) : Gr a (w.drewN n) := ⟨⟨h.below.os, h.below.tape, h.below.output, h.below.size, h.below.block⟩, h.marks⟩
theorem Gr.drew {a w : World} (h : Gr a w) : Gr a w.drew := h.drewN 1
theorem Gr.alloc {a w : World} (h : Gr a w) (cs : Array Value) (t : TypeId) : Gr a (w.alloc (.cells cs t)) :=
  ⟨h.below.alloc h.size _, fun x => (frozen?_alloc_cells _ _ _ x).trans (h.marks x)⟩
theorem Gr.setCell {a w : World} (h : Gr a w) {p : Addr} (hp : a.heap.size ≤ p.block) (u : Value) : Gr a (w.setCell p u) :=
  ⟨h.below.setCell hp u, fun x => (World.frozen?_setCell _ _ _ _).trans (h.marks x)⟩
theorem Gr.cell {a w : World} (h : Gr a w) {p : Addr} (hp : p.block < a.heap.size) : w.cell? p = a.cell? p := h.below.cell hp

/-- THE CONTRACT: called with arguments that show these data, the function returns what shows those; old memory lies as it lay; what the results lead to is new, or the arguments'. -/
def Con (P : Program) (f : FuncId) (ds : List DA) (r : RV) : Prop :=
  (∃ fn, P.funcs[f]? = some fn ∧ (fn.name == "runtime.NumGoroutine") = false ∧ fn.body.isNone = false) ∧
  ∀ (S : Nat → Prop) (w : World) (args : Array Value), (∀ b, S b → b < w.heap.size) → All2 (ShowsA S w) args.toList ds →
    Calls P f args w fun e w' => ∃ v F, e = .returned v ∧ ShowsV (fun b => (S b ∨ w.heap.size ≤ b) ∧ b < w'.heap.size ∧ b ∉ F) w' v r F ∧ Gr w w' ∧ F.Nodup ∧ ∀ g ∈ F, w.heap.size ≤ g ∧ g < w'.heap.size
end Go.Proofs.Ytmhnogmbpoeaeaa.Eng
