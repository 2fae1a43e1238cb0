/-
  Values seen as data: a part of the engine, of no one program. No condition.
-/
import Derived.Test.YtnmpdpijcehofaaE1
namespace Go.Proofs.Ytnmpdpijcehofaa.Eng
set_option linter.all false
noncomputable section
open Go.RowKit

/-- What one cell of the frame, or of the call's own memory, is. -/
inductive AC where
  | d (x : D)
  | own (b L : Nat)
  | view (b lo n L : Nat)
  | ptr (b off : Nat)
  | eptr (b i off L : Nat)
  | cptr (cs : List D)
inductive AX where
  | one (c : AC)
  | agg (cs : List AC)
inductive AV where
  | x (a : AX)
  | tup (l : List AX)
/-- An object of the call's own: a variable (or a struct), or a row behind a slice. -/
inductive Ob where
  | box (cs : List AC)
  | row (sz : Nat) (es : List (List D)) (fz : Bool)
def Ob.mut : Ob → Bool
  | .box _ => true
  | .row _ _ fz => !fz
def Ob.shape (o : Ob) (n : Nat) : Prop :=
  match o with
  | .row sz es _ => 0 < sz ∧ ∀ e ∈ es, e.length = sz
  | .box cs => n = cs.length
def Ob.cells : Ob → List AC
  | .box cs => cs
  | .row _ es _ => es.flatten.map .d
/-- The state: the frame, the call's own memory, the next number of an object, how many temporaries there are. -/
structure St where
  fr : List (Nat × AV)
  hp : List (Nat × Ob)
  nx : Nat
  nt : Nat
def lk {α : Type} (l : List (Nat × α)) (t : Nat) : Option α := List.rec (motive := fun _ => Option α) none (fun p _ ih => bif Nat.beq p.1 t then some p.2 else ih) l
theorem lk_nil {α : Type} (t : Nat) : lk ([] : List (Nat × α)) t = none := rfl
theorem lk_cons {α : Type} (k : Nat) (v : α) (r : List (Nat × α)) (t : Nat) : lk ((k, v) :: r) t = if k = t then some v else lk r t := by
  show (bif Nat.beq k t then some v else lk r t) = _
  by_cases h : k = t
  · subst h; rw [Nat.beq_refl, if_pos rfl]; rfl
  · have : Nat.beq k t = false := by
      cases hb : Nat.beq k t with
      | false => rfl
      | true => exact absurd (Nat.eq_of_beq_eq_true hb) h
    rw [this, if_neg h]; rfl

structure Env where
  S : Nat → Prop
  w : World
  ι : Nat → Option Nat
  H : Nat → Option Ob
  N : Nat → Prop

def nilS : Value := .slice none 0 0

def RepC (E : Env) (x : Value) : AC → Prop
  | .d c => Shows E.S E.w x c
  | .own b L => E.N b ∧ x.oneCell' = true ∧ ∀ sz es fz, E.H b = some (.row sz es fz) → L ≤ es.length ∧ (es.length = L →
      (E.ι b = none ∧ x = nilS) ∨ ∃ g cap, E.ι b = some g ∧ x = .slice (some ⟨g, 0, none⟩) L cap ∧ L ≤ cap ∧ cap ≤ maxLen ∧ ∃ cur ty, E.w.heap[g]? = some (.cells cur ty (0, 0)) ∧ cur.size = cap * sz)
  | .view b lo n L => E.N b ∧ x.oneCell' = true ∧ ∀ sz es fz, E.H b = some (.row sz es fz) → L ≤ es.length ∧ (es.length = L →
      ∃ A cap, x = .slice A n cap ∧ n ≤ cap ∧ cap ≤ maxLen ∧ (A = none → cap = 0) ∧ (0 < n → ∃ g, E.ι b = some g ∧ A = some ⟨g, lo * sz, none⟩))
  | .ptr b off => E.N b ∧ x.oneCell' = true ∧ ∀ cs, E.H b = some (.box cs) → ∃ g, E.ι b = some g ∧ x = .pointer (some ⟨g, off, none⟩)
  | .eptr b i off L => E.N b ∧ x.oneCell' = true ∧ ∀ sz es fz, E.H b = some (.row sz es fz) → L ≤ es.length ∧ (es.length = L → i < L →
      ∃ g, E.ι b = some g ∧ x = .pointer (some ⟨g, i * sz + off, none⟩))
  | .cptr cs => ∃ ad, x = .pointer (some ad) ∧ (cs ≠ [] → E.S ad.block) ∧ ∀ k c, cs[k]? = some c → ∃ y, E.w.cell? (ad.add k) = some y ∧ Shows E.S E.w y c
def RepX (E : Env) (x : Value) : AX → Prop
  | .one c => RepC E x c
  | .agg cs => ∃ arr : Array Value, x = .agg arr ∧ All2 (RepC E) arr.toList cs
def RepV (E : Env) (x : Value) : AV → Prop
  | .x a => RepX E x a
  | .tup l => ∃ arr : Array Value, x = .tuple arr ∧ All2 (RepX E) arr.toList l

theorem RepC.one {E : Env} {x : Value} {c : AC} (h : RepC E x c) : x.oneCell' = true := by
  cases c with
  | d c => exact Shows.one h
  | cptr cs => obtain ⟨ad, rfl, _⟩ := h; rfl
  | _ => exact h.2.1

/-- What an object of the call's own is in memory: nothing (an empty row that is nil), or block g. -/
def RepO (E : Env) (B : Nat) (b : Nat) (o : Ob) : Prop :=
  match E.ι b with
  | none => ∃ sz fz, o = .row sz [] fz
  | some g => B ≤ g ∧ ∃ (cur : Array Value) (ty : TypeId), E.w.heap[g]? = some (.cells cur ty (0, 0)) ∧ (∀ (k : Nat) (c : AC), o.cells[k]? = some c → ∃ y, cur[k]? = some y ∧ RepC E y c) ∧
      o.shape cur.size

/-- A step: what was known before is known behind. -/
structure Step (E E' : Env) : Prop where
  S : ∀ b, E.S b → E'.S b
  c : ∀ a : Addr, E.S a.block → E'.w.cell? a = E.w.cell? a
  N : ∀ b, E.N b → E'.N b
  row : ∀ b sz es fz, E.N b → E'.H b = some (.row sz es fz) → ∃ sz0 es0 fz0, E.H b = some (.row sz0 es0 fz0) ∧
    (((E.ι b = none ∨ sz0 = sz) ∧ es0.length = es.length ∧ E'.ι b = E.ι b ∧ ∀ g, E.ι b = some g → ∀ cur ty, E.w.heap[g]? = some (.cells cur ty (0, 0)) → ∃ cur', E'.w.heap[g]? = some (.cells cur' ty (0, 0)) ∧ cur'.size = cur.size) ∨ es0.length < es.length)
  box : ∀ b cs, E.N b → E'.H b = some (.box cs) → ∃ cs0, E.H b = some (.box cs0) ∧ E'.ι b = E.ι b

theorem RepC.keep {E E' : Env} (h : Step E E') {x : Value} {c : AC} (hr : RepC E x c) : RepC E' x c := by
  cases c with
  | d c => exact Shows.keep h.S h.c hr
  | own b L =>
    obtain ⟨hN, h1, h2⟩ := hr
    refine ⟨h.N b hN, h1, fun sz es fz hb => ?_⟩
    obtain ⟨sz0, es0, fz0, h0, hcase⟩ := h.row b sz es fz hN hb
    obtain ⟨hle, hg⟩ := h2 sz0 es0 fz0 h0
    rcases hcase with ⟨hsz, hl, hi, hgg⟩ | hlt
    · refine ⟨by omega, fun he => ?_⟩
      rcases hg (by omega) with ⟨hn, hx⟩ | ⟨g, cap, hgi, hx, hc, hm, cur, ty, hh, hs⟩
      · exact .inl ⟨hi.trans hn, hx⟩
      · obtain rfl : sz0 = sz := by rcases hsz with h' | h'; rw [h'] at hgi; cases hgi; exact h'
        obtain ⟨cur', hh', hs'⟩ := hgg g hgi cur ty hh
        exact .inr ⟨g, cap, hi.trans hgi, hx, hc, hm, cur', ty, hh', hs'.trans hs⟩
    · exact ⟨by omega, fun he => by omega⟩
  | view b lo n L =>
    obtain ⟨hN, h1, h2⟩ := hr
    refine ⟨h.N b hN, h1, fun sz es fz hb => ?_⟩
    obtain ⟨sz0, es0, fz0, h0, hcase⟩ := h.row b sz es fz hN hb
    obtain ⟨hle, hg⟩ := h2 sz0 es0 fz0 h0
    rcases hcase with ⟨hsz, hl, hi, _⟩ | hlt
    · refine ⟨by omega, fun he => ?_⟩
      obtain ⟨A, cap, hx, hc, hm, hA0, hA⟩ := hg (by omega)
      refine ⟨A, cap, hx, hc, hm, hA0, fun hn => ?_⟩
      obtain ⟨g, hgi, ha⟩ := hA hn
      obtain rfl : sz0 = sz := by rcases hsz with h' | h'; rw [h'] at hgi; cases hgi; exact h'
      exact ⟨g, hi.trans hgi, ha⟩
    · exact ⟨by omega, fun he => by omega⟩
  | ptr b off =>
    obtain ⟨hN, h1, h2⟩ := hr
    refine ⟨h.N b hN, h1, fun cs hb => ?_⟩
    obtain ⟨cs0, h0, hi⟩ := h.box b cs hN hb
    obtain ⟨g, hg, hx⟩ := h2 cs0 h0
    exact ⟨g, hi.trans hg, hx⟩
  | eptr b i off L =>
    obtain ⟨hN, h1, h2⟩ := hr
    refine ⟨h.N b hN, h1, fun sz es fz hb => ?_⟩
    obtain ⟨sz0, es0, fz0, h0, hcase⟩ := h.row b sz es fz hN hb
    obtain ⟨hle, hg⟩ := h2 sz0 es0 fz0 h0
    rcases hcase with ⟨hsz, hl, hi, _⟩ | hlt
    · refine ⟨by omega, fun he hlt => ?_⟩
      obtain ⟨g, hgi, hx⟩ := hg (by omega) hlt
      obtain rfl : sz0 = sz := by rcases hsz with h' | h'; rw [h'] at hgi; cases hgi; exact h'
      exact ⟨g, hi.trans hgi, hx⟩
    · exact ⟨by omega, fun he => by omega⟩
  | cptr cs =>
    obtain ⟨ad, hx, hS, hc⟩ := hr
    refine ⟨ad, hx, fun hne => h.S _ (hS hne), fun k c hk => ?_⟩
    obtain ⟨y, hy, hs⟩ := hc k c hk
    have hne : cs ≠ [] := by rintro rfl; simp at hk
    exact ⟨y, by rw [h.c _ (by rw [add_block]; exact hS hne)]; exact hy, Shows.keep h.S h.c hs⟩
theorem RepX.keep {E E' : Env} (h : Step E E') {x : Value} {a : AX} (hr : RepX E x a) : RepX E' x a := by
  cases a with
  | one c => exact RepC.keep h hr
  | agg cs => obtain ⟨arr, hx, ha⟩ := hr; exact ⟨arr, hx, ha.mono fun _ _ => RepC.keep h⟩
theorem RepV.keep {E E' : Env} (h : Step E E') {x : Value} {a : AV} (hr : RepV E x a) : RepV E' x a := by
  cases a with
  | x a => exact RepX.keep h hr
  | tup l => obtain ⟨arr, hx, ha⟩ := hr; exact ⟨arr, hx, ha.mono fun _ _ => RepX.keep h⟩
/-- An object that the step leaves alone. -/
theorem RepO.keep {E E' : Env} (h : Step E E') {B b : Nat} {o : Ob} (hi : E'.ι b = E.ι b) (hb : ∀ g, E.ι b = some g → E'.w.heap[g]? = E.w.heap[g]?) (hr : RepO E B b o) : RepO E' B b o := by
  unfold RepO at *
  rw [hi]
  cases hg : E.ι b with
  | none => rw [hg] at hr; exact hr
  | some g =>
    rw [hg] at hr
    obtain ⟨h1, cur, ty, h2, h3, h4⟩ := hr
    refine ⟨h1, cur, ty, (hb g hg).trans h2, fun k c hk => ?_, h4⟩
    obtain ⟨y, hy, hc⟩ := h3 k c hk
    exact ⟨y, hy, RepC.keep h hc⟩

/-- Which blocks may be read as data: those that the arguments lead to and the call's new ones, but for those that the call may still write. -/
def Tr (S0 : Nat → Prop) (w : World) (ι : Nat → Option Nat) (H : Nat → Option Ob) (blk : Nat) : Prop :=
  S0 blk ∧ blk < w.heap.size ∧ ∀ b o, H b = some o → o.mut = true → ι b ≠ some blk
def env (S0 : Nat → Prop) (N : Nat → Prop) (s : St) (w : World) (ι : Nat → Option Nat) : Env :=
  ⟨Tr S0 w ι (lk s.hp), w, ι, lk s.hp, N⟩

/-- Where it began: the world then, and what was known of it. -/
structure Base where
  w : World
  E : Env
def botE (w : World) : Env := ⟨fun _ => False, w, fun _ => none, fun _ => none, fun _ => False⟩
theorem Step.bot {w : World} {E : Env} : Step (botE w) E := ⟨fun _ h => h.elim, fun _ h => h.elim, fun _ h => h.elim, fun _ _ _ _ h => h.elim, fun _ _ h => h.elim⟩
def Base.free (B : Base) : Prop := ∀ E, Step B.E E
theorem Step.trans {E E' E'' : Env} (h : Step E E') (k : Step E' E'') : Step E E'' := by
  refine ⟨fun b hb => k.S b (h.S b hb), fun a ha => (k.c a (h.S _ ha)).trans (h.c a ha), fun b hb => k.N b (h.N b hb), fun b sz es fz hN hb => ?_, fun b cs hN hb => ?_⟩
  · obtain ⟨sz1, es1, fz1, h1, hc1⟩ := k.row b sz es fz (h.N b hN) hb
    obtain ⟨sz0, es0, fz0, h0, hc0⟩ := h.row b sz1 es1 fz1 hN h1
    refine ⟨sz0, es0, fz0, h0, ?_⟩
    rcases hc1 with ⟨a1, a2, a3, a4⟩ | a1 <;> rcases hc0 with ⟨b1, b2, b3, b4⟩ | b1
    · refine .inl ⟨?_, b2.trans a2, a3.trans b3, fun g hg cur ty hh => ?_⟩
      · rcases b1 with b1 | b1
        · exact .inl b1
        · rcases a1 with a1 | a1
          · exact .inl (b3.symm.trans a1)
          · exact .inr (b1.trans a1)
      · obtain ⟨c1, q1, q2⟩ := b4 g hg cur ty hh
        obtain ⟨c2, q3, q4⟩ := a4 g (b3.trans hg) c1 ty q1
        exact ⟨c2, q3, q4.trans q2⟩
    · exact .inr (by omega)
    · exact .inr (by omega)
    · exact .inr (by omega)
  · obtain ⟨cs1, h1, e1⟩ := k.box b cs (h.N b hN) hb
    obtain ⟨cs0, h0, e0⟩ := h.box b cs1 hN h1
    exact ⟨cs0, h0, e1.trans e0⟩
structure Rel (S0 : Nat → Prop) (w0 : Base) (N : Nat → Prop) (s : St) (a : Act) (w : World) (ι : Nat → Option Nat) : Prop where
  fr : ∀ t x, lk s.fr t = some x → ∃ v, a.tmps[t]? = some v ∧ RepV (env S0 N s w ι) v x
  ob : ∀ b o, lk s.hp b = some o → N b ∧ RepO (env S0 N s w ι) w0.w.heap.size b o
  inj : ∀ b b' o o' g, lk s.hp b = some o → lk s.hp b' = some o' → ι b = some g → ι b' = some g → b = b'
  gr : Gr w0.w w
  nt : a.tmps.size = s.nt
  df : a.defers = []
  st : Step w0.E (env S0 N s w ι)
def Rl (S0 : Nat → Prop) (w0 : Base) (N : Nat → Prop) (s : St) (a : Act) (w : World) : Prop := ∃ ι, Rel S0 w0 N s a w ι

/-- A temporary is written. -/
theorem Rel.put {S0 : Nat → Prop} {w0 : Base} {N : Nat → Prop} {s : St} {a : Act} {w : World} {ι : Nat → Option Nat} (h : Rel S0 w0 N s a w ι) {d : Nat} {v : Value} {x : AV} (hd : d < s.nt) (hv : RepV (env S0 N s w ι) v x) :
    Rel S0 w0 N { s with fr := (d, x) :: s.fr } (a.put (some d) v) w ι := by
  refine ⟨fun t y ht => ?_, h.ob, h.inj, h.gr, by simp [Act.put, h.nt], h.df, h.st⟩
  rw [lk_cons] at ht
  by_cases hdt : d = t
  · subst hdt
    simp only [if_true] at ht
    cases ht
    exact ⟨v, by simp [Act.put, h.nt, hd], hv⟩
  · rw [if_neg hdt] at ht
    obtain ⟨u, h1, h2⟩ := h.fr t y ht
    exact ⟨u, by simp [Act.put, Array.getElem?_setIfInBounds_ne hdt, h1], h2⟩
/-- A temporary is written of which nothing is known behind. -/
def del {α : Type} (l : List (Nat × α)) (d : Nat) : List (Nat × α) := l.filter fun p => !(p.1 == d)
theorem lk_del {α : Type} (l : List (Nat × α)) (d t : Nat) : lk (del l d) t = if d = t then none else lk l t := by
  induction l with
  | nil => simp [del, lk_nil, lk_cons]
  | cons p l ih =>
    obtain ⟨k, v⟩ := p
    unfold del at *
    by_cases hk : k = d
    · subst hk
      simp only [List.filter_cons, beq_self_eq_true, Bool.not_true, Bool.false_eq_true, if_false, ih, lk_cons]
      split <;> rfl
    · have : (!(k == d)) = true := by simpa using hk
      simp only [List.filter_cons, this, if_true, lk_cons, ih]
      by_cases ht : k = t
      · subst ht; simp [Ne.symm hk]
      · simp [ht]
theorem Rel.forget {S0 : Nat → Prop} {w0 : Base} {N : Nat → Prop} {s : St} {a : Act} {w : World} {ι : Nat → Option Nat} (h : Rel S0 w0 N s a w ι) (d : Nat) (v : Value) :
    Rel S0 w0 N { s with fr := del s.fr d } (a.put (some d) v) w ι := by
  refine ⟨fun t y ht => ?_, h.ob, h.inj, h.gr, by simp [Act.put, h.nt], h.df, h.st⟩
  rw [lk_del] at ht
  by_cases hdt : d = t
  · simp [hdt] at ht
  · rw [if_neg hdt] at ht
    obtain ⟨u, h1, h2⟩ := h.fr t y ht
    exact ⟨u, by simp [Act.put, Array.getElem?_setIfInBounds_ne hdt, h1], h2⟩

/-- The world and the call's own memory turn. -/
theorem Rel.change {S0 : Nat → Prop} {w0 : Base} {N N' : Nat → Prop} {s : St} {a : Act} {w w' : World} {ι ι' : Nat → Option Nat} {hp' : List (Nat × Ob)} {nx' : Nat} (h : Rel S0 w0 N s a w ι)
    (hs : Step (env S0 N s w ι) (env S0 N' { s with hp := hp', nx := nx' } w' ι')) (hg : Gr w0.w w')
    (ho : ∀ b o, lk hp' b = some o → N' b ∧ RepO (env S0 N' { s with hp := hp', nx := nx' } w' ι') w0.w.heap.size b o)
    (hi : ∀ b b' o o' g, lk hp' b = some o → lk hp' b' = some o' → ι' b = some g → ι' b' = some g → b = b') :
    Rel S0 w0 N' { s with hp := hp', nx := nx' } a w' ι' :=
  ⟨fun t x ht => by obtain ⟨v, h1, h2⟩ := h.fr t x ht; exact ⟨v, h1, h2.keep hs⟩, ho, hi, hg, h.nt, h.df, h.st.trans hs⟩
end
end Go.Proofs.Ytnmpdpijcehofaa.Eng
