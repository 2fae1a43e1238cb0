/-
  Values seen as data: a part of the engine, of no one program. No condition.
-/
import Derived.Test.YtmhnogmbpoeaeaaE1
import Derived.Handy
import Derived.Laws.StructEq
namespace Go.Proofs.Ytmhnogmbpoeaeaa.Eng
set_option linter.all false
noncomputable section
open Go.RowKit

/-- What one cell of the frame, or of the call's own memory, is. -/
inductive AC where
  | d (x : D)
  | own (b L : Nat)
  | view (b lo n L : Nat)
  | ptr (b off : Nat)
  | eptr (b i off L : Nat)
  | cptr (cs : List D)
  | clo (f : FuncId) (bs : List Nat)
  /-- A slice over variables of the call's own (lists of lists). -/
  | bsl (b n : Nat)
  /-- A pointer to an array that is a row: its elements are the row's. -/
  | aptr (b L : Nat)
  /-- A map of the call's own. -/
  | mpt (b : Nat)
inductive AX where
  | one (c : AC)
  | agg (cs : List AC)
inductive AV where
  | x (a : AX)
  | tup (l : List AX)
/-- An object of the call's own: a variable (or a struct), or a row behind a slice. -/
inductive Ob where
  | box (cs : List AC)
  | row (sz : Nat) (es : List (List D)) (fz : Bool)
  /-- A map from numbers, in the order in which they came. -/
  | mp (kd : IntKind) (kv : List (Int × Value))
def Ob.isMp : Ob → Bool
  | .mp _ _ => true
  | _ => false
def Ob.mut : Ob → Bool
  | .box _ => true
  | .mp _ _ => true
  | .row _ _ fz => !fz
def Ob.shape (o : Ob) (n : Nat) : Prop :=
  match o with
  | .row sz es _ => 0 < sz ∧ ∀ e ∈ es, e.length = sz
  | .box cs => n = cs.length
  | .mp _ _ => True
def Ob.cells : Ob → List AC
  | .box cs => cs
  | .row _ es _ => es.flatten.map .d
  | .mp _ _ => []
/-- The state: the frame, the call's own memory, the next number of an object, how many temporaries there are. -/
structure St where
  fr : List (Nat × AV)
  hp : List (Nat × Ob)
  nx : Nat
  nt : Nat
def lk {α : Type} (l : List (Nat × α)) (t : Nat) : Option α := List.rec (motive := fun _ => Option α) none (fun p _ ih => bif Nat.beq p.1 t then some p.2 else ih) l
theorem lk_nil {α : Type} (t : Nat) : lk ([] : List (Nat × α)) t = none := rfl
theorem lk_cons {α : Type} (k : Nat) (v : α) (r : List (Nat × α)) (t : Nat) : lk ((k, v) :: r) t = if k = t then some v else lk r t := by
  show (bif Nat.beq k t then some v else lk r t) = _
  by_cases h : k = t
  · subst h; rw [Nat.beq_refl, if_pos rfl]; rfl
  · have : Nat.beq k t = false := by
      cases hb : Nat.beq k t with
      | false => rfl
      | true => exact absurd (Nat.eq_of_beq_eq_true hb) h
    rw [this, if_neg h]; rfl

structure Env where
  S : Nat → Prop
  w : World
  ι : Nat → Option Nat
  H : Nat → Option Ob
  N : Nat → Prop

def nilS : Value := .slice none 0 0

/-- A pointer to a variable of the call's own. -/
def RepP (E : Env) (x : Value) (b off : Nat) : Prop := E.N b ∧ x.oneCell' = true ∧ ∀ cs, E.H b = some (.box cs) → ∃ g, E.ι b = some g ∧ x = .pointer (some ⟨g, off, none⟩)
def RepC (E : Env) (x : Value) : AC → Prop
  | .d c => Shows E.S E.w x c
  | .own b L => E.N b ∧ x.oneCell' = true ∧ ∀ sz es fz, E.H b = some (.row sz es fz) → L ≤ es.length ∧ (es.length = L →
      (E.ι b = none ∧ x = nilS) ∨ ∃ g cap, E.ι b = some g ∧ x = .slice (some ⟨g, 0, none⟩) L cap ∧ L ≤ cap ∧ cap ≤ maxLen ∧ ∃ cur ty, E.w.heap[g]? = some (.cells cur ty (0, 0)) ∧ cur.size = cap * sz)
  | .view b lo n L => E.N b ∧ x.oneCell' = true ∧ ∀ sz es fz, E.H b = some (.row sz es fz) → L ≤ es.length ∧ (es.length = L →
      ∃ A cap, x = .slice A n cap ∧ n ≤ cap ∧ cap ≤ maxLen ∧ (A = none → cap = 0) ∧ (0 < n → ∃ g, E.ι b = some g ∧ A = some ⟨g, lo * sz, none⟩))
  | .ptr b off => E.N b ∧ x.oneCell' = true ∧ ∀ cs, E.H b = some (.box cs) → ∃ g, E.ι b = some g ∧ x = .pointer (some ⟨g, off, none⟩)
  | .eptr b i off L => E.N b ∧ x.oneCell' = true ∧ ∀ sz es fz, E.H b = some (.row sz es fz) → L ≤ es.length ∧ (es.length = L → i < L →
      ∃ g, E.ι b = some g ∧ x = .pointer (some ⟨g, i * sz + off, none⟩))
  | .cptr cs => ∃ ad, x = .pointer (some ad) ∧ (cs ≠ [] → E.S ad.block) ∧ ∀ k c, cs[k]? = some c → ∃ y, E.w.cell? (ad.add k) = some y ∧ Shows E.S E.w y c
  | .clo f bs => ∃ arr : Array Value, x = .func (.func f) #[] arr ∧ All2 (fun v b => RepP E v b 0) arr.toList bs
  | .bsl b n => E.N b ∧ x.oneCell' = true ∧ ∀ cs, E.H b = some (.box cs) → ∃ g cap, E.ι b = some g ∧ x = .slice (some ⟨g, 0, none⟩) n cap ∧ n ≤ cap ∧ cap ≤ maxLen
  | .aptr b L => E.N b ∧ x.oneCell' = true ∧ ∀ sz es fz, E.H b = some (.row sz es fz) → L ≤ es.length ∧ (es.length = L →
      ∃ g, E.ι b = some g ∧ x = .pointer (some ⟨g, 0, none⟩) ∧ ∃ cur ty, E.w.heap[g]? = some (.cells cur ty (0, 0)) ∧ cur.size = L * sz)
  | .mpt b => E.N b ∧ x.oneCell' = true ∧ ∀ kd kv, E.H b = some (.mp kd kv) → ∃ g, E.ι b = some g ∧ x = .map (some g)
def RepX (E : Env) (x : Value) : AX → Prop
  | .one c => RepC E x c
  | .agg cs => ∃ arr : Array Value, x = .agg arr ∧ All2 (RepC E) arr.toList cs
def RepV (E : Env) (x : Value) : AV → Prop
  | .x a => RepX E x a
  | .tup l => ∃ arr : Array Value, x = .tuple arr ∧ All2 (RepX E) arr.toList l

theorem RepC.one {E : Env} {x : Value} {c : AC} (h : RepC E x c) : x.oneCell' = true := by
  cases c with
  | d c => exact Shows.one h
  | cptr cs => obtain ⟨ad, rfl, _⟩ := h; rfl
  | clo f bs => obtain ⟨arr, rfl, _⟩ := h; rfl
  | _ => exact h.2.1

/-- What an object of the call's own is in memory: nothing (an empty row that is nil), or block g. -/
def RepO (E : Env) (B : Nat) (b : Nat) (o : Ob) : Prop :=
  match E.ι b with
  | none => ∃ sz fz, o = .row sz [] fz
  | some g => B ≤ g ∧ ((∃ (cur : Array Value) (ty : TypeId), E.w.heap[g]? = some (.cells cur ty (0, 0)) ∧ (∀ (k : Nat) (c : AC), o.cells[k]? = some c → ∃ y, cur[k]? = some y ∧ RepC E y c) ∧
      o.shape cur.size ∧ o.isMp = false) ∨ ∃ (kd : IntKind) (kv : List (Int × Value)) (es : Array MapEntry) (clock : Nat), o = .mp kd kv ∧ E.w.heap[g]? = some (.map es clock) ∧ es.toList.map (fun e => (e.key, e.val)) = kv.map fun p => (Value.int kd p.1, p.2))

/-- A step: what was known before is known behind. -/
structure Step (E E' : Env) : Prop where
  S : ∀ b, E.S b → E'.S b
  c : ∀ a : Addr, E.S a.block → E'.w.cell? a = E.w.cell? a
  N : ∀ b, E.N b → E'.N b
  row : ∀ b sz es fz, E.N b → E'.H b = some (.row sz es fz) → ∃ sz0 es0 fz0, E.H b = some (.row sz0 es0 fz0) ∧
    (((E.ι b = none ∨ sz0 = sz) ∧ es0.length = es.length ∧ E'.ι b = E.ι b ∧ ∀ g, E.ι b = some g → ∀ cur ty, E.w.heap[g]? = some (.cells cur ty (0, 0)) → ∃ cur', E'.w.heap[g]? = some (.cells cur' ty (0, 0)) ∧ cur'.size = cur.size) ∨ es0.length < es.length)
  box : ∀ b cs, E.N b → E'.H b = some (.box cs) → ∃ cs0, E.H b = some (.box cs0) ∧ E'.ι b = E.ι b
  mp : ∀ b kd kv, E.N b → E'.H b = some (.mp kd kv) → ∃ kv0, E.H b = some (.mp kd kv0) ∧ E'.ι b = E.ι b

theorem RepP.keep {E E' : Env} (h : Step E E') {x : Value} {b off : Nat} (hr : RepP E x b off) : RepP E' x b off := by
  obtain ⟨hN, h1, h2⟩ := hr
  refine ⟨h.N b hN, h1, fun cs hb => ?_⟩
  obtain ⟨cs0, h0, hi⟩ := h.box b cs hN hb
  obtain ⟨g, hg, hx⟩ := h2 cs0 h0
  exact ⟨g, hi.trans hg, hx⟩
theorem RepC.keep {E E' : Env} (h : Step E E') {x : Value} {c : AC} (hr : RepC E x c) : RepC E' x c := by
  cases c with
  | d c => exact Shows.keep h.S h.c hr
  | own b L =>
    obtain ⟨hN, h1, h2⟩ := hr
    refine ⟨h.N b hN, h1, fun sz es fz hb => ?_⟩
    obtain ⟨sz0, es0, fz0, h0, hcase⟩ := h.row b sz es fz hN hb
    obtain ⟨hle, hg⟩ := h2 sz0 es0 fz0 h0
    rcases hcase with ⟨hsz, hl, hi, hgg⟩ | hlt
    · refine ⟨by omega, fun he => ?_⟩
      rcases hg (by omega) with ⟨hn, hx⟩ | ⟨g, cap, hgi, hx, hc, hm, cur, ty, hh, hs⟩
      · exact .inl ⟨hi.trans hn, hx⟩
      · obtain rfl : sz0 = sz := by rcases hsz with h' | h'; rw [h'] at hgi; cases hgi; exact h'
        obtain ⟨cur', hh', hs'⟩ := hgg g hgi cur ty hh
        exact .inr ⟨g, cap, hi.trans hgi, hx, hc, hm, cur', ty, hh', hs'.trans hs⟩
    · exact ⟨by omega, fun he => by omega⟩
  | view b lo n L =>
    obtain ⟨hN, h1, h2⟩ := hr
    refine ⟨h.N b hN, h1, fun sz es fz hb => ?_⟩
    obtain ⟨sz0, es0, fz0, h0, hcase⟩ := h.row b sz es fz hN hb
    obtain ⟨hle, hg⟩ := h2 sz0 es0 fz0 h0
    rcases hcase with ⟨hsz, hl, hi, _⟩ | hlt
    · refine ⟨by omega, fun he => ?_⟩
      obtain ⟨A, cap, hx, hc, hm, hA0, hA⟩ := hg (by omega)
      refine ⟨A, cap, hx, hc, hm, hA0, fun hn => ?_⟩
      obtain ⟨g, hgi, ha⟩ := hA hn
      obtain rfl : sz0 = sz := by rcases hsz with h' | h'; rw [h'] at hgi; cases hgi; exact h'
      exact ⟨g, hi.trans hgi, ha⟩
    · exact ⟨by omega, fun he => by omega⟩
  | ptr b off =>
    obtain ⟨hN, h1, h2⟩ := hr
    refine ⟨h.N b hN, h1, fun cs hb => ?_⟩
    obtain ⟨cs0, h0, hi⟩ := h.box b cs hN hb
    obtain ⟨g, hg, hx⟩ := h2 cs0 h0
    exact ⟨g, hi.trans hg, hx⟩
  | eptr b i off L =>
    obtain ⟨hN, h1, h2⟩ := hr
    refine ⟨h.N b hN, h1, fun sz es fz hb => ?_⟩
    obtain ⟨sz0, es0, fz0, h0, hcase⟩ := h.row b sz es fz hN hb
    obtain ⟨hle, hg⟩ := h2 sz0 es0 fz0 h0
    rcases hcase with ⟨hsz, hl, hi, _⟩ | hlt
    · refine ⟨by omega, fun he hlt => ?_⟩
      obtain ⟨g, hgi, hx⟩ := hg (by omega) hlt
      obtain rfl : sz0 = sz := by rcases hsz with h' | h'; rw [h'] at hgi; cases hgi; exact h'
      exact ⟨g, hi.trans hgi, hx⟩
    · exact ⟨by omega, fun he => by omega⟩
  | clo f bs => obtain ⟨arr, hx, h2⟩ := hr; exact ⟨arr, hx, h2.mono fun _ _ hp => hp.keep h⟩
  | bsl b n =>
    obtain ⟨hN, h1, h2⟩ := hr
    refine ⟨h.N b hN, h1, fun cs hb => ?_⟩
    obtain ⟨cs0, h0, hi⟩ := h.box b cs hN hb
    obtain ⟨g, cap, hg, hx⟩ := h2 cs0 h0
    exact ⟨g, cap, hi.trans hg, hx⟩
  | aptr b L =>
    obtain ⟨hN, h1, h2⟩ := hr
    refine ⟨h.N b hN, h1, fun sz es fz hb => ?_⟩
    obtain ⟨sz0, es0, fz0, h0, hcase⟩ := h.row b sz es fz hN hb
    obtain ⟨hle, hg⟩ := h2 sz0 es0 fz0 h0
    rcases hcase with ⟨hsz, hl, hi, hgg⟩ | hlt
    · refine ⟨by omega, fun he => ?_⟩
      obtain ⟨g, hgi, hx, cur, ty, hh, hs⟩ := hg (by omega)
      obtain rfl : sz0 = sz := by rcases hsz with h' | h'; rw [h'] at hgi; cases hgi; exact h'
      obtain ⟨cur', hh', hs'⟩ := hgg g hgi cur ty hh
      exact ⟨g, hi.trans hgi, hx, cur', ty, hh', hs'.trans hs⟩
    · exact ⟨by omega, fun he => by omega⟩
  | mpt b =>
    obtain ⟨hN, h1, h2⟩ := hr
    refine ⟨h.N b hN, h1, fun kd kv hb => ?_⟩
    obtain ⟨kv0, h0, hi⟩ := h.mp b kd kv hN hb
    obtain ⟨g, hg, hx⟩ := h2 kd kv0 h0
    exact ⟨g, hi.trans hg, hx⟩
  | cptr cs =>
    obtain ⟨ad, hx, hS, hc⟩ := hr
    refine ⟨ad, hx, fun hne => h.S _ (hS hne), fun k c hk => ?_⟩
    obtain ⟨y, hy, hs⟩ := hc k c hk
    have hne : cs ≠ [] := by rintro rfl; simp at hk
    exact ⟨y, by rw [h.c _ (by rw [add_block]; exact hS hne)]; exact hy, Shows.keep h.S h.c hs⟩
theorem RepX.keep {E E' : Env} (h : Step E E') {x : Value} {a : AX} (hr : RepX E x a) : RepX E' x a := by
  cases a with
  | one c => exact RepC.keep h hr
  | agg cs => obtain ⟨arr, hx, ha⟩ := hr; exact ⟨arr, hx, ha.mono fun _ _ => RepC.keep h⟩
theorem RepV.keep {E E' : Env} (h : Step E E') {x : Value} {a : AV} (hr : RepV E x a) : RepV E' x a := by
  cases a with
  | x a => exact RepX.keep h hr
  | tup l => obtain ⟨arr, hx, ha⟩ := hr; exact ⟨arr, hx, ha.mono fun _ _ => RepX.keep h⟩
/-- An object that the step leaves alone. -/
theorem RepO.keep {E E' : Env} (h : Step E E') {B b : Nat} {o : Ob} (hi : E'.ι b = E.ι b) (hb : ∀ g, E.ι b = some g → E'.w.heap[g]? = E.w.heap[g]?) (hr : RepO E B b o) : RepO E' B b o := by
  unfold RepO at *
  rw [hi]
  cases hg : E.ι b with
  | none => rw [hg] at hr; exact hr
  | some g =>
    rw [hg] at hr
    obtain ⟨h1, ⟨cur, ty, h2, h3, h4⟩ | ⟨kd, kv, es, clock, h2, h3, h4⟩⟩ := hr
    · refine ⟨h1, .inl ⟨cur, ty, (hb g hg).trans h2, fun k c hk => ?_, h4⟩⟩
      obtain ⟨y, hy, hc⟩ := h3 k c hk
      exact ⟨y, hy, RepC.keep h hc⟩
    · exact ⟨h1, .inr ⟨kd, kv, es, clock, h2, (hb g hg).trans h3, h4⟩⟩

/-- Which blocks may be read as data: those that the arguments lead to and the call's new ones, but for those that the call may still write. -/
def Tr (S0 : Nat → Prop) (w : World) (ι : Nat → Option Nat) (H : Nat → Option Ob) (blk : Nat) : Prop :=
  S0 blk ∧ blk < w.heap.size ∧ ∀ b o, H b = some o → o.mut = true → ι b ≠ some blk
def env (S0 : Nat → Prop) (N : Nat → Prop) (s : St) (w : World) (ι : Nat → Option Nat) : Env :=
  ⟨Tr S0 w ι (lk s.hp), w, ι, lk s.hp, N⟩

/-- Where it began: the world then, and what was known of it. -/
structure Base where
  w : World
  E : Env
def botE (w : World) : Env := ⟨fun _ => False, w, fun _ => none, fun _ => none, fun _ => False⟩
theorem Step.bot {w : World} {E : Env} : Step (botE w) E := ⟨fun _ h => h.elim, fun _ h => h.elim, fun _ h => h.elim, fun _ _ _ _ h => h.elim, fun _ _ h => h.elim, fun _ _ _ h => h.elim⟩
def Base.free (B : Base) : Prop := ∀ E, Step B.E E
theorem Step.trans {E E' E'' : Env} (h : Step E E') (k : Step E' E'') : Step E E'' := by
  refine ⟨fun b hb => k.S b (h.S b hb), fun a ha => (k.c a (h.S _ ha)).trans (h.c a ha), fun b hb => k.N b (h.N b hb), fun b sz es fz hN hb => ?_, fun b cs hN hb => ?_, fun b kd kv hN hb => ?_⟩
  · obtain ⟨sz1, es1, fz1, h1, hc1⟩ := k.row b sz es fz (h.N b hN) hb
    obtain ⟨sz0, es0, fz0, h0, hc0⟩ := h.row b sz1 es1 fz1 hN h1
    refine ⟨sz0, es0, fz0, h0, ?_⟩
    rcases hc1 with ⟨a1, a2, a3, a4⟩ | a1 <;> rcases hc0 with ⟨b1, b2, b3, b4⟩ | b1
    · refine .inl ⟨?_, b2.trans a2, a3.trans b3, fun g hg cur ty hh => ?_⟩
      · rcases b1 with b1 | b1
        · exact .inl b1
        · rcases a1 with a1 | a1
          · exact .inl (b3.symm.trans a1)
          · exact .inr (b1.trans a1)
      · obtain ⟨c1, q1, q2⟩ := b4 g hg cur ty hh
        obtain ⟨c2, q3, q4⟩ := a4 g (b3.trans hg) c1 ty q1
        exact ⟨c2, q3, q4.trans q2⟩
    · exact .inr (by omega)
    · exact .inr (by omega)
    · exact .inr (by omega)
  · obtain ⟨cs1, h1, e1⟩ := k.box b cs (h.N b hN) hb
    obtain ⟨cs0, h0, e0⟩ := h.box b cs1 hN h1
    exact ⟨cs0, h0, e1.trans e0⟩
  · obtain ⟨cs1, h1, e1⟩ := k.mp b kd kv (h.N b hN) hb
    obtain ⟨cs0, h0, e0⟩ := h.mp b kd cs1 hN h1
    exact ⟨cs0, h0, e1.trans e0⟩
structure Rel (S0 : Nat → Prop) (w0 : Base) (N : Nat → Prop) (s : St) (a : Act) (w : World) (ι : Nat → Option Nat) : Prop where
  fr : ∀ t x, lk s.fr t = some x → ∃ v, a.tmps[t]? = some v ∧ RepV (env S0 N s w ι) v x
  ob : ∀ b o, lk s.hp b = some o → N b ∧ RepO (env S0 N s w ι) w0.w.heap.size b o
  inj : ∀ b b' o o' g, lk s.hp b = some o → lk s.hp b' = some o' → ι b = some g → ι b' = some g → b = b'
  gr : Gr w0.w w
  nt : a.tmps.size = s.nt
  df : a.defers = []
  st : Step w0.E (env S0 N s w ι)
def Rl (S0 : Nat → Prop) (w0 : Base) (N : Nat → Prop) (s : St) (a : Act) (w : World) : Prop := ∃ ι, Rel S0 w0 N s a w ι

/-- A temporary is written. -/
theorem Rel.put {S0 : Nat → Prop} {w0 : Base} {N : Nat → Prop} {s : St} {a : Act} {w : World} {ι : Nat → Option Nat} (h : Rel S0 w0 N s a w ι) {d : Nat} {v : Value} {x : AV} (hd : d < s.nt) (hv : RepV (env S0 N s w ι) v x) :
    Rel S0 w0 N { s with fr := (d, x) :: s.fr } (a.put (some d) v) w ι := by
  refine ⟨fun t y ht => ?_, h.ob, h.inj, h.gr, by simp [Act.put, h.nt], h.df, h.st⟩
  rw [lk_cons] at ht
  by_cases hdt : d = t
  · subst hdt
    simp only [if_true] at ht
    cases ht
    exact ⟨v, by simp [Act.put, h.nt, hd], hv⟩
  · rw [if_neg hdt] at ht
    obtain ⟨u, h1, h2⟩ := h.fr t y ht
    exact ⟨u, by simp [Act.put, Array.getElem?_setIfInBounds_ne hdt, h1], h2⟩
/-- A temporary is written of which nothing is known behind. -/
def del {α : Type} (l : List (Nat × α)) (d : Nat) : List (Nat × α) := l.filter fun p => !(p.1 == d)
theorem lk_del {α : Type} (l : List (Nat × α)) (d t : Nat) : lk (del l d) t = if d = t then none else lk l t := by
  induction l with
  | nil => simp [del, lk_nil, lk_cons]
  | cons p l ih =>
    obtain ⟨k, v⟩ := p
    unfold del at *
    by_cases hk : k = d
    · subst hk
      simp only [List.filter_cons, beq_self_eq_true, Bool.not_true, Bool.false_eq_true, if_false, ih, lk_cons]
      split <;> rfl
    · have : (!(k == d)) = true := by simpa using hk
      simp only [List.filter_cons, this, if_true, lk_cons, ih]
      by_cases ht : k = t
      · subst ht; simp [Ne.symm hk]
      · simp [ht]
theorem Rel.forget {S0 : Nat → Prop} {w0 : Base} {N : Nat → Prop} {s : St} {a : Act} {w : World} {ι : Nat → Option Nat} (h : Rel S0 w0 N s a w ι) (d : Nat) (v : Value) :
    Rel S0 w0 N { s with fr := del s.fr d } (a.put (some d) v) w ι := by
  refine ⟨fun t y ht => ?_, h.ob, h.inj, h.gr, by simp [Act.put, h.nt], h.df, h.st⟩
  rw [lk_del] at ht
  by_cases hdt : d = t
  · simp [hdt] at ht
  · rw [if_neg hdt] at ht
    obtain ⟨u, h1, h2⟩ := h.fr t y ht
    exact ⟨u, by simp [Act.put, Array.getElem?_setIfInBounds_ne hdt, h1], h2⟩

/-- The world and the call's own memory turn. -/
theorem Rel.change {S0 : Nat → Prop} {w0 : Base} {N N' : Nat → Prop} {s : St} {a : Act} {w w' : World} {ι ι' : Nat → Option Nat} {hp' : List (Nat × Ob)} {nx' : Nat} (h : Rel S0 w0 N s a w ι)
    (hs : Step (env S0 N s w ι) (env S0 N' { s with hp := hp', nx := nx' } w' ι')) (hg : Gr w0.w w')
    (ho : ∀ b o, lk hp' b = some o → N' b ∧ RepO (env S0 N' { s with hp := hp', nx := nx' } w' ι') w0.w.heap.size b o)
    (hi : ∀ b b' o o' g, lk hp' b = some o → lk hp' b' = some o' → ι' b = some g → ι' b' = some g → b = b') :
    Rel S0 w0 N' { s with hp := hp', nx := nx' } a w' ι' :=
  ⟨fun t x ht => by obtain ⟨v, h1, h2⟩ := h.fr t x ht; exact ⟨v, h1, h2.keep hs⟩, ho, hi, hg, h.nt, h.df, h.st.trans hs⟩
end
end Go.Proofs.Ytmhnogmbpoeaeaa.Eng
namespace Go.Proofs.Ytmhnogmbpoeaeaa.Eng
set_option linter.all false
noncomputable section
open Go.RowKit

def upd (ι : Nat → Option Nat) (b : Nat) (g : Option Nat) (x : Nat) : Option Nat := if x = b then g else ι x
theorem upd_same (ι : Nat → Option Nat) (b : Nat) (g : Option Nat) : upd ι b g b = g := by simp [upd]
theorem upd_other (ι : Nat → Option Nat) (b : Nat) (g : Option Nat) {x : Nat} (h : x ≠ b) : upd ι b g x = ι x := by simp [upd, h]

def With (N : Nat → Prop) (id : Nat) (x : Nat) : Prop := N x ∨ x = id

theorem heap_lt {w : World} {g : Nat} {o : Obj} (h : w.heap[g]? = some o) : g < w.heap.size := (Array.getElem?_eq_some_iff.1 h).1

section
variable {S0 : Nat → Prop} {w0 : Base} {N : Nat → Prop} {s : St} {a : Act} {w : World} {ι : Nat → Option Nat}

/-- The block of an object of the call's own. -/
theorem Rel.lt (h : Rel S0 w0 N s a w ι) {b g : Nat} {o : Ob} (hb : lk s.hp b = some o) (hg : ι b = some g) : w0.w.heap.size ≤ g ∧ g < w.heap.size := by
  have h2 := (h.ob b o hb).2
  unfold RepO at h2
  have hg' : (env S0 N s w ι).ι b = some g := hg
  rw [hg'] at h2
  obtain ⟨h1, ⟨cur, ty, h2, _⟩ | ⟨kd, kv, es, clock, _, h2, _⟩⟩ := h2
  · exact ⟨h1, heap_lt h2⟩
  · exact ⟨h1, heap_lt h2⟩
theorem Rel.block (h : Rel S0 w0 N s a w ι) {b g : Nat} {o : Ob} (hb : lk s.hp b = some o) (hg : ι b = some g) (hm : o.isMp = false := by rfl) : w0.w.heap.size ≤ g ∧ ∃ (cur : Array Value) (ty : TypeId), w.heap[g]? = some (.cells cur ty (0, 0)) ∧
    (∀ (k : Nat) (c : AC), o.cells[k]? = some c → ∃ y, cur[k]? = some y ∧ RepC (env S0 N s w ι) y c) ∧ o.shape cur.size := by
  have h2 := (h.ob b o hb).2
  unfold RepO at h2
  have hg' : (env S0 N s w ι).ι b = some g := hg
  rw [hg'] at h2
  obtain ⟨h1, ⟨cur, ty, h2, h3, h4, _⟩ | ⟨kd, kv, es, clock, h2, _⟩⟩ := h2
  · exact ⟨h1, cur, ty, h2, h3, h4⟩
  · subst h2; cases hm

/-- A new object in a new block. -/
theorem Rel.alloc (h : Rel S0 w0 N s a w ι) {id nx' : Nat} (hid : ¬ N id) (o : Ob) (cur : Array Value) (ty : TypeId)
    (hc : ∀ (k : Nat) (c : AC), o.cells[k]? = some c → ∃ y, cur[k]? = some y ∧ RepC (env S0 N s w ι) y c)
    (hsh : o.shape cur.size) (hmp : o.isMp = false := by rfl) :
    Rel S0 w0 (With N id) { s with hp := (id, o) :: s.hp, nx := nx' } a (w.alloc (.cells cur ty)) (upd ι id (some w.heap.size)) := by
  have hne : ∀ {b}, N b → b ≠ id := fun hb e => hid (e ▸ hb)
  have hlk : ∀ {b}, N b → lk ((id, o) :: s.hp) b = lk s.hp b := fun hb => by rw [lk_cons, if_neg (Ne.symm (hne hb))]
  have hold : ∀ b o', lk s.hp b = some o' → N b := fun b o' hb => (h.ob b o' hb).1
  have hgl : ∀ b o' g, lk s.hp b = some o' → ι b = some g → g < w.heap.size := fun b o' g hb hg => by
    exact (h.lt hb hg).2
  have hs : Step (env S0 N s w ι) (env S0 (With N id) { s with hp := (id, o) :: s.hp, nx := nx' } (w.alloc (.cells cur ty)) (upd ι id (some w.heap.size))) := by
    refine ⟨fun blk' hb => ?_, fun ad had => ?_, fun b hb => .inl hb, fun b sz es fz hN hb => ?_, fun b cs hN hb => ?_, fun b kd kv hN hb => ?_⟩
    · obtain ⟨h1, h2, h3⟩ := hb
      refine ⟨h1, by show blk' < (w.alloc _).heap.size; rw [World.size_alloc]; omega, fun b' o' hb' hm => ?_⟩
      replace hb' : lk ((id, _) :: s.hp) b' = some o' := hb'
      show upd ι id _ b' ≠ some blk'
      by_cases he : b' = id
      · subst he; rw [upd_same]; intro e; cases e; omega
      · rw [upd_other _ _ _ he]
        rw [lk_cons, if_neg (Ne.symm he)] at hb'
        exact h3 b' o' hb' hm
    · exact World.cell?_alloc_lt w _ ad had.2.1
    · have hb' : lk s.hp b = some (.row sz es fz) := by rw [← hlk hN]; exact hb
      refine ⟨sz, es, fz, hb', .inl ⟨.inr rfl, rfl, upd_other _ _ _ (hne hN), fun g hg cur' ty' hh => ⟨cur', ?_, rfl⟩⟩⟩
      exact (Below.heap_alloc w _ g (heap_lt hh)).trans hh
    · have hb' : lk s.hp b = some (.box cs) := by rw [← hlk hN]; exact hb
      exact ⟨cs, hb', upd_other _ _ _ (hne hN)⟩
    · have hb' : lk s.hp b = some (.mp kd kv) := by rw [← hlk hN]; exact hb
      exact ⟨kv, hb', upd_other _ _ _ (hne hN)⟩
  refine h.change hs (h.gr.alloc _ _) (fun b o' hb => ?_) (fun b b' o1 o2 g h1 h2 g1 g2 => ?_)
  · by_cases he : b = id
    · subst he
      rw [lk_cons, if_pos rfl] at hb
      cases hb
      refine ⟨.inr rfl, ?_⟩
      unfold RepO
      have hi : (env S0 (With N b) { s with hp := (b, o) :: s.hp, nx := nx' } (w.alloc (.cells cur ty)) (upd ι b (some w.heap.size))).ι b = some w.heap.size := upd_same _ _ _
      rw [hi]
      refine ⟨h.gr.size, .inl ⟨cur, ty, heap_alloc_new w _, fun k c hk => ?_, hsh, hmp⟩⟩
      obtain ⟨y, hy, hr⟩ := hc k c hk
      exact ⟨y, hy, hr.keep hs⟩
    · rw [lk_cons, if_neg (Ne.symm he)] at hb
      obtain ⟨hN, hr⟩ := h.ob b o' hb
      refine ⟨.inl hN, RepO.keep hs (upd_other _ _ _ he) (fun g hg => Below.heap_alloc w _ g (hgl b o' g hb hg)) hr⟩
  · by_cases e1 : b = id <;> by_cases e2 : b' = id
    · exact e1.trans e2.symm
    · subst e1
      rw [upd_same] at g1; cases g1
      rw [upd_other _ _ _ e2] at g2
      rw [lk_cons, if_neg (Ne.symm e2)] at h2
      exact absurd (hgl b' o2 _ h2 g2) (Nat.lt_irrefl _)
    · subst e2
      rw [upd_same] at g2; cases g2
      rw [upd_other _ _ _ e1] at g1
      rw [lk_cons, if_neg (Ne.symm e1)] at h1
      exact absurd (hgl b o1 _ h1 g1) (Nat.lt_irrefl _)
    · rw [upd_other _ _ _ e1] at g1
      rw [upd_other _ _ _ e2] at g2
      rw [lk_cons, if_neg (Ne.symm e1)] at h1
      rw [lk_cons, if_neg (Ne.symm e2)] at h2
      exact h.inj b b' o1 o2 g h1 h2 g1 g2

/-- A new empty row that is nil. -/
theorem Rel.virt (h : Rel S0 w0 N s a w ι) {id nx' : Nat} (hid : ¬ N id) (sz : Nat) (fz : Bool) :
    Rel S0 w0 (With N id) { s with hp := (id, .row sz [] fz) :: s.hp, nx := nx' } a w (upd ι id none) := by
  have hne : ∀ {b}, N b → b ≠ id := fun hb e => hid (e ▸ hb)
  have hlk : ∀ {b}, N b → lk ((id, .row sz [] fz) :: s.hp) b = lk s.hp b := fun hb => by rw [lk_cons, if_neg (Ne.symm (hne hb))]
  have hs : Step (env S0 N s w ι) (env S0 (With N id) { s with hp := (id, .row sz [] fz) :: s.hp, nx := nx' } w (upd ι id none)) := by
    refine ⟨fun blk' hb => ?_, fun ad had => rfl, fun b hb => .inl hb, fun b sz' es fz' hN hb => ?_, fun b cs hN hb => ?_, fun b kd kv hN hb => ?_⟩
    · obtain ⟨h1, h2, h3⟩ := hb
      refine ⟨h1, h2, fun b' o' hb' hm => ?_⟩
      replace hb' : lk ((id, _) :: s.hp) b' = some o' := hb'
      show upd ι id _ b' ≠ some blk'
      by_cases he : b' = id
      · subst he; rw [upd_same]; simp
      · rw [upd_other _ _ _ he]
        rw [lk_cons, if_neg (Ne.symm he)] at hb'
        exact h3 b' o' hb' hm
    · have hb' : lk s.hp b = some (.row sz' es fz') := by rw [← hlk hN]; exact hb
      exact ⟨sz', es, fz', hb', .inl ⟨.inr rfl, rfl, upd_other _ _ _ (hne hN), fun g hg cur' ty' hh => ⟨cur', hh, rfl⟩⟩⟩
    · have hb' : lk s.hp b = some (.box cs) := by rw [← hlk hN]; exact hb
      exact ⟨cs, hb', upd_other _ _ _ (hne hN)⟩
    · have hb' : lk s.hp b = some (.mp kd kv) := by rw [← hlk hN]; exact hb
      exact ⟨kv, hb', upd_other _ _ _ (hne hN)⟩
  refine h.change hs h.gr (fun b o' hb => ?_) (fun b b' o1 o2 g h1 h2 g1 g2 => ?_)
  · by_cases he : b = id
    · subst he
      rw [lk_cons, if_pos rfl] at hb
      cases hb
      refine ⟨.inr rfl, ?_⟩
      unfold RepO
      have hi : (env S0 (With N b) { s with hp := (b, .row sz [] fz) :: s.hp, nx := nx' } w (upd ι b none)).ι b = none := upd_same _ _ _
      rw [hi]
      exact ⟨_, _, rfl⟩
    · rw [lk_cons, if_neg (Ne.symm he)] at hb
      obtain ⟨hN, hr⟩ := h.ob b o' hb
      exact ⟨.inl hN, RepO.keep hs (upd_other _ _ _ he) (fun g hg => rfl) hr⟩
  · have e1 : b ≠ id := by rintro rfl; rw [upd_same] at g1; cases g1
    have e2 : b' ≠ id := by rintro rfl; rw [upd_same] at g2; cases g2
    rw [upd_other _ _ _ e1] at g1
    rw [upd_other _ _ _ e2] at g2
    rw [lk_cons, if_neg (Ne.symm e1)] at h1
    rw [lk_cons, if_neg (Ne.symm e2)] at h2
    exact h.inj b b' o1 o2 g h1 h2 g1 g2

/-- An object's cells are rewritten in its block. -/
theorem Rel.rewrite (h : Rel S0 w0 N s a w ι) {b g : Nat} {o o' : Ob} (hb : lk s.hp b = some o) (hg : ι b = some g) (hm : o.mut = true) {w' : World} {cur cur' : Array Value} {ty : TypeId}
    (hw : w.heap[g]? = some (.cells cur ty (0, 0))) (hw' : w'.heap[g]? = some (.cells cur' ty (0, 0))) (hsz : cur'.size = cur.size) (hoth : ∀ k, k ≠ g → w'.heap[k]? = w.heap[k]?) (hsize : w'.heap.size = w.heap.size)
    (hgr : Gr w0.w w') (hm' : o'.mut = true)
    (hc : ∀ (k : Nat) (c : AC), o'.cells[k]? = some c → ∃ y, cur'[k]? = some y ∧ RepC (env S0 N s w ι) y c)
    (hsh : match o, o' with | .row sz es _, .row sz' es' _ => sz' = sz ∧ es'.length = es.length ∧ ∀ e ∈ es', e.length = sz | .box cs, .box cs' => cs'.length = cs.length | _, _ => False) :
    Rel S0 w0 N { s with hp := (b, o') :: s.hp } a w' ι := by
  have hcell : ∀ ad : Addr, ad.block ≠ g → w'.cell? ad = w.cell? ad := fun ad hne => World.cell?_of_block (hoth _ hne)
  have hs : Step (env S0 N s w ι) (env S0 N { s with hp := (b, o') :: s.hp } w' ι) := by
    refine ⟨fun k hk => ?_, fun ad had => hcell ad (fun e => had.2.2 b o hb hm (e ▸ hg)), fun _ h => h, fun b1 sz es fz hN hb1 => ?_, fun b1 cs hN hb1 => ?_, fun b1 kd kv hN hb1 => ?_⟩
    · obtain ⟨h1, h2, h3⟩ := hk
      refine ⟨h1, by show k < w'.heap.size; rw [hsize]; exact h2, fun b' o1 hb' hm1 => ?_⟩
      replace hb' : lk ((b, o') :: s.hp) b' = some o1 := hb'
      by_cases he : b = b'
      · subst he; exact h3 b o hb hm
      · rw [lk_cons, if_neg he] at hb'
        exact h3 b' o1 hb' hm1
    · replace hb1 : lk ((b, o') :: s.hp) b1 = some (.row sz es fz) := hb1
      by_cases he : b = b1
      · subst he
        rw [lk_cons, if_pos rfl] at hb1
        cases hb1
        cases o with
        | box cs => exact hsh.elim
        | mp _ _ => exact hsh.elim
        | row sz0 es0 fz0 =>
          obtain ⟨e1, e2, _⟩ := hsh
          refine ⟨sz0, es0, fz0, hb, .inl ⟨.inr e1.symm, e2.symm, rfl, fun g1 hg1 cur1 ty1 hh => ?_⟩⟩
          obtain rfl : g = g1 := Option.some.inj (hg.symm.trans hg1)
          obtain ⟨rfl, rfl⟩ : cur = cur1 ∧ ty = ty1 := by have := hw.symm.trans hh; simpa using this
          exact ⟨cur', hw', hsz⟩
      · rw [lk_cons, if_neg he] at hb1
        refine ⟨sz, es, fz, hb1, .inl ⟨.inr rfl, rfl, rfl, fun g1 hg1 cur1 ty1 hh => ⟨cur1, ?_, rfl⟩⟩⟩
        have hne : g1 ≠ g := fun e => he (h.inj b b1 _ _ g hb hb1 hg (e ▸ hg1))
        exact (hoth g1 hne).trans hh
    · replace hb1 : lk ((b, o') :: s.hp) b1 = some (.box cs) := hb1
      by_cases he : b = b1
      · subst he
        rw [lk_cons, if_pos rfl] at hb1
        cases hb1
        cases o with
        | box cs0 => exact ⟨cs0, hb, rfl⟩
        | row sz0 es0 fz0 => exact hsh.elim
        | mp _ _ => exact hsh.elim
      · rw [lk_cons, if_neg he] at hb1
        exact ⟨cs, hb1, rfl⟩
    · replace hb1 : lk ((b, o') :: s.hp) b1 = some (.mp kd kv) := hb1
      by_cases he : b = b1
      · subst he
        rw [lk_cons, if_pos rfl] at hb1
        cases hb1
        exact (by cases o <;> exact hsh.elim : False).elim
      · rw [lk_cons, if_neg he] at hb1
        exact ⟨kv, hb1, rfl⟩
  refine h.change (nx' := s.nx) hs hgr (fun b1 o1 hb1 => ?_) (fun b1 b2 o1 o2 g1 h1 h2 e1 e2 => ?_)
  · by_cases he : b = b1
    · subst he
      rw [lk_cons, if_pos rfl] at hb1
      cases hb1
      refine ⟨(h.ob b o hb).1, ?_⟩
      have hmp : o.isMp = false ∧ o'.isMp = false := by cases o <;> cases o' <;> first | exact ⟨rfl, rfl⟩ | exact hsh.elim
      obtain ⟨hge, cur0, ty0, hh0, _, hshape⟩ := h.block hb hg hmp.1
      rw [hw] at hh0; cases hh0
      unfold RepO
      have hi : (env S0 N { s with hp := (b, o') :: s.hp, nx := s.nx } w' ι).ι b = some g := hg
      rw [hi]
      refine ⟨hge, .inl ⟨cur', ty, hw', fun k c hk => ?_, ?_, hmp.2⟩⟩
      · obtain ⟨y, hy, hr⟩ := hc k c hk
        exact ⟨y, hy, hr.keep hs⟩
      · cases o <;> cases o' <;> simp only [Ob.shape] at hsh hshape ⊢
        · rw [hsz, hshape, hsh]
        · obtain ⟨e1, _, e3⟩ := hsh; rw [e1]; exact ⟨hshape.1, e3⟩
    · rw [lk_cons, if_neg he] at hb1
      obtain ⟨hN, hr⟩ := h.ob b1 o1 hb1
      refine ⟨hN, RepO.keep hs rfl (fun g1 hg1 => hoth g1 (fun e => he (h.inj b b1 _ _ g hb hb1 hg (e ▸ hg1)))) hr⟩
  · have pick : ∀ {x o1}, lk ((b, o') :: s.hp) x = some o1 → ∃ o2, lk s.hp x = some o2 := fun {x o1} hx => by
      by_cases he : b = x
      · subst he; exact ⟨o, hb⟩
      · rw [lk_cons, if_neg he] at hx; exact ⟨o1, hx⟩
    obtain ⟨_, k1⟩ := pick h1
    obtain ⟨_, k2⟩ := pick h2
    exact h.inj b1 b2 _ _ g1 k1 k2 e1 e2
end
end
end Go.Proofs.Ytmhnogmbpoeaeaa.Eng
namespace Go.Proofs.Ytmhnogmbpoeaeaa.Eng
set_option linter.all false
noncomputable section
open Go.RowKit

section
variable {S0 : Nat → Prop} {w0 : Base} {N : Nat → Prop} {s : St} {a : Act} {w : World} {ι : Nat → Option Nat}

/-- A row grows, in its block or in a new one. -/
theorem Rel.turn (h : Rel S0 w0 N s a w ι) {b g' sz sz' : Nat} {es es' : List (List D)} (hb : lk s.hp b = some (.row sz es false)) (hlt : es.length < es'.length) {w' : World} {cur' : Array Value} {ty : TypeId}
    (hg' : ι b = some g' ∨ w.heap.size ≤ g') (hw' : w'.heap[g']? = some (.cells cur' ty (0, 0))) (hoth : ∀ k, k < w.heap.size → k ≠ g' → w'.heap[k]? = w.heap[k]?) (hsize : w.heap.size ≤ w'.heap.size) (hgr : Gr w0.w w')
    (hsh : 0 < sz' ∧ ∀ e ∈ es', e.length = sz') (hc : ∀ (k : Nat) (c : D), es'.flatten[k]? = some c → ∃ y, cur'[k]? = some y ∧ Shows (Tr S0 w ι (lk s.hp)) w y c) :
    Rel S0 w0 N { s with hp := (b, .row sz' es' false) :: s.hp } a w' (upd ι b (some g')) := by
  have hNb := (h.ob b _ hb).1
  have hgl : ∀ b o' g, lk s.hp b = some o' → ι b = some g → g < w.heap.size := fun b o' g hb hg => by
    exact (h.lt hb hg).2
  have hgne : ∀ b1 o1 g1, b1 ≠ b → lk s.hp b1 = some o1 → ι b1 = some g1 → g1 ≠ g' := fun b1 o1 g1 hne h1 hg1 e => by
    subst e
    rcases hg' with hg' | hg'
    · exact hne (h.inj b1 b _ _ g1 h1 hb hg1 hg')
    · exact absurd (hgl b1 o1 g1 h1 hg1) (by omega)
  have hTne : ∀ k, Tr S0 w ι (lk s.hp) k → k ≠ g' := fun k hk e => by
    subst e
    rcases hg' with hg' | hg'
    · exact hk.2.2 b _ hb rfl hg'
    · exact absurd hk.2.1 (by omega)
  have hs : Step (env S0 N s w ι) (env S0 N { s with hp := (b, .row sz' es' false) :: s.hp } w' (upd ι b (some g'))) := by
    refine ⟨fun k hk => ?_, fun ad had => World.cell?_of_block (hoth _ had.2.1 (hTne _ had)), fun _ h => h, fun b1 sz1 es1 fz1 hN hb1 => ?_, fun b1 cs hN hb1 => ?_, fun b1 kd kv hN hb1 => ?_⟩
    · obtain ⟨h1, h2, h3⟩ := id hk
      refine ⟨h1, Nat.lt_of_lt_of_le h2 hsize, fun b' o1 hb' hm1 => ?_⟩
      replace hb' : lk ((b, _) :: s.hp) b' = some o1 := hb'
      show upd ι b (some g') b' ≠ some k
      by_cases he : b = b'
      · subst he; rw [upd_same]; intro e; cases e; exact hTne _ hk rfl
      · rw [lk_cons, if_neg he] at hb'
        rw [upd_other _ _ _ (Ne.symm he)]
        exact h3 b' o1 hb' hm1
    · replace hb1 : lk ((b, _) :: s.hp) b1 = some (.row sz1 es1 fz1) := hb1
      by_cases he : b = b1
      · subst he
        rw [lk_cons, if_pos rfl] at hb1
        cases hb1
        exact ⟨sz, es, false, hb, .inr hlt⟩
      · rw [lk_cons, if_neg he] at hb1
        refine ⟨sz1, es1, fz1, hb1, .inl ⟨.inr rfl, rfl, upd_other _ _ _ (Ne.symm he), fun g1 hg1 cur1 ty1 hh => ⟨cur1, ?_, rfl⟩⟩⟩
        exact (hoth g1 (heap_lt hh) (hgne b1 _ g1 (Ne.symm he) hb1 hg1)).trans hh
    · replace hb1 : lk ((b, _) :: s.hp) b1 = some (.box cs) := hb1
      by_cases he : b = b1
      · subst he
        rw [lk_cons, if_pos rfl] at hb1
        cases hb1
      · rw [lk_cons, if_neg he] at hb1
        exact ⟨cs, hb1, upd_other _ _ _ (Ne.symm he)⟩
    · replace hb1 : lk ((b, _) :: s.hp) b1 = some (.mp kd kv) := hb1
      by_cases he : b = b1
      · subst he
        rw [lk_cons, if_pos rfl] at hb1
        cases hb1
      · rw [lk_cons, if_neg he] at hb1
        exact ⟨kv, hb1, upd_other _ _ _ (Ne.symm he)⟩
  have hB : w0.w.heap.size ≤ g' := by
    rcases hg' with hg' | hg'
    · exact (h.block hb hg').1
    · exact Nat.le_trans h.gr.size hg'
  refine h.change (nx' := s.nx) hs hgr (fun b1 o1 hb1 => ?_) (fun b1 b2 o1 o2 g1 h1 h2 e1 e2 => ?_)
  · by_cases he : b = b1
    · subst he
      rw [lk_cons, if_pos rfl] at hb1
      cases hb1
      refine ⟨hNb, ?_⟩
      unfold RepO
      have hi : (env S0 N { s with hp := (b, .row sz' es' false) :: s.hp, nx := s.nx } w' (upd ι b (some g'))).ι b = some g' := upd_same _ _ _
      rw [hi]
      refine ⟨hB, .inl ⟨cur', ty, hw', fun k c hk => ?_, hsh, rfl⟩⟩
      simp only [Ob.cells, List.getElem?_map, Option.map_eq_some_iff] at hk
      obtain ⟨d, hd, rfl⟩ := hk
      obtain ⟨y, hy, hr⟩ := hc k d hd
      exact ⟨y, hy, Shows.keep hs.S hs.c hr⟩
    · rw [lk_cons, if_neg he] at hb1
      obtain ⟨hN, hr⟩ := h.ob b1 o1 hb1
      exact ⟨hN, RepO.keep hs (upd_other _ _ _ (Ne.symm he)) (fun g1 hg1 => hoth g1 (hgl b1 o1 g1 hb1 hg1) (hgne b1 o1 g1 (Ne.symm he) hb1 hg1)) hr⟩
  · by_cases k1 : b = b1 <;> by_cases k2 : b = b2
    · exact k1.symm.trans k2
    · subst k1
      rw [upd_same] at e1; cases e1
      rw [upd_other _ _ _ (Ne.symm k2)] at e2
      rw [lk_cons, if_neg k2] at h2
      exact absurd rfl (hgne b2 o2 g' (Ne.symm k2) h2 e2)
    · subst k2
      rw [upd_same] at e2; cases e2
      rw [upd_other _ _ _ (Ne.symm k1)] at e1
      rw [lk_cons, if_neg k1] at h1
      exact absurd rfl (hgne b1 o1 g' (Ne.symm k1) h1 e1)
    · rw [lk_cons, if_neg k1] at h1
      rw [lk_cons, if_neg k2] at h2
      rw [upd_other _ _ _ (Ne.symm k1)] at e1
      rw [upd_other _ _ _ (Ne.symm k2)] at e2
      exact h.inj b1 b2 o1 o2 g1 h1 h2 e1 e2
end

/-! ### append, as the model runs it -/
/-- Where what is appended stands. -/
def Source (w : World) (x : Value) (m size : Nat) (news : List Value) : Prop :=
  news.length = m * size ∧ ((x = nilS ∧ m = 0) ∨ ∃ ad c, x = .slice (some ad) m c ∧ ∀ j u, news[j]? = some u → w.cell? (ad.add j) = some u)
theorem Source.nil {w : World} {x : Value} {m size : Nat} {news : List Value} (h : Source w x m size news) (hm : m = 0) : news = [] := by
  have := h.1
  subst hm
  exact List.eq_nil_of_length_eq_zero (by simpa using this)
theorem run_app {P : Program} (w : World) (t ty e : TypeId) (i : TypeInfo) (z : Value) (ht : P.underlying t = some (.slice e)) (hi : P.info? e = some i) (hz : i.zero = some z) (hzs : z.cells.size = i.size)
    (v : Value) (n : Nat) (olds : List Value) (x : Value) (m : Nat) (news : List Value) (hx : Source w x m i.size news) (h1 : ∀ u ∈ news, u.oneCell' = true)
    (h63 : n + m ≤ maxLen) (hbytes : (n + m) * i.bytes ≤ 140737488355328)
    (hv : (v = nilS ∧ n = 0 ∧ olds = []) ∨ ∃ g cap cur bt, v = .slice (some ⟨g, 0, none⟩) n cap ∧ w.heap[g]? = some (.cells cur bt (0, 0)) ∧ n ≤ cap ∧ cap ≤ maxLen ∧ cur.size = cap * i.size ∧ olds = cur.toList.take (n * i.size)) :
    ∃ v' w', (Builtin.append_ #[t, t] ty #[v, x]).run P w = .ok v' w' ∧
      ((m = 0 ∧ v' = v ∧ w' = w) ∨
       (∃ g cap cur bt, 0 < m ∧ v = .slice (some ⟨g, 0, none⟩) n cap ∧ w.heap[g]? = some (.cells cur bt (0, 0)) ∧ cap ≤ maxLen ∧ cur.size = cap * i.size ∧ n + m ≤ cap ∧ v' = .slice (some ⟨g, 0, none⟩) (n + m) cap ∧
          w' = w.setRow g (cur.toList.take (n * i.size) ++ news ++ cur.toList.drop (n * i.size + news.length)).toArray) ∨
       (∃ cap rest, 0 < m ∧ n + m ≤ cap ∧ cap ≤ maxLen ∧ v' = .slice (some ⟨w.heap.size, 0, none⟩) (n + m) cap ∧ w' = w.drew.alloc (.cells (olds ++ news ++ rest).toArray e) ∧ (olds ++ news ++ rest).length = cap * i.size)) := by
  have hsmall : n + m ≤ 9223372036854775807 := by simp only [maxLen] at h63; omega
  rcases hv with ⟨rfl, rfl, rfl⟩ | ⟨g, cap, cur, bt, rfl, hg, hnc, hcm, hcs, rfl⟩
  · rcases hx with ⟨hl, ⟨rfl, rfl⟩ | ⟨ad, c, rfl, hnews⟩⟩
    · refine ⟨nilS, w, ?_, .inl ⟨rfl, rfl, rfl⟩⟩
      simp [nilS, Builtin.append_, run_underlying ht, sizeOf, typeInfo, hi, Builtin.lenOf, Builtin.firstCells, loadCells, loadCellsFrom]
    · by_cases hm : m = 0
      · subst hm
        refine ⟨nilS, w, ?_, .inl ⟨rfl, rfl, rfl⟩⟩
        simp [nilS, Builtin.append_, run_underlying ht, sizeOf, typeInfo, hi, Builtin.lenOf, Builtin.firstCells, loadCells, loadCellsFrom]
      · have hr := run_append_nil (P := P) w t ty e i z ht hi hz ad m c news hl hnews (by omega) (by omega) (by have hb := hbytes; simp only [Nat.zero_add] at hb; omega)
        have hge := grownCap_ge w m 0 e
        have hcm : grownCap w m 0 e ≤ maxLen := grownCap_le_maxLen w m 0 e (by omega)
        refine ⟨_, _, hr, .inr (.inr ⟨grownCap w m 0 e, (Builtin.zeroCells z.cells (grownCap w m 0 e - m)).toList, by omega, by omega, hcm, by simp, ?_, ?_⟩)⟩
        · congr 2
          apply Array.ext'
          simp
        · simp only [List.nil_append, List.length_append, Array.length_toList, size_zeroCells, hzs, hl, ← Nat.add_mul]
          congr 1
          omega
  · by_cases hm : m = 0
    · subst hm
      obtain rfl : news = [] := hx.nil rfl
      refine ⟨_, w, ?_, .inl ⟨rfl, rfl, rfl⟩⟩
      rcases hx with ⟨_, ⟨rfl, _⟩ | ⟨ad, c, rfl, _⟩⟩
      · simp [nilS, Builtin.append_, run_underlying ht, sizeOf, typeInfo, hi, Builtin.lenOf, Builtin.firstCells, hnc, storeCells]
      · simp [Builtin.append_, run_underlying ht, sizeOf, typeInfo, hi, Builtin.lenOf, Builtin.firstCells, hnc, storeCells, loadCells, loadCellsFrom]
    · obtain ⟨hl, ⟨_, rfl⟩ | ⟨ad, c, rfl, hnews⟩⟩ := hx
      · exact absurd rfl hm
      · by_cases hroom : n + m ≤ cap
        · have hfit : n * i.size + news.length ≤ cur.size := by rw [hl, hcs, ← Nat.add_mul]; exact Nat.mul_le_mul_right _ hroom
          have hf := run_firstCells_some (P := P) w i.size m ad m c news hl hnews
          have hst := run_storeCells_at P g (n * i.size) bt news 0 cur w hg (by simpa using hfit) h1
          simp only [Nat.add_zero] at hst
          refine ⟨_, _, ?_, .inr (.inl ⟨g, cap, cur, bt, by omega, rfl, hg, hcm, hcs, hroom, rfl, rfl⟩)⟩
          simp [Builtin.append_, run_underlying ht, sizeOf, typeInfo, hi, Builtin.lenOf, hroom, hf, Addr.add_lit, hst]
        · have holds : ∀ j u, (cur.toList.take (n * i.size))[j]? = some u → w.cell? ((⟨g, 0, none⟩ : Addr).add j) = some u := fun j u hu => by
            rw [Addr.add_lit, Nat.zero_add, cell_of_row w g j cur bt (0, 0) hg]
            rw [List.getElem?_take] at hu
            split at hu
            · simpa using hu
            · cases hu
          have hlo : (cur.toList.take (n * i.size)).length = n * i.size := by
            rw [List.length_take, Array.length_toList, hcs]
            exact Nat.min_eq_left (Nat.mul_le_mul_right _ hnc)
          have hr := run_append_grow (P := P) w t ty e i z ht hi hz ⟨g, 0, none⟩ n cap _ hlo holds ad m c news hl hnews (by omega) (by omega) (growslice_fits (by omega) hbytes)
          have hge := grownCap_ge w (n + m) cap e
          have hcm' : grownCap w (n + m) cap e ≤ maxLen := grownCap_le_maxLen w (n + m) cap e h63
          refine ⟨_, _, hr, .inr (.inr ⟨grownCap w (n + m) cap e, (Builtin.zeroCells z.cells (grownCap w (n + m) cap e - (n + m))).toList, by omega, hge, hcm', rfl, ?_, ?_⟩)⟩
          · congr 2
            apply Array.ext'
            simp
          · simp only [List.length_append, Array.length_toList, size_zeroCells, hzs, hl, hlo, ← Nat.add_mul]
            congr 1
            omega
end
end Go.Proofs.Ytmhnogmbpoeaeaa.Eng
namespace Go.Proofs.Ytmhnogmbpoeaeaa.Eng
set_option linter.all false
noncomputable section
open Go.RowKit

/-! ### Types, as far as they are asked -/
inductive TK where
  | sl (e : TypeId)
  | st (fs : List (Nat × TypeId))
  | arr (n : Nat) (e : TypeId)
  | int (k : IntKind)
  | other
structure TI where
  k : TK
  size : Nat
  bytes : Nat
  zero : List Value
def tk : TypeDesc → TK
  | .slice e => .sl e
  | .struct fs => .st (fs.toList.map fun f => (f.offset, f.type))
  | .array n e => .arr n e
  | .int k => .int k
  | _ => .other
def ti (P : Program) (t : TypeId) : Option TI :=
  match P.info? t, P.underlying t with
  | some i, some d =>
    match i.zero with
    | some z => if z.cells.size = i.size ∧ z.cells.toList.all (·.oneCell') = true then some ⟨tk d, i.size, i.bytes, z.cells.toList⟩ else none
    | none => none
  | _, _ => none
theorem ti_info {P : Program} {t : TypeId} {x : TI} (h : ti P t = some x) : ∃ i d z, P.info? t = some i ∧ P.underlying t = some d ∧ i.zero = some z ∧ z.cells.size = i.size ∧ x = ⟨tk d, i.size, i.bytes, z.cells.toList⟩ ∧ ∀ v ∈ z.cells.toList, v.oneCell' = true := by
  unfold ti at h
  split at h
  · rename_i i d hi hd
    split at h
    · rename_i z hz
      split at h
      · rename_i hc
        exact ⟨i, d, z, hi, hd, hz, hc.1, by simpa using h.symm, List.all_eq_true.1 hc.2⟩
      · cases h
    · cases h
  · cases h
theorem ti_size {P : Program} {t : TypeId} {x : TI} (h : ti P t = some x) (w : World) : (sizeOf t).run P w = .ok x.size w := by
  obtain ⟨i, d, z, hi, hd, hz, _, rfl, _⟩ := ti_info h
  simp [sizeOf, typeInfo, hi]
theorem ti_slice {P : Program} {t e : TypeId} {x : TI} (h : ti P t = some x) (hk : x.k = .sl e) : P.underlying t = some (.slice e) := by
  obtain ⟨i, d, z, hi, hd, hz, _, rfl, _⟩ := ti_info h
  cases d <;> simp [tk] at hk
  subst hk
  exact hd
def TK.isAgg : TK → Bool
  | .st _ | .arr _ _ => true
  | _ => false
theorem ti_agg {P : Program} {t : TypeId} {x : TI} (h : ti P t = some x) (w : World) : (isAgg t).run P w = .ok x.k.isAgg w := by
  obtain ⟨i, d, z, hi, hd, hz, _, rfl, _⟩ := ti_info h
  unfold isAgg
  rw [Sem.run_bind, run_underlying hd w]
  cases d <;> simp [tk, TK.isAgg]

/-! ### What an operand is -/
def evO (s : St) : Operand → Option AV
  | .tmp t => lk s.fr t
  | .const v => match v with
    | .agg cs => if cs.toList.all (·.oneCell') = true then some (.x (.agg (cs.toList.map fun c => .d (.v c)))) else none
    | .tuple _ => none
    | v => some (.x (.one (.d (.v v))))
  | .func f => some (.x (.one (.d (.v (.func (.func f) #[] #[])))))
  | .global _ => none
section
variable {S0 : Nat → Prop} {w0 : Base} {N : Nat → Prop} {s : St} {a : Act} {w : World} {ι : Nat → Option Nat}
theorem rep_v {E : Env} {v : Value} (h : v.oneCell' = true) : RepV E v (.x (.one (.d (.v v)))) := Shows.v h
theorem All2.self {α β : Type} {R : α → β → Prop} {f : α → β} : ∀ {l : List α}, (∀ x ∈ l, R x (f x)) → All2 R l (l.map f)
  | [], _ => .nil
  | x :: l, h => .cons (h x (by simp)) (All2.self fun y hy => h y (by simp [hy]))
theorem rep_agg {E : Env} {cs : Array Value} (h : ∀ v ∈ cs.toList, v.oneCell' = true) : RepV E (.agg cs) (.x (.agg (cs.toList.map fun c => .d (.v c)))) :=
  ⟨cs, rfl, All2.self fun x hx => Shows.v (h x hx)⟩
theorem Rel.ev (h : Rel S0 w0 N s a w ι) {o : Operand} {x : AV} (ho : evO s o = some x) : RepV (env S0 N s w ι) (a.eval o) x := by
  cases o with
  | tmp t =>
    obtain ⟨v, h1, h2⟩ := h.fr t x ho
    have : a.eval (.tmp t) = v := by simp [Act.eval, h1]
    rw [this]
    exact h2
  | const v =>
    show RepV _ v x
    cases v with
    | agg cs =>
      simp only [evO] at ho
      split at ho
      · rename_i hc
        cases ho
        exact rep_agg (List.all_eq_true.1 hc)
      · cases ho
    | tuple _ => simp [evO] at ho
    | _ => simp only [evO, Option.some.injEq] at ho; subst ho; exact rep_v rfl
  | func f => simp only [evO, Option.some.injEq] at ho; subst ho; exact rep_v rfl
  | global g => cases ho

/-! ### Plain values -/
def plainC : AC → Option Value
  | .d (.v v) => some v
  | _ => none
def plainL : List AC → Option (List Value)
  | [] => some []
  | c :: cs => match plainC c, plainL cs with
    | some v, some vs => some (v :: vs)
    | _, _ => none
def plain : AV → Option Value
  | .x (.one c) => plainC c
  | .x (.agg cs) => (plainL cs).map fun vs => .agg vs.toArray
  | _ => none
theorem plainC_eq {E : Env} {x v : Value} {c : AC} (h : RepC E x c) (hp : plainC c = some v) : x = v := by
  cases c with
  | d c => cases c with
    | v u => simp only [plainC, Option.some.injEq] at hp; subst hp; cases h; rfl
    | sl _ _ => simp [plainC] at hp
  | _ => simp [plainC] at hp
theorem plainL_eq {E : Env} {xs vs : List Value} {cs : List AC} (h : All2 (RepC E) xs cs) (hp : plainL cs = some vs) : xs = vs := by
  induction h generalizing vs with
  | nil => simp [plainL] at hp; exact hp.symm ▸ rfl
  | @cons x c xs cs h _ ih =>
    simp only [plainL] at hp
    split at hp
    · rename_i v vs' h1 h2
      cases hp
      rw [plainC_eq h h1, ih h2]
    · cases hp
theorem plain_eq {E : Env} {x v : Value} {a : AV} (h : RepV E x a) (hp : plain a = some v) : x = v := by
  cases a with
  | x a => cases a with
    | one c => exact plainC_eq h hp
    | agg cs =>
      obtain ⟨arr, rfl, ha⟩ := h
      simp only [plain, Option.map_eq_some_iff] at hp
      obtain ⟨vs, h1, rfl⟩ := hp
      rw [← plainL_eq ha h1]
  | tup _ => simp [plain] at hp
def evP (s : St) (o : Operand) : Option Value := (evO s o).bind plain
theorem Rel.evP (h : Rel S0 w0 N s a w ι) {o : Operand} {v : Value} (ho : evP s o = some v) : a.eval o = v := by
  obtain ⟨x, h1, h2⟩ := Option.bind_eq_some_iff.1 ho
  exact plain_eq (h.ev h1) h2

/-! ### Slices, seen as data -/
def dataC (hp : List (Nat × Ob)) : AC → Option D
  | .d x => some x
  | .own b L => match lk hp b with
    | some (.row sz es _) => if es.length = L then some (.sl sz es) else none
    | _ => none
  | .view b lo n L => match lk hp b with
    | some (.row sz es _) => if es.length = L ∧ lo + n ≤ L then some (.sl sz ((es.drop lo).take n)) else none
    | _ => none
  | _ => none
/-- x is a slice whose elements are these. -/
def SlOf (R : Value → D → Prop) (w : World) (x : Value) (sz : Nat) (es : List (List D)) : Prop :=
  (∀ e ∈ es, e.length = sz) ∧ ((x = nilS ∧ es = []) ∨ ∃ ad cap, x = .slice (some ad) es.length cap ∧ es.length ≤ cap ∧ cap ≤ maxLen ∧
    ∀ k c, es.flatten[k]? = some c → ∃ y, w.cell? (ad.add k) = some y ∧ R y c)
theorem flat_len {α : Type} {sz : Nat} : ∀ {es : List (List α)}, (∀ e ∈ es, e.length = sz) → es.flatten.length = es.length * sz
  | [], _ => by simp
  | e :: es, h => by
    rw [List.flatten_cons, List.length_append, flat_len (fun e' he => h e' (by simp [he])), h e (by simp), List.length_cons, Nat.add_mul]
    omega
theorem flat_get {α : Type} {sz : Nat} : ∀ {es : List (List α)}, (∀ e ∈ es, e.length = sz) → ∀ {i : Nat} {e : List α}, es[i]? = some e → ∀ {k : Nat} {c : α}, e[k]? = some c → es.flatten[i * sz + k]? = some c
  | [], _, i, e, hi, _, _, _ => by simp at hi
  | e0 :: es, h, i, e, hi, k, c, hk => by
    have h0 : e0.length = sz := h e0 (by simp)
    cases i with
    | zero =>
      simp at hi
      subst hi
      have hlt : k < e0.length := (List.getElem?_eq_some_iff.1 hk).1
      rw [List.flatten_cons, Nat.zero_mul, Nat.zero_add, List.getElem?_append_left hlt]
      exact hk
    | succ i =>
      have hi' : es[i]? = some e := by simpa using hi
      rw [List.flatten_cons, List.getElem?_append_right (by rw [h0, Nat.add_mul]; omega)]
      have : (i + 1) * sz + k - e0.length = i * sz + k := by rw [h0, Nat.add_mul]; omega
      rw [this]
      exact flat_get (fun e' he => h e' (by simp [he])) hi' hk
theorem flat_drop {α : Type} {sz : Nat} {es : List (List α)} (h : ∀ e ∈ es, e.length = sz) (lo : Nat) : (es.drop lo).flatten = es.flatten.drop (lo * sz) := by
  induction lo generalizing es with
  | zero => simp
  | succ lo ih =>
    cases es with
    | nil => simp
    | cons e es =>
      have h0 : e.length = sz := h e (by simp)
      have h1 : e.drop ((lo + 1) * sz) = [] := List.drop_eq_nil_of_le (by rw [h0, Nat.add_mul]; omega)
      have h2 : (lo + 1) * sz - e.length = lo * sz := by rw [h0, Nat.add_mul]; omega
      rw [List.drop_succ_cons, ih (fun e' he => h e' (by simp [he])), List.flatten_cons, List.drop_append, h1, h2, List.nil_append]
theorem flat_take {α : Type} {sz : Nat} {es : List (List α)} (h : ∀ e ∈ es, e.length = sz) (n : Nat) : (es.take n).flatten = es.flatten.take (n * sz) := by
  induction n generalizing es with
  | zero => simp
  | succ n ih =>
    cases es with
    | nil => simp
    | cons e es =>
      have h0 : e.length = sz := h e (by simp)
      have h1 : e.take ((n + 1) * sz) = e := List.take_of_length_le (by rw [h0, Nat.add_mul]; omega)
      have h2 : (n + 1) * sz - e.length = n * sz := by rw [h0, Nat.add_mul]; omega
      rw [List.take_succ_cons, List.flatten_cons, ih (fun e' he => h e' (by simp [he])), List.flatten_cons, List.take_append, h1, h2]

theorem Rel.slOf (h : Rel S0 w0 N s a w ι) {x : Value} {c : AC} (hx : RepC (env S0 N s w ι) x c) {sz : Nat} {es : List (List D)} (hd : dataC s.hp c = some (.sl sz es)) :
    SlOf (Shows (Tr S0 w ι (lk s.hp)) w) w x sz es := by
  have whole : ∀ {b g : Nat} {sz : Nat} {es : List (List D)} {fz : Bool}, lk s.hp b = some (.row sz es fz) → ι b = some g → (∀ e ∈ es, e.length = sz) ∧
      ∀ k c, es.flatten[k]? = some c → ∃ y, w.cell? ⟨g, k, none⟩ = some y ∧ Shows (Tr S0 w ι (lk s.hp)) w y c := fun {b g sz es fz} hb hg => by
    obtain ⟨_, cur, ty, hh, hc, hsh⟩ := h.block hb hg
    refine ⟨hsh.2, fun k c hk => ?_⟩
    obtain ⟨y, hy, hr⟩ := hc k (.d c) (by show (es.flatten.map AC.d)[k]? = _; rw [List.getElem?_map, hk]; rfl)
    exact ⟨y, by rw [cell_of_row w g k cur ty (0, 0) hh]; exact hy, hr⟩
  have none' : ∀ {b sz : Nat} {es : List (List D)} {fz : Bool}, lk s.hp b = some (.row sz es fz) → ι b = none → es = [] := fun {b sz es fz} hb hg => by
    have h2 := (h.ob b _ hb).2
    unfold RepO at h2
    have hg' : (env S0 N s w ι).ι b = none := hg
    rw [hg'] at h2
    obtain ⟨sz', fz', he⟩ := h2
    cases he
    rfl
  cases c with
  | d c =>
    simp only [dataC, Option.some.injEq] at hd
    subst hd
    cases hx with
    | nil => exact ⟨by simp, .inl ⟨rfl, rfl⟩⟩
    | @sl ad n cap _ _ f hn hS hc hm hw hr hd =>
      subst hn
      exact ⟨hw, .inr ⟨ad, cap, rfl, hc, hm, fun k c hk => ⟨f k, hr k c hk, hd k c hk⟩⟩⟩
  | own b L =>
    simp only [dataC] at hd
    split at hd
    · rename_i sz' es' fz hb
      split at hd
      · rename_i hl
        simp only [Option.some.injEq, D.sl.injEq] at hd
        obtain ⟨rfl, rfl⟩ := hd
        obtain ⟨_, _, hx⟩ := hx
        obtain ⟨_, hx⟩ := hx _ _ fz hb
        rcases hx hl with ⟨hn, rfl⟩ | ⟨g, cap, hg, rfl, hc, hm, _⟩
        · obtain rfl := none' hb hn
          exact ⟨by simp, .inl ⟨rfl, rfl⟩⟩
        · obtain ⟨h1, h2⟩ := whole hb hg
          refine ⟨h1, .inr ⟨_, cap, by rw [hl], by omega, hm, fun k c hk => ?_⟩⟩
          rw [Addr.add_lit, Nat.zero_add]
          exact h2 k c hk
      · cases hd
    · cases hd
  | view b lo n L =>
    simp only [dataC] at hd
    split at hd
    · rename_i sz' es' fz hb
      split at hd
      · rename_i hl
        simp only [Option.some.injEq, D.sl.injEq] at hd
        obtain ⟨rfl, rfl⟩ := hd
        obtain ⟨_, _, hx⟩ := hx
        obtain ⟨_, hx⟩ := hx _ _ fz hb
        obtain ⟨A, cap, rfl, hc, hm, hA0, hA⟩ := hx hl.1
        have hlen : ((es'.drop lo).take n).length = n := by rw [List.length_take, List.length_drop]; omega
        by_cases hn : n = 0
        · subst hn
          refine ⟨by simp, ?_⟩
          cases A with
          | none =>
            rw [hA0 rfl]
            exact .inl ⟨rfl, by simp⟩
          | some ad => exact .inr ⟨ad, cap, by simp, by simp, hm, fun k c hk => by simp at hk⟩
        · obtain ⟨g, hg, rfl⟩ := hA (by omega)
          obtain ⟨h1, h2⟩ := whole hb hg
          have hw1 : ∀ e ∈ (es'.drop lo).take n, e.length = sz' := fun e he => h1 e (List.mem_of_mem_drop (List.mem_of_mem_take he))
          refine ⟨hw1, .inr ⟨_, cap, by rw [hlen], by rw [hlen]; exact hc, hm, fun k c hk => ?_⟩⟩
          rw [Addr.add_lit]
          rw [flat_take (fun e he => h1 e (List.mem_of_mem_drop he)), flat_drop h1, List.getElem?_take] at hk
          split at hk
          · rw [List.getElem?_drop] at hk
            exact h2 _ c hk
          · cases hk
      · cases hd
    · cases hd
  | _ => simp [dataC] at hd
end
end
end Go.Proofs.Ytmhnogmbpoeaeaa.Eng
namespace Go.Proofs.Ytmhnogmbpoeaeaa.Eng
set_option linter.all false
noncomputable section
open Go.RowKit

/-! ### What an operation does -/
structure Eff where
  val : Option AV
  ups : List (Nat × Ob) := []
  cnt : Nat := 0
def one (c : AC) : AV := .x (.one c)
def vv (v : Value) : AV := one (.d (.v v))
def ok1 (x : AV) : Option Eff := some { val := some x }

def binV (op : BinOp) (x y : Value) : Option Value :=
  match x, y with
  | .int k a, .int k' b => if k = k' then
      match op with
      | .add => some (.int k (k.wrap (a + b)))
      | .sub => some (.int k (k.wrap (a - b)))
      | .mul => some (.int k (k.wrap (a * b)))
      | .quo => if b = 0 then none else some (.int k (k.wrap (a.tdiv b)))
      | .rem => if b = 0 then none else some (.int k (a.tmod b))
      | .and => some (.int k (bits .and k a b))
      | .or => some (.int k (bits .or k a b))
      | .xor => some (.int k (bits .xor k a b))
      | .andNot => some (.int k (bits .andNot k a b))
      | .shl => if 0 ≤ b then some (.int k (k.wrap (a * 2 ^ (min b.toNat k.bits)))) else none
      | .shr => if 0 ≤ b then some (.int k (a.fdiv (2 ^ (min b.toNat k.bits)))) else none
      | .eql => some (.bool (decide (a = b)))
      | .neq => some (.bool (!decide (a = b)))
      | .lss => some (.bool (decide (a < b)))
      | .leq => some (.bool (decide (a ≤ b)))
      | .gtr => some (.bool (decide (b < a)))
      | .geq => some (.bool (decide (b ≤ a)))
    else match op with
      | .shl => if 0 ≤ b then some (.int k (k.wrap (a * 2 ^ (min b.toNat k.bits)))) else none
      | .shr => if 0 ≤ b then some (.int k (a.fdiv (2 ^ (min b.toNat k.bits)))) else none
      | _ => none
  | _, _ => none
theorem binV_run {op : BinOp} {x y v : Value} (h : binV op x y = some v) (P : Program) (t : TypeId) (ox oy : Operand) (w : World) : (do eqGuard op t ox oy x y; binOp op t x y : Sem Value).run P w = .ok v w ∧ v.oneCell' = true := by
  unfold binV at h
  split at h
  · rename_i k a k' b
    have hg : eqGuard op t ox oy (.int k a) (.int k' b) = pure () := eqGuard_at_int op t ox oy (.int k' b) k a
    rw [hg]
    split at h
    · rename_i hk
      subst hk
      cases op <;> simp only [] at h
      case quo =>
        split at h
        · cases h
        · rename_i hb; cases h; simp [binOp_quo, Op.intDiv, hb, Value.oneCell']
      case rem =>
        split at h
        · cases h
        · rename_i hb; cases h; simp [binOp_rem, Op.intDiv, hb, Value.oneCell']
      case shl =>
        split at h
        · rename_i hb; cases h; simp [binOp_shl, Op.shift, Int.not_lt.2 hb, Value.oneCell']
        · cases h
      case shr =>
        split at h
        · rename_i hb; cases h; simp [binOp_shr, Op.shift, Int.not_lt.2 hb, Value.oneCell']
        · cases h
      all_goals (cases h; simp [binOp_add, binOp_sub, binOp_mul, binOp_and, binOp_or, binOp_xor, binOp_andNot, binOp_eql, binOp_neq, binOp_lss, binOp_leq, binOp_gtr, binOp_geq, Op.intArith, intBits_and, intBits_or, intBits_xor, intBits_andNot, Value.oneCell', bne, BEq.beq])
    · split at h
      · split at h
        · rename_i hb; cases h; simp [binOp_shl, Op.shift, Int.not_lt.2 hb, Value.oneCell']
        · cases h
      · split at h
        · rename_i hb; cases h; simp [binOp_shr, Op.shift, Int.not_lt.2 hb, Value.oneCell']
        · cases h
      · cases h
  · cases h
/-- .. and two booleans, compared. -/
def boolT (P : Program) (t : TypeId) : Bool :=
  match P.underlying t with
  | some .bool => true
  | _ => false
/-- .. and two structs of numbers and booleans, compared. -/
def eqF (P : Program) (xs ys : List Value) : List Field → Option Bool
  | [] => some true
  | f :: fs => if f.name = "_" then none else
    match P.underlying f.type, xs[f.offset]?, ys[f.offset]? with
    | some (.int _), some (.int k a), some (.int k' b) => if k = k' then (eqF P xs ys fs).map fun r => decide (a = b) && r else none
    | some .bool, some (.bool a), some (.bool b) => (eqF P xs ys fs).map fun r => (a == b) && r
    | _, _, _ => none
def eqS (P : Program) (t : TypeId) (xs ys : List Value) : Option Bool :=
  match P.underlying t with
  | some (.struct fs) => if P.eqGuardType P.depth t = false ∧ P.stoodInHeld t = false then eqF P xs ys fs.toList else none
  | _ => none
theorem eqF_run {P : Program} (w : World) {xs ys : Array Value} : ∀ {fs : List Field} {r : Bool}, eqF P xs.toList ys.toList fs = some r → (Op.eqFields 9999 xs ys fs).run P w = .ok r w
  | [], r, h => by simp only [eqF, Option.some.injEq] at h; subst h; simp [Op.eqFields]
  | f :: fs, r, h => by
    simp only [eqF] at h
    split at h
    · cases h
    · rename_i hn
      split at h
      · rename_i k0 k a k' b hu hx hy
        split at h
        · rename_i hk
          subst hk
          obtain ⟨r', hr', rfl⟩ := Option.map_eq_some_iff.1 h
          have hp : ∀ (zs : Array Value) (v : Value), zs.toList[f.offset]? = some v → (part f.type zs f.offset).run P w = .ok v w := fun zs v hz => by
            have hz' : zs[f.offset]? = some v := by simpa using hz
            simp [part, isAgg, run_underlying hu, hz']
          have ih := eqF_run w hr'
          simp only [Op.eqFields, if_pos hn, Sem.run_bind, hp xs _ hx, hp ys _ hy, Result.andThen_ok, run_equalIn_int w 9998 f.type k k0 a b hu]
          by_cases hab : a = b
          · subst hab; simp [ih]
          · simp [hab]
        · cases h
      · rename_i a b hu hx hy
        obtain ⟨r', hr', rfl⟩ := Option.map_eq_some_iff.1 h
        have hp : ∀ (zs : Array Value) (v : Value), zs.toList[f.offset]? = some v → (part f.type zs f.offset).run P w = .ok v w := fun zs v hz => by
          have hz' : zs[f.offset]? = some v := by simpa using hz
          simp [part, isAgg, run_underlying hu, hz']
        have ih := eqF_run w hr'
        simp only [Op.eqFields, if_pos hn, Sem.run_bind, hp xs _ hx, hp ys _ hy, Result.andThen_ok, run_equalIn_bool' w 9998 f.type a b hu]
        cases hab : (a == b)
        · simp
        · simp [ih]
      · cases h
def binX (P : Program) (op : BinOp) (t : TypeId) (x y : Value) : Option Value :=
  match x, y with
  | .bool a, .bool b => if boolT P t = true then (match op with
      | .eql => some (.bool (a == b))
      | .neq => some (.bool (!(a == b)))
      | _ => none) else none
  | .agg xs, .agg ys => (match op with
      | .eql => (eqS P t xs.toList ys.toList).map fun b => .bool b
      | .neq => (eqS P t xs.toList ys.toList).map fun b => .bool (!b)
      | _ => none)
  | x, y => binV op x y
theorem binX_run {P : Program} {op : BinOp} {t : TypeId} {x y v : Value} (h : binX P op t x y = some v) (ox oy : Operand) (w : World) : (do eqGuard op t ox oy x y; binOp op t x y : Sem Value).run P w = .ok v w ∧ v.oneCell' = true := by
  unfold binX at h
  split at h
  · rename_i a b
    split at h
    · rename_i hb
      have ht : P.underlying t = some .bool := by
        unfold boolT at hb
        split at hb
        · assumption
        · cases hb
      have hg : eqGuard op t ox oy (.bool a) (.bool b) = pure () := eqGuard_at_bool op t ox oy (.bool b) a
      rw [hg]
      split at h
      · cases h
        refine ⟨?_, rfl⟩
        simp only [Sem.run_bind, Sem.run_pure, Result.andThen_ok]
        exact run_eql_bool w t a b ht
      · cases h
        refine ⟨?_, rfl⟩
        simp only [Sem.run_bind, Sem.run_pure, Result.andThen_ok]
        exact run_neq_bool w t a b ht
      · cases h
    · cases h
  · rename_i xs ys
    have key : ∀ {b : Bool}, eqS P t xs.toList ys.toList = some b → (eqGuard op t ox oy (.agg xs) (.agg ys)).run P w = .ok () w ∧ (Op.equalIn 10000 t (.agg xs) (.agg ys)).run P w = .ok b w := fun {b} hb => by
      unfold eqS at hb
      split at hb
      · rename_i fs hu
        split at hb
        · rename_i hc
          have hf : P.underlying t = some (.struct (P.fieldsOf t)) := by simp [Program.fieldsOf, hu]
          have he : (P.fieldsOf t) = fs := by simp [Program.fieldsOf, hu]
          refine ⟨run_eqGuard_agg w op t ox oy xs ys hc.1, ?_⟩
          rw [run_equalIn_struct w 9999 t xs ys hf hc.2, he]
          exact eqF_run w hb
        · cases hb
      · cases hb
    split at h
    · obtain ⟨b, hb, rfl⟩ := Option.map_eq_some_iff.1 h
      obtain ⟨h1, h2⟩ := key hb
      refine ⟨?_, rfl⟩
      simp only [Sem.run_bind, h1, Result.andThen_ok, run_eql_struct, h2]
    · obtain ⟨b, hb, rfl⟩ := Option.map_eq_some_iff.1 h
      obtain ⟨h1, h2⟩ := key hb
      refine ⟨?_, rfl⟩
      simp only [Sem.run_bind, h1, Result.andThen_ok, run_neq_struct, h2]
    · cases h
  · exact binV_run h P t ox oy w
def unV (op : UnOp) (x : Value) : Option Value :=
  match op, x with
  | .neg, .int k n => some (.int k (k.wrap (0 - n)))
  | .xor, .int k n => some (.int k (bits .xor k (if k.signed then -1 else k.max) n))
  | .not, .bool b => some (.bool !b)
  | _, _ => none
theorem unV_run {op : UnOp} {x v : Value} (h : unV op x = some v) (P : Program) (w : World) : (Op.unary op x).run P w = .ok v w ∧ v.oneCell' = true := by
  unfold unV at h
  split at h
  · cases h; simp [Op.unary, Op.intArith, Value.oneCell']
  · cases h; simp [Op.unary, intBits_xor, Value.oneCell']
  · cases h; simp [Op.unary, Value.oneCell']
  · cases h
def cvV (P : Program) (src dst : TypeId) (x : Value) : Option Value :=
  match x, ti P src, ti P dst with
  | .int _ n, some _, some ⟨.int k, _, _, _⟩ => some (.int k (k.wrap n))
  | _, _, _ => none
theorem cvV_run {P : Program} {src dst : TypeId} {x v : Value} (h : cvV P src dst x = some v) (w : World) : (convert src dst x).run P w = .ok v w ∧ v.oneCell' = true := by
  unfold cvV at h
  split at h
  · rename_i k0 n x1 k s b z h1 h2
    cases h
    obtain ⟨_, d1, _, _, e1, _⟩ := ti_info h1
    obtain ⟨_, d2, _, _, e2, _, _, hx, _⟩ := ti_info h2
    have hd : d2 = .int k := by
      simp only [TI.mk.injEq] at hx
      cases d2 <;> simp [tk] at hx
      rw [hx.1]
    subst hd
    have := run_convert_int (P := P) w src dst k0 n (by simp [e1]) (by simp [Program.intKind, e2])
    simpa [Program.intKind, e2, Value.oneCell'] using this
  · cases h

/-- A value's cells, as they lie in a variable. -/
def cellsOf : AV → Option (List AC)
  | .x (.one c) => some [c]
  | .x (.agg cs) => some cs
  | .tup _ => none
theorem cellsOf_rep {E : Env} {x : Value} {a : AV} {cs : List AC} (h : RepV E x a) (hc : cellsOf a = some cs) : All2 (RepC E) x.cells.toList cs ∧ ∀ v ∈ x.cells.toList, v.oneCell' = true := by
  have key : ∀ {xs : List Value} {cs : List AC}, All2 (RepC E) xs cs → ∀ v ∈ xs, v.oneCell' = true := fun {xs cs} h => by
    induction h with
    | nil => simp
    | cons h _ ih => intro v hv; rcases List.mem_cons.1 hv with rfl | hv; exact h.one; exact ih v hv
  cases a with
  | x a => cases a with
    | one c =>
      simp only [cellsOf, Option.some.injEq] at hc
      subst hc
      have h1 : x.oneCell' = true := RepC.one h
      have hx : x.cells = #[x] := by cases x <;> first | rfl | (simp [Value.oneCell'] at h1)
      rw [hx]
      exact ⟨.cons h .nil, by simpa using h1⟩
    | agg l =>
      simp only [cellsOf, Option.some.injEq] at hc
      subst hc
      obtain ⟨arr, rfl, ha⟩ := h
      exact ⟨ha, key ha⟩
  | tup _ => simp [cellsOf] at hc
/-- Cells read as a value of a type. -/
def asVal (agg : Bool) (cs : List AC) : Option AV :=
  if agg then some (.x (.agg cs)) else match cs with | [c] => some (one c) | _ => none
end
end Go.Proofs.Ytmhnogmbpoeaeaa.Eng
namespace Go.Proofs.Ytmhnogmbpoeaeaa.Eng
set_option linter.all false
noncomputable section
open Go.RowKit

/-! ### Reading and writing through a pointer -/
def cellsAt (hp : List (Nat × Ob)) (n : Nat) : AC → Option (List AC)
  | .ptr b off => match lk hp b with
    | some (.box cs) => if off + n ≤ cs.length then some ((cs.drop off).take n) else none
    | _ => none
  | .eptr b i off L => match lk hp b with
    | some (.row _ es _) => if es.length = L ∧ i < L ∧ off + n ≤ (es.getD i []).length then some ((((es.getD i []).drop off).take n).map .d) else none
    | _ => none
  | .cptr cs => if n ≤ cs.length then some ((cs.take n).map .d) else none
  | _ => none
def shift (hp : List (Nat × Ob)) (off : Nat) : AC → Option AC
  | .ptr b o => match lk hp b with
    | some (.box _) => some (.ptr b (o + off))
    | _ => none
  | .eptr b i o L => match lk hp b with
    | some (.row _ es _) => if es.length = L ∧ i < L then some (.eptr b i (o + off) L) else none
    | _ => none
  | .cptr cs => some (.cptr (cs.drop off))
  | _ => none

def Plus (N : Nat → Prop) (seed n b : Nat) : Prop := N b ∨ (seed ≤ b ∧ b < seed + n)
def Out (P : Program) (o : Oper) (a : Act) (w : World) (v : Value) (w' : World) : Prop :=
  (execOp a.eval o).run P w = .ok (.value v) w' ∨ (v = undef ∧ (execOp a.eval o).run P w = .ok .skip w')
def Good (P : Program) (S0 : Nat → Prop) (w0 : Base) (N : Nat → Prop) (s : St) (a : Act) (w : World) (seed : Nat) (o : Oper) (e : Eff) : Prop :=
  ∃ v w' ι', Out P o a w v w' ∧ Rel S0 w0 (Plus N seed e.cnt) { s with hp := e.ups ++ s.hp, nx := seed + e.cnt } a w' ι' ∧
    ∀ x, e.val = some x → RepV (env S0 (Plus N seed e.cnt) { s with hp := e.ups ++ s.hp, nx := seed + e.cnt } w' ι') v x

section
variable {P : Program} {S0 : Nat → Prop} {w0 : Base} {N : Nat → Prop} {s : St} {a : Act} {w : World} {ι : Nat → Option Nat} {seed : Nat} {o : Oper}

theorem Step.same {E E' : Env} (hS : E'.S = E.S) (hw : E'.w = E.w) (hi : E'.ι = E.ι) (hH : E'.H = E.H) (hN : ∀ b, E.N b → E'.N b) : Step E E' := by
  obtain ⟨S, w, i, H, N⟩ := E
  obtain ⟨S', w', i', H', N'⟩ := E'
  simp only at hS hw hi hH hN
  subst hS hw hi hH
  exact ⟨fun _ h => h, fun _ _ => rfl, hN, fun b sz es fz _ hb => ⟨sz, es, fz, hb, .inl ⟨.inr rfl, rfl, rfl, fun g _ cur ty hh => ⟨cur, hh, rfl⟩⟩⟩, fun b cs _ hb => ⟨cs, hb, rfl⟩, fun b kd kv _ hb => ⟨kv, hb, rfl⟩⟩
theorem Rel.weakN {N' : Nat → Prop} {nx' : Nat} (h : Rel S0 w0 N s a w ι) (hN : ∀ b, N b → N' b) : Rel S0 w0 N' { s with nx := nx' } a w ι := by
  have hs : Step (env S0 N s w ι) (env S0 N' { s with nx := nx' } w ι) := Step.same rfl rfl rfl rfl hN
  exact h.change (hp' := s.hp) hs h.gr (fun b o hb => ⟨hN b (h.ob b o hb).1, RepO.keep hs rfl (fun _ _ => rfl) (h.ob b o hb).2⟩) h.inj
theorem rep_weakN {N' : Nat → Prop} {nx' : Nat} (hN : ∀ b, N b → N' b) {v : Value} {x : AV} (h : RepV (env S0 N s w ι) v x) : RepV (env S0 N' { s with nx := nx' } w ι) v x :=
  RepV.keep (E := env S0 N s w ι) (E' := env S0 N' { s with nx := nx' } w ι) (Step.same rfl rfl rfl rfl hN) h

/-- An operation that only computes. -/
theorem good_pure (h : Rel S0 w0 N s a w ι) {v : Value} {x : AV} (hr : (execOp a.eval o).run P w = .ok (.value v) w) (hx : RepV (env S0 N s w ι) v x) : Good P S0 w0 N s a w seed o { val := some x } :=
  ⟨v, w, ι, .inl hr, h.weakN (fun _ h => .inl h), fun y hy => by cases hy; exact rep_weakN (fun _ h => .inl h) hx⟩

theorem Rel.cellsAt (h : Rel S0 w0 N s a w ι) {x : Value} {c : AC} (hx : RepC (env S0 N s w ι) x c) {n : Nat} {cs : List AC} (hc : cellsAt s.hp n c = some cs) :
    ∃ (ad : Addr) (ys : List Value), x = .pointer (some ad) ∧ ys.length = n ∧ (∀ j u, ys[j]? = some u → w.cell? (ad.add j) = some u) ∧ All2 (RepC (env S0 N s w ι)) ys cs := by
  have mk : ∀ {ad : Addr} {cs : List AC}, (∀ k c, cs[k]? = some c → ∃ y, w.cell? (ad.add k) = some y ∧ RepC (env S0 N s w ι) y c) →
      ∃ ys : List Value, ys.length = cs.length ∧ (∀ j u, ys[j]? = some u → w.cell? (ad.add j) = some u) ∧ All2 (RepC (env S0 N s w ι)) ys cs := fun {ad cs} hk => by
    refine ⟨(List.range cs.length).map fun k => (w.cell? (ad.add k)).getD undef, by simp, fun j u hu => ?_, All2.of_get (by simp) fun k y c hy hc => ?_⟩
    · simp only [List.getElem?_map, Option.map_eq_some_iff] at hu
      obtain ⟨k, hk1, rfl⟩ := hu
      obtain ⟨hlt, hk2⟩ := List.getElem?_eq_some_iff.1 hk1
      simp at hk2 hlt
      subst hk2
      obtain ⟨y, hy, _⟩ := hk j cs[j] (List.getElem?_eq_getElem hlt)
      rw [hy]; rfl
    · obtain ⟨y', hy', hr⟩ := hk k c hc
      have hlt : k < cs.length := (List.getElem?_eq_some_iff.1 hc).1
      simp only [List.getElem?_map, List.getElem?_range hlt, Option.map_some, Option.some.injEq, hy', Option.getD_some] at hy
      subst hy
      exact hr
  cases c with
  | ptr b off =>
    simp only [Eng.cellsAt] at hc
    split at hc
    · rename_i l hb
      split at hc
      · rename_i hle
        cases hc
        obtain ⟨_, _, hx⟩ := hx
        obtain ⟨g, hg, rfl⟩ := hx l hb
        obtain ⟨_, cur, ty, hh, hcc, hsh⟩ := h.block hb hg
        obtain ⟨ys, h1, h2, h3⟩ := mk (ad := ⟨g, off, none⟩) (cs := (l.drop off).take n) (fun k c hk => by
          rw [List.getElem?_take] at hk
          split at hk
          · rw [List.getElem?_drop] at hk
            obtain ⟨y, hy, hr⟩ := hcc (off + k) c hk
            exact ⟨y, by rw [Addr.add_lit, cell_of_row w g _ cur ty (0, 0) hh]; exact hy, hr⟩
          · cases hk)
        exact ⟨_, ys, rfl, by rw [h1, List.length_take, List.length_drop]; omega, h2, h3⟩
      · cases hc
    · cases hc
  | eptr b i off L =>
    simp only [Eng.cellsAt] at hc
    split at hc
    · rename_i sz es fz hb
      split at hc
      · rename_i hle
        obtain ⟨hl, hi, hle⟩ := hle
        cases hc
        obtain ⟨_, _, hx⟩ := hx
        obtain ⟨_, hx⟩ := hx sz es fz hb
        obtain ⟨g, hg, rfl⟩ := hx hl hi
        obtain ⟨_, cur, ty, hh, hcc, hsh⟩ := h.block hb hg
        have he : es[i]? = some (es.getD i []) := by rw [List.getElem?_eq_getElem (by omega)]; simp [List.getD, List.getElem?_eq_getElem (show i < es.length by omega)]
        obtain ⟨ys, h1, h2, h3⟩ := mk (ad := ⟨g, i * sz + off, none⟩) (cs := ((((es.getD i []).drop off).take n).map .d)) (fun k c hk => by
          rw [List.getElem?_map] at hk
          obtain ⟨d, hk', rfl⟩ := Option.map_eq_some_iff.1 hk
          rw [List.getElem?_take] at hk'
          split at hk'
          · rw [List.getElem?_drop] at hk'
            have hf := flat_get hsh.2 he hk'
            obtain ⟨y, hy, hr⟩ := hcc (i * sz + (off + k)) (.d d) (by show (es.flatten.map AC.d)[_]? = _; rw [List.getElem?_map, hf]; rfl)
            exact ⟨y, by rw [Addr.add_lit, cell_of_row w g _ cur ty (0, 0) hh, Nat.add_assoc]; exact hy, hr⟩
          · cases hk')
        exact ⟨_, ys, rfl, by rw [h1, List.length_map, List.length_take, List.length_drop]; omega, h2, h3⟩
      · cases hc
    · cases hc
  | cptr l =>
    simp only [Eng.cellsAt] at hc
    split at hc
    · rename_i hle
      cases hc
      obtain ⟨ad, rfl, hS, hcc⟩ := hx
      obtain ⟨ys, h1, h2, h3⟩ := mk (ad := ad) (cs := (l.take n).map .d) (fun k c hk => by
        rw [List.getElem?_map] at hk
        obtain ⟨d, hk', rfl⟩ := Option.map_eq_some_iff.1 hk
        rw [List.getElem?_take] at hk'
        split at hk'
        · obtain ⟨y, hy, hr⟩ := hcc k d hk'
          exact ⟨y, hy, hr⟩
        · cases hk')
      exact ⟨ad, ys, rfl, by rw [h1, List.length_map, List.length_take]; omega, h2, h3⟩
    · cases hc
  | _ => simp [Eng.cellsAt] at hc

theorem Rel.shift (_ : Rel S0 w0 N s a w ι) {x : Value} {c c' : AC} {off : Nat} (hx : RepC (env S0 N s w ι) x c) (hc : shift s.hp off c = some c') :
    ∃ ad, x = .pointer (some ad) ∧ RepC (env S0 N s w ι) (.pointer (some (ad.add off))) c' := by
  cases c with
  | ptr b o =>
    simp only [Eng.shift] at hc
    split at hc
    · rename_i l hb
      cases hc
      obtain ⟨hN, _, hx⟩ := hx
      obtain ⟨g, hg, rfl⟩ := hx l hb
      refine ⟨_, rfl, hN, rfl, fun cs hcs => ⟨g, hg, ?_⟩⟩
      rw [Addr.add_lit]
    · cases hc
  | eptr b i o L =>
    simp only [Eng.shift] at hc
    split at hc
    · rename_i sz es fz hb
      split at hc
      · rename_i hl
        cases hc
        obtain ⟨hN, _, hx⟩ := hx
        obtain ⟨hle, hx⟩ := hx sz es fz hb
        obtain ⟨g, hg, rfl⟩ := hx hl.1 hl.2
        refine ⟨_, rfl, hN, rfl, fun sz1 es1 fz1 hb1 => ?_⟩
        have := hb.symm.trans hb1
        cases this
        refine ⟨hle, fun _ _ => ⟨g, hg, ?_⟩⟩
        rw [Addr.add_lit, Nat.add_assoc]
      · cases hc
    · cases hc
  | cptr l =>
    simp only [Eng.shift] at hc
    cases hc
    obtain ⟨ad, rfl, hS, hcc⟩ := hx
    refine ⟨ad, rfl, ad.add off, rfl, fun hne => ?_, fun k c hk => ?_⟩
    · rw [add_block]; exact hS (by rintro rfl; simp at hne)
    · rw [add_add']
      rw [List.getElem?_drop] at hk
      exact hcc _ c hk
  | _ => simp [Eng.shift] at hc
end
end
end Go.Proofs.Ytmhnogmbpoeaeaa.Eng
namespace Go.Proofs.Ytmhnogmbpoeaeaa.Eng
set_option linter.all false
noncomputable section
open Go.RowKit

def spl {α : Type} (l : List α) (o : Nat) (m : List α) : List α := l.take o ++ (m ++ l.drop (o + m.length))
theorem spl_len {α : Type} {l m : List α} {o : Nat} (h : o + m.length ≤ l.length) : (spl l o m).length = l.length := by
  simp only [spl, List.length_append, List.length_take, List.length_drop]; omega
theorem spl_get {α : Type} {l m : List α} {o : Nat} (h : o + m.length ≤ l.length) (k : Nat) : (spl l o m)[k]? = if k < o then l[k]? else if k < o + m.length then m[k - o]? else l[k]? := by
  unfold spl
  rw [List.getElem?_append]
  simp only [List.length_take]
  have ho : min o l.length = o := by omega
  rw [ho]
  by_cases h1 : k < o
  · simp [h1]
  · rw [if_neg h1, if_neg h1, List.getElem?_append]
    by_cases h2 : k < o + m.length
    · rw [if_pos (by omega), if_pos h2]
    · rw [if_neg (by omega), if_neg h2, List.getElem?_drop]
      congr 1
      omega

section
variable {P : Program} {S0 : Nat → Prop} {w0 : Base} {N : Nat → Prop} {s : St} {a : Act} {w : World} {ι : Nat → Option Nat} {seed : Nat} {o : Oper}

theorem run_loadVar {t : TypeId} {i : TI} (hi : ti P t = some i) (w : World) (ad : Addr) (ys : List Value) (hl : ys.length = i.size) (hy : ∀ j u, ys[j]? = some u → w.cell? (ad.add j) = some u) (h1 : i.k.isAgg = false → ys.length = 1) :
    (loadVar t ad).run P w = .ok (if i.k.isAgg then .agg ys.toArray else ys.getD 0 undef) w := by
  have hl' := run_loadCells_list (P := P) w ad ys hy
  rw [hl] at hl'
  cases hk : i.k.isAgg with
  | true => simp [loadVar, ti_agg hi, ti_size hi, hk, hl']
  | false =>
    have hone := h1 hk
    obtain ⟨y, rfl⟩ : ∃ y, ys = [y] := by
      match ys, hone with
      | [y], _ => exact ⟨y, rfl⟩
    have h0 := hy 0 y rfl
    rw [Addr.add_zero'] at h0
    simp [loadVar, ti_agg hi, hk, h0]

def load1 (P : Program) (s : St) (t : TypeId) (x : Operand) : Option Eff :=
  match evO s x, ti P t with
  | some (.x (.one c)), some i => (cellsAt s.hp i.size c).bind fun cs => (asVal i.k.isAgg cs).map fun v => { val := some v }
  | _, _ => none
theorem asVal_rep {E : Env} {ys : List Value} {cs : List AC} {agg : Bool} {v : AV} (h : All2 (RepC E) ys cs) (hv : asVal agg cs = some v) : (agg = false → ys.length = 1) ∧ RepV E (if agg then .agg ys.toArray else ys.getD 0 undef) v := by
  unfold asVal at hv
  cases agg with
  | true => simp only [if_true] at hv; cases hv; exact ⟨by simp, ys.toArray, rfl, by simpa using h⟩
  | false =>
    simp only [Bool.false_eq_true, if_false] at hv
    split at hv
    · cases hv
      cases h with
      | cons h t => cases t; exact ⟨by simp, h⟩
    · cases hv
theorem good_load (h : Rel S0 w0 N s a w ι) {t : TypeId} {x : Operand} {e : Eff} (ho : o.op = .load t x) (he : load1 P s t x = some e) : Good P S0 w0 N s a w seed o e := by
  unfold load1 at he
  split at he
  · rename_i c i hx hi
    obtain ⟨cs, hc, he⟩ := Option.bind_eq_some_iff.1 he
    obtain ⟨v, hv, rfl⟩ := Option.map_eq_some_iff.1 he
    obtain ⟨ad, ys, hp, hl, hcell, hr⟩ := h.cellsAt (h.ev hx) hc
    obtain ⟨h1, h2⟩ := asVal_rep hr hv
    refine good_pure h (v := if i.k.isAgg then .agg ys.toArray else ys.getD 0 undef) ?_ h2
    simp only [execOp, ho, hp, Instr.loadAt, Instr.sureAddr, Sem.run_bind, Sem.run_pure, Result.andThen_ok, run_loadVar hi w ad ys hl hcell h1]
  · cases he

/-- A plain computation of one value. -/
theorem good_val (h : Rel S0 w0 N s a w ι) {v : Value} (hr : (execOp a.eval o).run P w = .ok (.value v) w) (hv : v.oneCell' = true) : Good P S0 w0 N s a w seed o { val := some (vv v) } :=
  good_pure h hr (rep_v hv)
theorem good_move (h : Rel S0 w0 N s a w ι) {x : Operand} {v : AV} (ho : o.op = .move x ∨ o.op = .assign x) (hx : evO s x = some v) : Good P S0 w0 N s a w seed o { val := some v } := by
  refine good_pure h (v := a.eval x) ?_ (h.ev hx)
  rcases ho with ho | ho <;> simp [execOp, ho]
theorem good_pick (h : Rel S0 w0 N s a w ι) {c x y : Operand} {b : Bool} {v : AV} (ho : o.op = .pick c x y) (hc : evP s c = some (.bool b)) (hx : evO s (if b then x else y) = some v) : Good P S0 w0 N s a w seed o { val := some v } := by
  refine good_pure h (v := a.eval (if b then x else y)) ?_ (h.ev hx)
  simp only [execOp, ho, h.evP hc, asBool]
  cases b <;> rfl
theorem good_bin (h : Rel S0 w0 N s a w ι) {op : BinOp} {t t' : TypeId} {x y : Operand} {u v r : Value} (ho : o.op = .binOp op t x y t') (hx : evP s x = some u) (hy : evP s y = some v) (hr : binX P op t u v = some r) : Good P S0 w0 N s a w seed o { val := some (vv r) } := by
  obtain ⟨h1, h2⟩ := binX_run hr x y w
  refine good_val h ?_ h2
  rw [Sem.run_bind] at h1
  simp only [execOp, ho, h.evP hx, h.evP hy, Sem.run_bind]
  rw [h1]; rfl
theorem good_un (h : Rel S0 w0 N s a w ι) {op : UnOp} {t : TypeId} {x : Operand} {u r : Value} (ho : o.op = .unOp op t x) (hx : evP s x = some u) (hr : unV op u = some r) : Good P S0 w0 N s a w seed o { val := some (vv r) } := by
  obtain ⟨h1, h2⟩ := unV_run hr P w
  refine good_val h ?_ h2
  simp only [execOp, ho, h.evP hx, Sem.run_bind, h1]; rfl
theorem good_cv (h : Rel S0 w0 N s a w ι) {src dst : TypeId} {x : Operand} {u r : Value} (ho : o.op = .convert src dst x) (hx : evP s x = some u) (hr : cvV P src dst u = some r) : Good P S0 w0 N s a w seed o { val := some (vv r) } := by
  obtain ⟨h1, h2⟩ := cvV_run hr w
  refine good_val h ?_ h2
  simp only [execOp, ho, h.evP hx, Sem.run_bind, h1]; rfl

def fieldOf (P : Program) (t : TypeId) (k : Nat) : Option (Nat × TI) :=
  match ti P t with
  | some ⟨.st fs, _, _, _⟩ => match fs[k]? with
    | some (off, ft) => match ti P ft with
      | some i => if i.size = 0 then none else some (off, i)
      | none => none
    | none => none
  | _ => none
theorem fieldOf_spec {t : TypeId} {k off : Nat} {i : TI} (h : fieldOf P t k = some (off, i)) : ∃ (fs : Array Field) (f : Field), P.underlying t = some (.struct fs) ∧ fs[k]? = some f ∧ f.offset = off ∧ ti P f.type = some i ∧ i.size ≠ 0 := by
  unfold fieldOf at h
  split at h
  · rename_i fs n b z hi
    obtain ⟨j, d, zz, _, hd, _, _, hx, _⟩ := ti_info hi
    simp only [TI.mk.injEq] at hx
    split at h
    · rename_i off' ft hk
      split at h
      · rename_i i' hi'
        split at h
        · cases h
        · rename_i hne
          cases h
          cases d <;> simp [tk] at hx
          rename_i fields
          rw [hx.1] at hk
          simp only [List.getElem?_map, Option.map_eq_some_iff, Prod.mk.injEq] at hk
          obtain ⟨f, hf, rfl, rfl⟩ := hk
          exact ⟨fields, f, hd, by simpa using hf, rfl, hi', hne⟩
      · cases h
    · cases h
  · cases h
theorem good_fieldAddr (h : Rel S0 w0 N s a w ι) {t : TypeId} {x : Operand} {k off : Nat} {i : TI} {c c' : AC} (ho : o.op = .fieldAddr t x k) (hx : evO s x = some (one c)) (hf : fieldOf P t k = some (off, i)) (hc : shift s.hp off c = some c') :
    Good P S0 w0 N s a w seed o { val := some (one c') } := by
  obtain ⟨fs, f, h1, h2, rfl, h3, h4⟩ := fieldOf_spec hf
  obtain ⟨ad, hp, hr⟩ := h.shift (h.ev hx) hc
  refine good_pure h (v := .pointer (some (ad.add f.offset))) ?_ hr
  simp [execOp, ho, hp, Instr.fieldAt, run_underlying h1, h2, Instr.sureAddr, fieldPlace, ti_size h3, h4]
def partOf (off n : Nat) (agg : Bool) (cs : List AC) : Option AV := if off + n ≤ cs.length then asVal agg ((cs.drop off).take n) else none
theorem part_run {E : Env} {cs : Array Value} {l : List AC} (h : All2 (RepC E) cs.toList l) {off : Nat} {t : TypeId} {i : TI} (hi : ti P t = some i) {v : AV} (hv : partOf off i.size i.k.isAgg l = some v) (w : World) :
    ∃ u, (part t cs off).run P w = .ok u w ∧ RepV E u v := by
  unfold partOf at hv
  split at hv
  · rename_i hle
    have h2 : All2 (RepC E) ((cs.toList.drop off).take i.size) ((l.drop off).take i.size) := (h.drop off).take i.size
    obtain ⟨h3, h4⟩ := asVal_rep h2 hv
    refine ⟨_, ?_, h4⟩
    have hlen := h.length
    cases hk : i.k.isAgg with
    | true =>
      simp only [part, Sem.run_bind, ti_agg hi, hk, Result.andThen_ok, if_true, ti_size hi, Sem.run_pure]
      congr 2
      apply Array.ext'
      simp [Array.toList_extract, List.extract, Nat.add_sub_cancel_left]
    | false =>
      have h5 := h3 hk
      have hlt : off < cs.size := by
        rw [List.length_take, List.length_drop] at h5
        simp at hlen
        omega
      simp only [part, Sem.run_bind, ti_agg hi, hk, Result.andThen_ok, Bool.false_eq_true, if_false]
      rw [Array.getElem?_eq_getElem hlt]
      simp only [Sem.run_pure]
      congr 1
      have h6 : 0 < i.size := by rw [List.length_take] at h5; omega
      have : ((cs.toList.drop off).take i.size)[0]? = some cs[off] := by
        rw [List.getElem?_take, if_pos h6, List.getElem?_drop]; simp [hlt]
      simp [List.getD, this]
  · cases hv
theorem good_field (h : Rel S0 w0 N s a w ι) {t : TypeId} {x : Operand} {k off : Nat} {i : TI} {l : List AC} {v : AV} (ho : o.op = .field t x k) (hx : evO s x = some (.x (.agg l))) (hf : fieldOf P t k = some (off, i)) (hv : partOf off i.size i.k.isAgg l = some v) :
    Good P S0 w0 N s a w seed o { val := some v } := by
  obtain ⟨fs, f, h1, h2, rfl, h3, h4⟩ := fieldOf_spec hf
  obtain ⟨arr, hp, hr⟩ := h.ev hx
  obtain ⟨u, hu, hr'⟩ := part_run hr h3 hv w
  refine good_pure h (v := u) ?_ hr'
  simp [execOp, ho, hp, Instr.field, run_underlying h1, h2, asAgg, hu]
theorem good_extract (h : Rel S0 w0 N s a w ι) {x : Operand} {k : Nat} {l : List AX} {v : AX} (ho : o.op = .extract x k) (hx : evO s x = some (.tup l)) (hk : l[k]? = some v) : Good P S0 w0 N s a w seed o { val := some (.x v) } := by
  obtain ⟨arr, hp, hr⟩ := h.ev hx
  obtain ⟨u, hu, hr'⟩ := hr.get hk
  refine good_pure h (v := u) ?_ hr'
  have hu' : arr[k]? = some u := by simpa using hu
  simp [execOp, ho, hp, Instr.extract, hu']
theorem good_nilCheck (h : Rel S0 w0 N s a w ι) {x : Operand} {c c' : AC} (ho : o.op = .nilCheck x) (hx : evO s x = some (one c)) (hc : shift s.hp 0 c = some c') : Good P S0 w0 N s a w seed o { val := some (one c) } := by
  obtain ⟨ad, hp, _⟩ := h.shift (h.ev hx) hc
  refine good_pure h (v := a.eval x) ?_ (h.ev hx)
  simp [execOp, ho, hp]

/-- A new variable. -/
theorem good_new (h : Rel S0 w0 N s a w ι) (hid : ∀ k, k < 1 → ¬ N (seed + k)) {cur : Array Value} {ty : TypeId} {ob : Ob} {v : Value} {x : AV}
    (hr : (execOp a.eval o).run P w = .ok (.value v) (w.alloc (.cells cur ty)))
    (hc : ∀ (k : Nat) (c : AC), ob.cells[k]? = some c → ∃ y, cur[k]? = some y ∧ RepC (env S0 N s w ι) y c) (hsh : ob.shape cur.size)
    (hx : ∀ E : Env, E.ι seed = some w.heap.size → E.H seed = some ob → E.N seed → E.w = w.alloc (.cells cur ty) → RepV E v x) (hmp : ob.isMp = false := by rfl) :
    Good P S0 w0 N s a w seed o { val := some x, ups := [(seed, ob)], cnt := 1 } := by
  have h1 := h.alloc (id := seed) (nx' := seed + 1) (by simpa using hid 0 (by omega)) ob cur ty hc hsh hmp
  have hN : ∀ b, With N seed b → Plus N seed 1 b := fun b hb => hb.imp id (fun e => by omega)
  refine ⟨v, _, _, .inl hr, (h1.weakN (nx' := seed + 1) hN), fun y hy => ?_⟩
  cases hy
  refine hx _ (upd_same _ _ _) ?_ (.inr ⟨Nat.le_refl _, by show seed < seed + 1; omega⟩) rfl
  simp [env, lk_nil, lk_cons]
end
end
end Go.Proofs.Ytmhnogmbpoeaeaa.Eng
