/-
  Values seen as data: a part of the engine, of no one program. No condition.
-/
import Derived.Test.YtnmpdpijcehofaaE2
namespace Go.Proofs.Ytnmpdpijcehofaa.Eng
set_option linter.all false
noncomputable section
open Go.RowKit

def upd (ι : Nat → Option Nat) (b : Nat) (g : Option Nat) (x : Nat) : Option Nat := if x = b then g else ι x
theorem upd_same (ι : Nat → Option Nat) (b : Nat) (g : Option Nat) : upd ι b g b = g := by simp [upd]
theorem upd_other (ι : Nat → Option Nat) (b : Nat) (g : Option Nat) {x : Nat} (h : x ≠ b) : upd ι b g x = ι x := by simp [upd, h]

def With (N : Nat → Prop) (id : Nat) (x : Nat) : Prop := N x ∨ x = id

theorem heap_lt {w : World} {g : Nat} {o : Obj} (h : w.heap[g]? = some o) : g < w.heap.size := (Array.getElem?_eq_some_iff.1 h).1

section
variable {S0 : Nat → Prop} {w0 : Base} {N : Nat → Prop} {s : St} {a : Act} {w : World} {ι : Nat → Option Nat}

/-- The block of an object of the call's own. -/
theorem Rel.block (h : Rel S0 w0 N s a w ι) {b g : Nat} {o : Ob} (hb : lk s.hp b = some o) (hg : ι b = some g) : w0.w.heap.size ≤ g ∧ ∃ (cur : Array Value) (ty : TypeId), w.heap[g]? = some (.cells cur ty (0, 0)) ∧
    (∀ (k : Nat) (c : AC), o.cells[k]? = some c → ∃ y, cur[k]? = some y ∧ RepC (env S0 N s w ι) y c) ∧ o.shape cur.size := by
  have h2 := (h.ob b o hb).2
  unfold RepO at h2
  have hg' : (env S0 N s w ι).ι b = some g := hg
  rw [hg'] at h2
  exact h2

/-- A new object in a new block. -/
theorem Rel.alloc (h : Rel S0 w0 N s a w ι) {id nx' : Nat} (hid : ¬ N id) (o : Ob) (cur : Array Value) (ty : TypeId)
    (hc : ∀ (k : Nat) (c : AC), o.cells[k]? = some c → ∃ y, cur[k]? = some y ∧ RepC (env S0 N s w ι) y c)
    (hsh : o.shape cur.size) :
    Rel S0 w0 (With N id) { s with hp := (id, o) :: s.hp, nx := nx' } a (w.alloc (.cells cur ty)) (upd ι id (some w.heap.size)) := by
  have hne : ∀ {b}, N b → b ≠ id := fun hb e => hid (e ▸ hb)
  have hlk : ∀ {b}, N b → lk ((id, o) :: s.hp) b = lk s.hp b := fun hb => by rw [lk_cons, if_neg (Ne.symm (hne hb))]
  have hold : ∀ b o', lk s.hp b = some o' → N b := fun b o' hb => (h.ob b o' hb).1
  have hgl : ∀ b o' g, lk s.hp b = some o' → ι b = some g → g < w.heap.size := fun b o' g hb hg => by
    obtain ⟨_, cur, ty, hh, _⟩ := h.block hb hg
    exact heap_lt hh
  have hs : Step (env S0 N s w ι) (env S0 (With N id) { s with hp := (id, o) :: s.hp, nx := nx' } (w.alloc (.cells cur ty)) (upd ι id (some w.heap.size))) := by
    refine ⟨fun blk' hb => ?_, fun ad had => ?_, fun b hb => .inl hb, fun b sz es fz hN hb => ?_, fun b cs hN hb => ?_⟩
    · obtain ⟨h1, h2, h3⟩ := hb
      refine ⟨h1, by show blk' < (w.alloc _).heap.size; rw [World.size_alloc]; omega, fun b' o' hb' hm => ?_⟩
      replace hb' : lk ((id, _) :: s.hp) b' = some o' := hb'
      show upd ι id _ b' ≠ some blk'
      by_cases he : b' = id
      · subst he; rw [upd_same]; intro e; cases e; omega
      · rw [upd_other _ _ _ he]
        rw [lk_cons, if_neg (Ne.symm he)] at hb'
        exact h3 b' o' hb' hm
    · exact World.cell?_alloc_lt w _ ad had.2.1
    · have hb' : lk s.hp b = some (.row sz es fz) := by rw [← hlk hN]; exact hb
      refine ⟨sz, es, fz, hb', .inl ⟨.inr rfl, rfl, upd_other _ _ _ (hne hN), fun g hg cur' ty' hh => ⟨cur', ?_, rfl⟩⟩⟩
      exact (Below.heap_alloc w _ g (heap_lt hh)).trans hh
    · have hb' : lk s.hp b = some (.box cs) := by rw [← hlk hN]; exact hb
      exact ⟨cs, hb', upd_other _ _ _ (hne hN)⟩
  refine h.change hs (h.gr.alloc _ _) (fun b o' hb => ?_) (fun b b' o1 o2 g h1 h2 g1 g2 => ?_)
  · by_cases he : b = id
    · subst he
      rw [lk_cons, if_pos rfl] at hb
      cases hb
      refine ⟨.inr rfl, ?_⟩
      unfold RepO
      have hi : (env S0 (With N b) { s with hp := (b, o) :: s.hp, nx := nx' } (w.alloc (.cells cur ty)) (upd ι b (some w.heap.size))).ι b = some w.heap.size := upd_same _ _ _
      rw [hi]
      refine ⟨h.gr.size, cur, ty, heap_alloc_new w _, fun k c hk => ?_, hsh⟩
      obtain ⟨y, hy, hr⟩ := hc k c hk
      exact ⟨y, hy, hr.keep hs⟩
    · rw [lk_cons, if_neg (Ne.symm he)] at hb
      obtain ⟨hN, hr⟩ := h.ob b o' hb
      refine ⟨.inl hN, RepO.keep hs (upd_other _ _ _ he) (fun g hg => Below.heap_alloc w _ g (hgl b o' g hb hg)) hr⟩
  · by_cases e1 : b = id <;> by_cases e2 : b' = id
    · exact e1.trans e2.symm
    · subst e1
      rw [upd_same] at g1; cases g1
      rw [upd_other _ _ _ e2] at g2
      rw [lk_cons, if_neg (Ne.symm e2)] at h2
      exact absurd (hgl b' o2 _ h2 g2) (Nat.lt_irrefl _)
    · subst e2
      rw [upd_same] at g2; cases g2
      rw [upd_other _ _ _ e1] at g1
      rw [lk_cons, if_neg (Ne.symm e1)] at h1
      exact absurd (hgl b o1 _ h1 g1) (Nat.lt_irrefl _)
    · rw [upd_other _ _ _ e1] at g1
      rw [upd_other _ _ _ e2] at g2
      rw [lk_cons, if_neg (Ne.symm e1)] at h1
      rw [lk_cons, if_neg (Ne.symm e2)] at h2
      exact h.inj b b' o1 o2 g h1 h2 g1 g2

/-- A new empty row that is nil. -/
theorem Rel.virt (h : Rel S0 w0 N s a w ι) {id nx' : Nat} (hid : ¬ N id) (sz : Nat) (fz : Bool) :
    Rel S0 w0 (With N id) { s with hp := (id, .row sz [] fz) :: s.hp, nx := nx' } a w (upd ι id none) := by
  have hne : ∀ {b}, N b → b ≠ id := fun hb e => hid (e ▸ hb)
  have hlk : ∀ {b}, N b → lk ((id, .row sz [] fz) :: s.hp) b = lk s.hp b := fun hb => by rw [lk_cons, if_neg (Ne.symm (hne hb))]
  have hs : Step (env S0 N s w ι) (env S0 (With N id) { s with hp := (id, .row sz [] fz) :: s.hp, nx := nx' } w (upd ι id none)) := by
    refine ⟨fun blk' hb => ?_, fun ad had => rfl, fun b hb => .inl hb, fun b sz' es fz' hN hb => ?_, fun b cs hN hb => ?_⟩
    · obtain ⟨h1, h2, h3⟩ := hb
      refine ⟨h1, h2, fun b' o' hb' hm => ?_⟩
      replace hb' : lk ((id, _) :: s.hp) b' = some o' := hb'
      show upd ι id _ b' ≠ some blk'
      by_cases he : b' = id
      · subst he; rw [upd_same]; simp
      · rw [upd_other _ _ _ he]
        rw [lk_cons, if_neg (Ne.symm he)] at hb'
        exact h3 b' o' hb' hm
    · have hb' : lk s.hp b = some (.row sz' es fz') := by rw [← hlk hN]; exact hb
      exact ⟨sz', es, fz', hb', .inl ⟨.inr rfl, rfl, upd_other _ _ _ (hne hN), fun g hg cur' ty' hh => ⟨cur', hh, rfl⟩⟩⟩
    · have hb' : lk s.hp b = some (.box cs) := by rw [← hlk hN]; exact hb
      exact ⟨cs, hb', upd_other _ _ _ (hne hN)⟩
  refine h.change hs h.gr (fun b o' hb => ?_) (fun b b' o1 o2 g h1 h2 g1 g2 => ?_)
  · by_cases he : b = id
    · subst he
      rw [lk_cons, if_pos rfl] at hb
      cases hb
      refine ⟨.inr rfl, ?_⟩
      unfold RepO
      have hi : (env S0 (With N b) { s with hp := (b, .row sz [] fz) :: s.hp, nx := nx' } w (upd ι b none)).ι b = none := upd_same _ _ _
      rw [hi]
      exact ⟨_, _, rfl⟩
    · rw [lk_cons, if_neg (Ne.symm he)] at hb
      obtain ⟨hN, hr⟩ := h.ob b o' hb
      exact ⟨.inl hN, RepO.keep hs (upd_other _ _ _ he) (fun g hg => rfl) hr⟩
  · have e1 : b ≠ id := by rintro rfl; rw [upd_same] at g1; cases g1
    have e2 : b' ≠ id := by rintro rfl; rw [upd_same] at g2; cases g2
    rw [upd_other _ _ _ e1] at g1
    rw [upd_other _ _ _ e2] at g2
    rw [lk_cons, if_neg (Ne.symm e1)] at h1
    rw [lk_cons, if_neg (Ne.symm e2)] at h2
    exact h.inj b b' o1 o2 g h1 h2 g1 g2

/-- An object's cells are rewritten in its block. -/
theorem Rel.rewrite (h : Rel S0 w0 N s a w ι) {b g : Nat} {o o' : Ob} (hb : lk s.hp b = some o) (hg : ι b = some g) (hm : o.mut = true) {w' : World} {cur cur' : Array Value} {ty : TypeId}
    (hw : w.heap[g]? = some (.cells cur ty (0, 0))) (hw' : w'.heap[g]? = some (.cells cur' ty (0, 0))) (hsz : cur'.size = cur.size) (hoth : ∀ k, k ≠ g → w'.heap[k]? = w.heap[k]?) (hsize : w'.heap.size = w.heap.size)
    (hgr : Gr w0.w w') (hm' : o'.mut = true)
    (hc : ∀ (k : Nat) (c : AC), o'.cells[k]? = some c → ∃ y, cur'[k]? = some y ∧ RepC (env S0 N s w ι) y c)
    (hsh : match o, o' with | .row sz es _, .row sz' es' _ => sz' = sz ∧ es'.length = es.length ∧ ∀ e ∈ es', e.length = sz | .box cs, .box cs' => cs'.length = cs.length | _, _ => False) :
    Rel S0 w0 N { s with hp := (b, o') :: s.hp } a w' ι := by
  have hcell : ∀ ad : Addr, ad.block ≠ g → w'.cell? ad = w.cell? ad := fun ad hne => World.cell?_of_block (hoth _ hne)
  have hs : Step (env S0 N s w ι) (env S0 N { s with hp := (b, o') :: s.hp } w' ι) := by
    refine ⟨fun k hk => ?_, fun ad had => hcell ad (fun e => had.2.2 b o hb hm (e ▸ hg)), fun _ h => h, fun b1 sz es fz hN hb1 => ?_, fun b1 cs hN hb1 => ?_⟩
    · obtain ⟨h1, h2, h3⟩ := hk
      refine ⟨h1, by show k < w'.heap.size; rw [hsize]; exact h2, fun b' o1 hb' hm1 => ?_⟩
      replace hb' : lk ((b, o') :: s.hp) b' = some o1 := hb'
      by_cases he : b = b'
      · subst he; exact h3 b o hb hm
      · rw [lk_cons, if_neg he] at hb'
        exact h3 b' o1 hb' hm1
    · replace hb1 : lk ((b, o') :: s.hp) b1 = some (.row sz es fz) := hb1
      by_cases he : b = b1
      · subst he
        rw [lk_cons, if_pos rfl] at hb1
        cases hb1
        cases o with
        | box cs => exact hsh.elim
        | row sz0 es0 fz0 =>
          obtain ⟨e1, e2, _⟩ := hsh
          refine ⟨sz0, es0, fz0, hb, .inl ⟨.inr e1.symm, e2.symm, rfl, fun g1 hg1 cur1 ty1 hh => ?_⟩⟩
          obtain rfl : g = g1 := Option.some.inj (hg.symm.trans hg1)
          obtain ⟨rfl, rfl⟩ : cur = cur1 ∧ ty = ty1 := by have := hw.symm.trans hh; simpa using this
          exact ⟨cur', hw', hsz⟩
      · rw [lk_cons, if_neg he] at hb1
        refine ⟨sz, es, fz, hb1, .inl ⟨.inr rfl, rfl, rfl, fun g1 hg1 cur1 ty1 hh => ⟨cur1, ?_, rfl⟩⟩⟩
        have hne : g1 ≠ g := fun e => he (h.inj b b1 _ _ g hb hb1 hg (e ▸ hg1))
        exact (hoth g1 hne).trans hh
    · replace hb1 : lk ((b, o') :: s.hp) b1 = some (.box cs) := hb1
      by_cases he : b = b1
      · subst he
        rw [lk_cons, if_pos rfl] at hb1
        cases hb1
        cases o with
        | box cs0 => exact ⟨cs0, hb, rfl⟩
        | row sz0 es0 fz0 => exact hsh.elim
      · rw [lk_cons, if_neg he] at hb1
        exact ⟨cs, hb1, rfl⟩
  refine h.change (nx' := s.nx) hs hgr (fun b1 o1 hb1 => ?_) (fun b1 b2 o1 o2 g1 h1 h2 e1 e2 => ?_)
  · by_cases he : b = b1
    · subst he
      rw [lk_cons, if_pos rfl] at hb1
      cases hb1
      refine ⟨(h.ob b o hb).1, ?_⟩
      obtain ⟨hge, cur0, ty0, hh0, _, hshape⟩ := h.block hb hg
      rw [hw] at hh0; cases hh0
      unfold RepO
      have hi : (env S0 N { s with hp := (b, o') :: s.hp, nx := s.nx } w' ι).ι b = some g := hg
      rw [hi]
      refine ⟨hge, cur', ty, hw', fun k c hk => ?_, ?_⟩
      · obtain ⟨y, hy, hr⟩ := hc k c hk
        exact ⟨y, hy, hr.keep hs⟩
      · cases o <;> cases o' <;> simp only [Ob.shape] at hsh hshape ⊢
        · rw [hsz, hshape, hsh]
        · obtain ⟨e1, _, e3⟩ := hsh; rw [e1]; exact ⟨hshape.1, e3⟩
    · rw [lk_cons, if_neg he] at hb1
      obtain ⟨hN, hr⟩ := h.ob b1 o1 hb1
      refine ⟨hN, RepO.keep hs rfl (fun g1 hg1 => hoth g1 (fun e => he (h.inj b b1 _ _ g hb hb1 hg (e ▸ hg1)))) hr⟩
  · have pick : ∀ {x o1}, lk ((b, o') :: s.hp) x = some o1 → ∃ o2, lk s.hp x = some o2 := fun {x o1} hx => by
      by_cases he : b = x
      · subst he; exact ⟨o, hb⟩
      · rw [lk_cons, if_neg he] at hx; exact ⟨o1, hx⟩
    obtain ⟨_, k1⟩ := pick h1
    obtain ⟨_, k2⟩ := pick h2
    exact h.inj b1 b2 _ _ g1 k1 k2 e1 e2
end
end
end Go.Proofs.Ytnmpdpijcehofaa.Eng
