/-
  Values seen as data: a part of the engine, of no one program. No condition.
-/
import Derived.Test.YtnmpdpijcehofaaE16
namespace Go.Proofs.Ytnmpdpijcehofaa.Eng
set_option linter.all false
noncomputable section
open Go.RowKit

section
variable {P : Program} {U : Nat → Prop} {w0 : Base} {N : Nat → Prop} {s : St} {a : Act} {w : World} {ι : Nat → Option Nat} {seed : Nat} {o : Oper}

theorem Rel.old (h : Rel U w0 N s a w ι) {b g : Nat} {o : Ob} (hb : lk s.hp b = some o) (hg : ι b = some g) : g < w.heap.size := by
  obtain ⟨_, cur, ty, hh, _⟩ := h.block hb hg
  exact heap_lt hh
/-- The world goes on; what may be read is what could be read, and whatever is new. -/
theorem Rel.world {U' : Nat → Prop} (h : Rel U w0 N s a w ι) {w' : World} (hg : Gr w w') (hU : ∀ b, b < w.heap.size → U b → U' b) : Rel U' w0 N s a w' ι := by
  have hs : Step (env U N s w ι) (env U' N s w' ι) := by
    refine ⟨fun b hb => ⟨hU b hb.2.1 hb.1, Nat.lt_of_lt_of_le hb.2.1 hg.size, hb.2.2⟩, fun ad had => hg.cell had.2.1, fun _ h => h, fun b sz es fz hN hb => ⟨sz, es, fz, hb, .inl ⟨.inr rfl, rfl, rfl, fun g hgi cur ty hh => ⟨cur, ?_, rfl⟩⟩⟩, fun b cs hN hb => ⟨cs, hb, rfl⟩⟩
    exact (hg.below.block g (heap_lt hh)).trans hh
  refine ⟨fun t x ht => ?_, fun b o hb => ?_, h.inj, h.gr.trans hg, h.nt, h.df, h.st.trans hs⟩
  · obtain ⟨v, h1, h2⟩ := h.fr t x ht
    exact ⟨v, h1, h2.keep hs⟩
  · obtain ⟨h1, h2⟩ := h.ob b o hb
    exact ⟨h1, RepO.keep hs rfl (fun g hgi => hg.below.block g (h.old hb hgi)) h2⟩
/-- More may be read. -/
theorem Rel.univ {U' : Nat → Prop} (h : Rel U w0 N s a w ι) (hU : ∀ b, U b → U' b) : Rel U' w0 N s a w ι := h.world (Gr.refl w) fun b _ => hU b

/-- A row that a call has handed back becomes one of our own. -/
theorem Rel.adopt (h : Rel U w0 N s a w ι) {id g nx' : Nat} (hid : ¬ N id) (hU : ¬ U g) (hB : w0.w.heap.size ≤ g) (hg : ∀ b o, lk s.hp b = some o → ι b ≠ some g) {sz : Nat} {es : List (List D)} {cur : Array Value} {ty : TypeId}
    (hh : w.heap[g]? = some (.cells cur ty (0, 0))) (hw : 0 < sz ∧ ∀ e ∈ es, e.length = sz) (hc : ∀ (k : Nat) (c : D), es.flatten[k]? = some c → ∃ y, cur[k]? = some y ∧ Shows (Tr U w ι (lk s.hp)) w y c) :
    Rel U w0 (With N id) { s with hp := (id, .row sz es false) :: s.hp, nx := nx' } a w (upd ι id (some g)) ∧
    Step (env U N s w ι) (env U (With N id) { s with hp := (id, .row sz es false) :: s.hp, nx := nx' } w (upd ι id (some g))) := by
  have hne : ∀ {b}, N b → b ≠ id := fun hb e => hid (e ▸ hb)
  have hlk : ∀ {b}, N b → lk ((id, .row sz es false) :: s.hp) b = lk s.hp b := fun hb => by rw [lk_cons, if_neg (Ne.symm (hne hb))]
  have hs : Step (env U N s w ι) (env U (With N id) { s with hp := (id, .row sz es false) :: s.hp, nx := nx' } w (upd ι id (some g))) := by
    refine ⟨fun blk hb => ?_, fun ad had => rfl, fun b hb => .inl hb, fun b sz' es' fz' hN hb => ?_, fun b cs hN hb => ?_⟩
    · obtain ⟨h1, h2, h3⟩ := hb
      refine ⟨h1, h2, fun b' o' hb' hm => ?_⟩
      replace hb' : lk ((id, _) :: s.hp) b' = some o' := hb'
      show upd ι id (some g) b' ≠ some blk
      by_cases he : b' = id
      · subst he; rw [upd_same]; intro e; cases e; exact hU h1
      · rw [upd_other _ _ _ he]
        rw [lk_cons, if_neg (Ne.symm he)] at hb'
        exact h3 b' o' hb' hm
    · have hb' : lk s.hp b = some (.row sz' es' fz') := by rw [← hlk hN]; exact hb
      exact ⟨sz', es', fz', hb', .inl ⟨.inr rfl, rfl, upd_other _ _ _ (hne hN), fun g1 _ cur' ty' hh => ⟨cur', hh, rfl⟩⟩⟩
    · have hb' : lk s.hp b = some (.box cs) := by rw [← hlk hN]; exact hb
      exact ⟨cs, hb', upd_other _ _ _ (hne hN)⟩
  refine ⟨h.change hs h.gr (fun b o' hb => ?_) (fun b b' o1 o2 g' h1 h2 g1 g2 => ?_), hs⟩
  · by_cases he : b = id
    · subst he
      rw [lk_cons, if_pos rfl] at hb
      cases hb
      refine ⟨.inr rfl, ?_⟩
      unfold RepO
      have hi : (env U (With N b) { s with hp := (b, .row sz es false) :: s.hp, nx := nx' } w (upd ι b (some g))).ι b = some g := upd_same _ _ _
      rw [hi]
      refine ⟨hB, cur, ty, hh, fun k c hk => ?_, hw⟩
      have hk' : (es.flatten.map AC.d)[k]? = some c := hk
      rw [List.getElem?_map] at hk'
      obtain ⟨d, hd, rfl⟩ := Option.map_eq_some_iff.1 hk'
      obtain ⟨y, hy, hr⟩ := hc k d hd
      exact ⟨y, hy, Shows.keep hs.S hs.c hr⟩
    · rw [lk_cons, if_neg (Ne.symm he)] at hb
      obtain ⟨hN, hr⟩ := h.ob b o' hb
      exact ⟨.inl hN, RepO.keep hs (upd_other _ _ _ he) (fun _ _ => rfl) hr⟩
  · by_cases e1 : b = id <;> by_cases e2 : b' = id
    · exact e1.trans e2.symm
    · subst e1
      rw [upd_same] at g1; cases g1
      rw [upd_other _ _ _ e2] at g2
      rw [lk_cons, if_neg (Ne.symm e2)] at h2
      exact absurd g2 (hg b' o2 h2)
    · subst e2
      rw [upd_same] at g2; cases g2
      rw [upd_other _ _ _ e1] at g1
      rw [lk_cons, if_neg (Ne.symm e1)] at h1
      exact absurd g1 (hg b o1 h1)
    · rw [upd_other _ _ _ e1] at g1
      rw [upd_other _ _ _ e2] at g2
      rw [lk_cons, if_neg (Ne.symm e1)] at h1
      rw [lk_cons, if_neg (Ne.symm e2)] at h2
      exact h.inj b b' o1 o2 g' h1 h2 g1 g2

/-- What holds while the parts of a result are taken over one by one. -/
structure Take (U : Nat → Prop) (w0 : Base) (N : Nat → Prop) (T : Nat → Prop) (F : List Nat) (s : St) (a : Act) (w : World) (ι : Nat → Option Nat) : Prop where
  rel : Rel U w0 N s a w ι
  tu : ∀ b, T b → U b ∧ b < w.heap.size
  tm : ∀ b o g, lk s.hp b = some o → o.mut = true → ι b = some g → ¬ T g
  fu : ∀ g ∈ F, ¬ U g ∧ w0.w.heap.size ≤ g ∧ ¬ T g
  fi : ∀ b o g, lk s.hp b = some o → ι b = some g → g ∉ F
theorem Take.tr {T : Nat → Prop} {F : List Nat} (h : Take U w0 N T F s a w ι) : ∀ b, T b → Tr U w ι (lk s.hp) b :=
  fun b hb => ⟨(h.tu b hb).1, (h.tu b hb).2, fun b' o' hb' hm hi => h.tm b' o' b hb' hm hi hb⟩
def App (ups : List (Nat × Ob)) (nx : Nat) (s : St) : St := { s with hp := ups ++ s.hp, nx := nx }
def Span (N : Nat → Prop) (seed nxt b : Nat) : Prop := N b ∨ (seed ≤ b ∧ b < nxt)
theorem unC_le (seed : Nat) (c : RC) : seed ≤ (unC seed c).2.2 := by cases c <;> simp [unC]
theorem Take.c {T : Nat → Prop} {F G : List Nat} (h : Take U w0 N T (F ++ G) s a w ι) (hnd : (F ++ G).Nodup) {lim : Nat} (hid : ∀ k, seed ≤ k → k < lim → ¬ N k) {x : Value} {c : RC} (hl : (unC seed c).2.2 ≤ lim) (hx : ShowsC T w x c F) :
    ∃ ι', Take U w0 (Span N seed (unC seed c).2.2) T G (App (unC seed c).2.1 (unC seed c).2.2 s) a w ι' ∧ RepC (env U (Span N seed (unC seed c).2.2) (App (unC seed c).2.1 (unC seed c).2.2 s) w ι') x (unC seed c).1 ∧
      Step (env U N s w ι) (env U (Span N seed (unC seed c).2.2) (App (unC seed c).2.1 (unC seed c).2.2 s) w ι') := by
  cases hx with
  | @c _ d hd =>
    have hs : Step (env U N s w ι) (env U (Span N seed seed) (App [] seed s) w ι) := Step.same rfl rfl rfl rfl fun _ h => .inl h
    refine ⟨ι, ⟨h.rel.weakN (nx' := seed) fun _ h => .inl h, h.tu, h.tm, fun g hg => h.fu g (by simp [hg]), fun b o g hb hi hm => h.fi b o g hb hi (by simp [hm])⟩, ?_, hs⟩
    exact RepC.keep (E := env U N s w ι) hs (Shows.keep h.tr (fun _ _ => rfl) hd : RepC (env U N s w ι) x (.d d))
  | @nil sz =>
    have hidn : ¬ N seed := hid seed (Nat.le_refl _) (by have h0 : seed + 1 ≤ lim := hl; omega)
    have hne : ∀ {b}, N b → b ≠ seed := fun hb e => hidn (e ▸ hb)
    have h1 := h.rel.virt (id := seed) (nx' := seed + 1) hidn sz false
    have hN : ∀ b, With N seed b → Span N seed (seed + 1) b := fun b hb => hb.imp id fun e => by omega
    have h2 := h1.weakN (nx' := seed + 1) hN
    have hs : Step (env U N s w ι) (env U (Span N seed (seed + 1)) (App [(seed, .row sz [] false)] (seed + 1) s) w (upd ι seed none)) := by
      refine ⟨fun blk hb => ?_, fun _ _ => rfl, fun b hb => .inl hb, fun b sz' es fz' hN' hb => ?_, fun b cs hN' hb => ?_⟩
      · obtain ⟨k1, k2, k3⟩ := hb
        refine ⟨k1, k2, fun b' o' hb' hm => ?_⟩
        replace hb' : lk ((seed, _) :: s.hp) b' = some o' := hb'
        show upd ι seed none b' ≠ some blk
        by_cases he : b' = seed
        · subst he; rw [upd_same]; simp
        · rw [upd_other _ _ _ he]
          rw [lk_cons, if_neg (Ne.symm he)] at hb'
          exact k3 b' o' hb' hm
      · replace hb : lk ((seed, _) :: s.hp) b = some (.row sz' es fz') := hb
        rw [lk_cons, if_neg (Ne.symm (hne hN'))] at hb
        exact ⟨sz', es, fz', hb, .inl ⟨.inr rfl, rfl, upd_other _ _ _ (hne hN'), fun g _ cur ty hh => ⟨cur, hh, rfl⟩⟩⟩
      · replace hb : lk ((seed, _) :: s.hp) b = some (.box cs) := hb
        rw [lk_cons, if_neg (Ne.symm (hne hN'))] at hb
        exact ⟨cs, hb, upd_other _ _ _ (hne hN')⟩
    have key : ∀ {b o' g}, lk ((seed, Ob.row sz [] false) :: s.hp) b = some o' → upd ι seed none b = some g → lk s.hp b = some o' ∧ ι b = some g := fun {b o' g} hb hi => by
      have hbs : b ≠ seed := by rintro rfl; rw [upd_same] at hi; cases hi
      rw [lk_cons, if_neg (Ne.symm hbs)] at hb
      rw [upd_other _ _ _ hbs] at hi
      exact ⟨hb, hi⟩
    refine ⟨_, ⟨h2, h.tu, fun b o' g hb hm hi => ?_, fun g hg => h.fu g (by simp [hg]), fun b o' g hb hi hm => ?_⟩, ?_, hs⟩
    · obtain ⟨q1, q2⟩ := key hb hi; exact h.tm b o' g q1 hm q2
    · obtain ⟨q1, q2⟩ := key hb hi; exact h.fi b o' g q1 q2 (by simp [hm])
    · refine nil_rep (.inr ⟨Nat.le_refl _, by show seed < seed + 1; omega⟩) (upd_same _ _ _) (sz := sz) (fz := false) ?_
      simp [env, lk_nil, lk_cons, unC, App]
  | @o g cap sz es n hn hr =>
    subst hn
    obtain ⟨hsz, hle, hm, hw, cur, ty, hh, hcs, hc⟩ := hr
    have hidn : ¬ N seed := hid seed (Nat.le_refl _) (by have h0 : seed + 1 ≤ lim := hl; omega)
    obtain ⟨f1, f2, f3⟩ := h.fu g (by simp)
    obtain ⟨h1, hs1⟩ := h.rel.adopt (id := seed) (nx' := seed + 1) hidn f1 f2 (fun b o' hb hi => h.fi b o' g hb hi (by simp)) hh ⟨hsz, hw⟩ (fun k c hk => by
      obtain ⟨y, hy, hr⟩ := hc k c hk
      exact ⟨y, hy, Shows.keep h.tr (fun _ _ => rfl) hr⟩)
    have hN : ∀ b, With N seed b → Span N seed (seed + 1) b := fun b hb => hb.imp id fun e => by omega
    have h2 := h1.weakN (nx' := seed + 1) hN
    have hgG : g ∉ G := fun hg => by
      have : (g :: G).Nodup := hnd
      exact (List.nodup_cons.1 this).1 hg
    have key : ∀ {b o' g'}, lk ((seed, Ob.row sz es false) :: s.hp) b = some o' → upd ι seed (some g) b = some g' → (g' = g) ∨ (lk s.hp b = some o' ∧ ι b = some g') := fun {b o' g'} hb hi => by
      by_cases hbs : b = seed
      · subst hbs; rw [upd_same] at hi; cases hi; exact .inl rfl
      · rw [lk_cons, if_neg (Ne.symm hbs)] at hb
        rw [upd_other _ _ _ hbs] at hi
        exact .inr ⟨hb, hi⟩
    refine ⟨_, ⟨h2, h.tu, fun b o' g' hb hm' hi => ?_, fun g' hg' => h.fu g' (by simp [hg']), fun b o' g' hb hi hm' => ?_⟩, ?_, ?_⟩
    · rcases key hb hi with rfl | ⟨q1, q2⟩
      · exact f3
      · exact h.tm b o' g' q1 hm' q2
    · rcases key hb hi with rfl | ⟨q1, q2⟩
      · exact hgG hm'
      · exact h.fi b o' g' q1 q2 (by simp [hm'])
    · refine own_rep (sz := sz) (es := es) (fz := false) (.inr ⟨Nat.le_refl _, by show seed < seed + 1; omega⟩) (upd_same _ _ _) (by simp [env, lk_nil, lk_cons, unC, App]) rfl hle hm hh hcs
    · have hs2 : Step (env U (With N seed) { s with hp := (seed, .row sz es false) :: s.hp, nx := seed + 1 } w (upd ι seed (some g))) (env U (Span N seed (seed + 1)) (App [(seed, .row sz es false)] (seed + 1) s) w (upd ι seed (some g))) := Step.same rfl rfl rfl rfl hN
      exact ⟨fun b hb => hs2.S b (hs1.S b hb), fun _ _ => rfl, fun b hb => .inl hb, fun b sz' es' fz' hN' hb => hs1.row b sz' es' fz' hN' hb, fun b cs hN' hb => hs1.box b cs hN' hb⟩
end
end
end Go.Proofs.Ytnmpdpijcehofaa.Eng
