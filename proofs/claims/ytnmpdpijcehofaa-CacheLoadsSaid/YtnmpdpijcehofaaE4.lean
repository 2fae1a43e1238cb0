/-
  Values seen as data: a part of the engine, of no one program. No condition.
-/
import Derived.Test.YtnmpdpijcehofaaE3
namespace Go.Proofs.Ytnmpdpijcehofaa.Eng
set_option linter.all false
noncomputable section
open Go.RowKit

section
variable {S0 : Nat → Prop} {w0 : Base} {N : Nat → Prop} {s : St} {a : Act} {w : World} {ι : Nat → Option Nat}

/-- A row grows, in its block or in a new one. -/
theorem Rel.turn (h : Rel S0 w0 N s a w ι) {b g' sz sz' : Nat} {es es' : List (List D)} (hb : lk s.hp b = some (.row sz es false)) (hlt : es.length < es'.length) {w' : World} {cur' : Array Value} {ty : TypeId}
    (hg' : ι b = some g' ∨ w.heap.size ≤ g') (hw' : w'.heap[g']? = some (.cells cur' ty (0, 0))) (hoth : ∀ k, k < w.heap.size → k ≠ g' → w'.heap[k]? = w.heap[k]?) (hsize : w.heap.size ≤ w'.heap.size) (hgr : Gr w0.w w')
    (hsh : 0 < sz' ∧ ∀ e ∈ es', e.length = sz') (hc : ∀ (k : Nat) (c : D), es'.flatten[k]? = some c → ∃ y, cur'[k]? = some y ∧ Shows (Tr S0 w ι (lk s.hp)) w y c) :
    Rel S0 w0 N { s with hp := (b, .row sz' es' false) :: s.hp } a w' (upd ι b (some g')) := by
  have hNb := (h.ob b _ hb).1
  have hgl : ∀ b o' g, lk s.hp b = some o' → ι b = some g → g < w.heap.size := fun b o' g hb hg => by
    obtain ⟨_, cur, ty, hh, _⟩ := h.block hb hg
    exact heap_lt hh
  have hgne : ∀ b1 o1 g1, b1 ≠ b → lk s.hp b1 = some o1 → ι b1 = some g1 → g1 ≠ g' := fun b1 o1 g1 hne h1 hg1 e => by
    subst e
    rcases hg' with hg' | hg'
    · exact hne (h.inj b1 b _ _ g1 h1 hb hg1 hg')
    · exact absurd (hgl b1 o1 g1 h1 hg1) (by omega)
  have hTne : ∀ k, Tr S0 w ι (lk s.hp) k → k ≠ g' := fun k hk e => by
    subst e
    rcases hg' with hg' | hg'
    · exact hk.2.2 b _ hb rfl hg'
    · exact absurd hk.2.1 (by omega)
  have hs : Step (env S0 N s w ι) (env S0 N { s with hp := (b, .row sz' es' false) :: s.hp } w' (upd ι b (some g'))) := by
    refine ⟨fun k hk => ?_, fun ad had => World.cell?_of_block (hoth _ had.2.1 (hTne _ had)), fun _ h => h, fun b1 sz1 es1 fz1 hN hb1 => ?_, fun b1 cs hN hb1 => ?_⟩
    · obtain ⟨h1, h2, h3⟩ := id hk
      refine ⟨h1, Nat.lt_of_lt_of_le h2 hsize, fun b' o1 hb' hm1 => ?_⟩
      replace hb' : lk ((b, _) :: s.hp) b' = some o1 := hb'
      show upd ι b (some g') b' ≠ some k
      by_cases he : b = b'
      · subst he; rw [upd_same]; intro e; cases e; exact hTne _ hk rfl
      · rw [lk_cons, if_neg he] at hb'
        rw [upd_other _ _ _ (Ne.symm he)]
        exact h3 b' o1 hb' hm1
    · replace hb1 : lk ((b, _) :: s.hp) b1 = some (.row sz1 es1 fz1) := hb1
      by_cases he : b = b1
      · subst he
        rw [lk_cons, if_pos rfl] at hb1
        cases hb1
        exact ⟨sz, es, false, hb, .inr hlt⟩
      · rw [lk_cons, if_neg he] at hb1
        refine ⟨sz1, es1, fz1, hb1, .inl ⟨.inr rfl, rfl, upd_other _ _ _ (Ne.symm he), fun g1 hg1 cur1 ty1 hh => ⟨cur1, ?_, rfl⟩⟩⟩
        exact (hoth g1 (heap_lt hh) (hgne b1 _ g1 (Ne.symm he) hb1 hg1)).trans hh
    · replace hb1 : lk ((b, _) :: s.hp) b1 = some (.box cs) := hb1
      by_cases he : b = b1
      · subst he
        rw [lk_cons, if_pos rfl] at hb1
        cases hb1
      · rw [lk_cons, if_neg he] at hb1
        exact ⟨cs, hb1, upd_other _ _ _ (Ne.symm he)⟩
  have hB : w0.w.heap.size ≤ g' := by
    rcases hg' with hg' | hg'
    · exact (h.block hb hg').1
    · exact Nat.le_trans h.gr.size hg'
  refine h.change (nx' := s.nx) hs hgr (fun b1 o1 hb1 => ?_) (fun b1 b2 o1 o2 g1 h1 h2 e1 e2 => ?_)
  · by_cases he : b = b1
    · subst he
      rw [lk_cons, if_pos rfl] at hb1
      cases hb1
      refine ⟨hNb, ?_⟩
      unfold RepO
      have hi : (env S0 N { s with hp := (b, .row sz' es' false) :: s.hp, nx := s.nx } w' (upd ι b (some g'))).ι b = some g' := upd_same _ _ _
      rw [hi]
      refine ⟨hB, cur', ty, hw', fun k c hk => ?_, hsh⟩
      simp only [Ob.cells, List.getElem?_map, Option.map_eq_some_iff] at hk
      obtain ⟨d, hd, rfl⟩ := hk
      obtain ⟨y, hy, hr⟩ := hc k d hd
      exact ⟨y, hy, Shows.keep hs.S hs.c hr⟩
    · rw [lk_cons, if_neg he] at hb1
      obtain ⟨hN, hr⟩ := h.ob b1 o1 hb1
      exact ⟨hN, RepO.keep hs (upd_other _ _ _ (Ne.symm he)) (fun g1 hg1 => hoth g1 (hgl b1 o1 g1 hb1 hg1) (hgne b1 o1 g1 (Ne.symm he) hb1 hg1)) hr⟩
  · by_cases k1 : b = b1 <;> by_cases k2 : b = b2
    · exact k1.symm.trans k2
    · subst k1
      rw [upd_same] at e1; cases e1
      rw [upd_other _ _ _ (Ne.symm k2)] at e2
      rw [lk_cons, if_neg k2] at h2
      exact absurd rfl (hgne b2 o2 g' (Ne.symm k2) h2 e2)
    · subst k2
      rw [upd_same] at e2; cases e2
      rw [upd_other _ _ _ (Ne.symm k1)] at e1
      rw [lk_cons, if_neg k1] at h1
      exact absurd rfl (hgne b1 o1 g' (Ne.symm k1) h1 e1)
    · rw [lk_cons, if_neg k1] at h1
      rw [lk_cons, if_neg k2] at h2
      rw [upd_other _ _ _ (Ne.symm k1)] at e1
      rw [upd_other _ _ _ (Ne.symm k2)] at e2
      exact h.inj b1 b2 o1 o2 g1 h1 h2 e1 e2
end

/-! ### append, as the model runs it -/
/-- Where what is appended stands. -/
def Source (w : World) (x : Value) (m size : Nat) (news : List Value) : Prop :=
  news.length = m * size ∧ ((x = nilS ∧ m = 0) ∨ ∃ ad c, x = .slice (some ad) m c ∧ ∀ j u, news[j]? = some u → w.cell? (ad.add j) = some u)
theorem Source.nil {w : World} {x : Value} {m size : Nat} {news : List Value} (h : Source w x m size news) (hm : m = 0) : news = [] := by
  have := h.1
  subst hm
  exact List.eq_nil_of_length_eq_zero (by simpa using this)
theorem run_app {P : Program} (w : World) (t ty e : TypeId) (i : TypeInfo) (z : Value) (ht : P.underlying t = some (.slice e)) (hi : P.info? e = some i) (hz : i.zero = some z) (hzs : z.cells.size = i.size)
    (v : Value) (n : Nat) (olds : List Value) (x : Value) (m : Nat) (news : List Value) (hx : Source w x m i.size news) (h1 : ∀ u ∈ news, u.oneCell' = true)
    (h63 : n + m ≤ maxLen) (hbytes : (n + m) * i.bytes ≤ 140737488355328)
    (hv : (v = nilS ∧ n = 0 ∧ olds = []) ∨ ∃ g cap cur bt, v = .slice (some ⟨g, 0, none⟩) n cap ∧ w.heap[g]? = some (.cells cur bt (0, 0)) ∧ n ≤ cap ∧ cap ≤ maxLen ∧ cur.size = cap * i.size ∧ olds = cur.toList.take (n * i.size)) :
    ∃ v' w', (Builtin.append_ #[t, t] ty #[v, x]).run P w = .ok v' w' ∧
      ((m = 0 ∧ v' = v ∧ w' = w) ∨
       (∃ g cap cur bt, 0 < m ∧ v = .slice (some ⟨g, 0, none⟩) n cap ∧ w.heap[g]? = some (.cells cur bt (0, 0)) ∧ cap ≤ maxLen ∧ cur.size = cap * i.size ∧ n + m ≤ cap ∧ v' = .slice (some ⟨g, 0, none⟩) (n + m) cap ∧
          w' = w.setRow g (cur.toList.take (n * i.size) ++ news ++ cur.toList.drop (n * i.size + news.length)).toArray) ∨
       (∃ cap rest, 0 < m ∧ n + m ≤ cap ∧ cap ≤ maxLen ∧ v' = .slice (some ⟨w.heap.size, 0, none⟩) (n + m) cap ∧ w' = w.drew.alloc (.cells (olds ++ news ++ rest).toArray e) ∧ (olds ++ news ++ rest).length = cap * i.size)) := by
  have hsmall : n + m ≤ 9223372036854775807 := by simp only [maxLen] at h63; omega
  rcases hv with ⟨rfl, rfl, rfl⟩ | ⟨g, cap, cur, bt, rfl, hg, hnc, hcm, hcs, rfl⟩
  · rcases hx with ⟨hl, ⟨rfl, rfl⟩ | ⟨ad, c, rfl, hnews⟩⟩
    · refine ⟨nilS, w, ?_, .inl ⟨rfl, rfl, rfl⟩⟩
      simp [nilS, Builtin.append_, run_underlying ht, sizeOf, typeInfo, hi, Builtin.lenOf, Builtin.firstCells, loadCells, loadCellsFrom]
    · by_cases hm : m = 0
      · subst hm
        refine ⟨nilS, w, ?_, .inl ⟨rfl, rfl, rfl⟩⟩
        simp [nilS, Builtin.append_, run_underlying ht, sizeOf, typeInfo, hi, Builtin.lenOf, Builtin.firstCells, loadCells, loadCellsFrom]
      · have hr := run_append_nil (P := P) w t ty e i z ht hi hz ad m c news hl hnews (by omega) (by omega) (by have hb := hbytes; simp only [Nat.zero_add] at hb; omega)
        have hge := grownCap_ge w m 0 e
        have hcm : grownCap w m 0 e ≤ maxLen := grownCap_le_maxLen w m 0 e (by omega)
        refine ⟨_, _, hr, .inr (.inr ⟨grownCap w m 0 e, (Builtin.zeroCells z.cells (grownCap w m 0 e - m)).toList, by omega, by omega, hcm, by simp, ?_, ?_⟩)⟩
        · congr 2
          apply Array.ext'
          simp
        · simp only [List.nil_append, List.length_append, Array.length_toList, size_zeroCells, hzs, hl, ← Nat.add_mul]
          congr 1
          omega
  · by_cases hm : m = 0
    · subst hm
      obtain rfl : news = [] := hx.nil rfl
      refine ⟨_, w, ?_, .inl ⟨rfl, rfl, rfl⟩⟩
      rcases hx with ⟨_, ⟨rfl, _⟩ | ⟨ad, c, rfl, _⟩⟩
      · simp [nilS, Builtin.append_, run_underlying ht, sizeOf, typeInfo, hi, Builtin.lenOf, Builtin.firstCells, hnc, storeCells]
      · simp [Builtin.append_, run_underlying ht, sizeOf, typeInfo, hi, Builtin.lenOf, Builtin.firstCells, hnc, storeCells, loadCells, loadCellsFrom]
    · obtain ⟨hl, ⟨_, rfl⟩ | ⟨ad, c, rfl, hnews⟩⟩ := hx
      · exact absurd rfl hm
      · by_cases hroom : n + m ≤ cap
        · have hfit : n * i.size + news.length ≤ cur.size := by rw [hl, hcs, ← Nat.add_mul]; exact Nat.mul_le_mul_right _ hroom
          have hf := run_firstCells_some (P := P) w i.size m ad m c news hl hnews
          have hst := run_storeCells_at P g (n * i.size) bt news 0 cur w hg (by simpa using hfit) h1
          simp only [Nat.add_zero] at hst
          refine ⟨_, _, ?_, .inr (.inl ⟨g, cap, cur, bt, by omega, rfl, hg, hcm, hcs, hroom, rfl, rfl⟩)⟩
          simp [Builtin.append_, run_underlying ht, sizeOf, typeInfo, hi, Builtin.lenOf, hroom, hf, Addr.add_lit, hst]
        · have holds : ∀ j u, (cur.toList.take (n * i.size))[j]? = some u → w.cell? ((⟨g, 0, none⟩ : Addr).add j) = some u := fun j u hu => by
            rw [Addr.add_lit, Nat.zero_add, cell_of_row w g j cur bt (0, 0) hg]
            rw [List.getElem?_take] at hu
            split at hu
            · simpa using hu
            · cases hu
          have hlo : (cur.toList.take (n * i.size)).length = n * i.size := by
            rw [List.length_take, Array.length_toList, hcs]
            exact Nat.min_eq_left (Nat.mul_le_mul_right _ hnc)
          have hr := run_append_grow (P := P) w t ty e i z ht hi hz ⟨g, 0, none⟩ n cap _ hlo holds ad m c news hl hnews (by omega) (by omega) (growslice_fits (by omega) hbytes)
          have hge := grownCap_ge w (n + m) cap e
          have hcm' : grownCap w (n + m) cap e ≤ maxLen := grownCap_le_maxLen w (n + m) cap e h63
          refine ⟨_, _, hr, .inr (.inr ⟨grownCap w (n + m) cap e, (Builtin.zeroCells z.cells (grownCap w (n + m) cap e - (n + m))).toList, by omega, hge, hcm', rfl, ?_, ?_⟩)⟩
          · congr 2
            apply Array.ext'
            simp
          · simp only [List.length_append, Array.length_toList, size_zeroCells, hzs, hl, hlo, ← Nat.add_mul]
            congr 1
            omega
end
end Go.Proofs.Ytnmpdpijcehofaa.Eng
