/-
  Values seen as data: a part of the engine, of no one program. No condition.
-/
import Derived.Test.YtnmpdpijcehofaaE12
namespace Go.Proofs.Ytnmpdpijcehofaa.Eng
set_option linter.all false
noncomputable section
open Go.RowKit

section
variable {P : Program} {S0 : Nat → Prop} {w0 : Base} {N : Nat → Prop} {s : St} {a : Act} {w : World} {ι : Nat → Option Nat} {seed : Nat} {o : Oper}

/-- An object laid again as it is. -/
theorem Rel.same (h : Rel S0 w0 N s a w ι) {b : Nat} {ob : Ob} (hb : lk s.hp b = some ob) : Rel S0 w0 N { s with hp := (b, ob) :: s.hp } a w ι := by
  have e : lk ((b, ob) :: s.hp) = lk s.hp := by
    funext k
    rw [lk_cons]
    split
    · rename_i hk; subst hk; exact hb.symm
    · rfl
  have ee : env S0 N { s with hp := (b, ob) :: s.hp } w ι = env S0 N s w ι := by unfold env; rw [e]
  refine ⟨fun t x ht => ?_, fun b' o' hb' => ?_, fun b1 b2 o1 o2 g h1 h2 => ?_, h.gr, h.nt, h.df, by rw [ee]; exact h.st⟩
  · rw [ee]; exact h.fr t x ht
  · rw [ee]; rw [show lk ({ s with hp := (b, ob) :: s.hp } : St).hp = lk s.hp from e] at hb'; exact h.ob b' o' hb'
  · rw [show lk ({ s with hp := (b, ob) :: s.hp } : St).hp = lk s.hp from e] at h1 h2; exact h.inj b1 b2 o1 o2 g h1 h2

/-- An empty row that is nil has any width. -/
theorem Rel.resz (h : Rel S0 w0 N s a w ι) {b sz sz' : Nat} {fz : Bool} (hb : lk s.hp b = some (.row sz [] fz)) (hn : ι b = none) : Rel S0 w0 N { s with hp := (b, .row sz' [] fz) :: s.hp } a w ι ∧
    Step (env S0 N s w ι) (env S0 N { s with hp := (b, .row sz' [] fz) :: s.hp } w ι) := by
  have hs : Step (env S0 N s w ι) (env S0 N { s with hp := (b, .row sz' [] fz) :: s.hp } w ι) := by
    refine ⟨fun k hk => ?_, fun _ _ => rfl, fun _ h => h, fun b1 sz1 es1 fz1 hN hb1 => ?_, fun b1 cs hN hb1 => ?_⟩
    · obtain ⟨h1, h2, h3⟩ := hk
      refine ⟨h1, h2, fun b' o' hb' hm => ?_⟩
      replace hb' : lk ((b, _) :: s.hp) b' = some o' := hb'
      by_cases he : b = b'
      · subst he
        show ι b ≠ some k
        rw [hn]; simp
      · rw [lk_cons, if_neg he] at hb'
        exact h3 b' o' hb' hm
    · replace hb1 : lk ((b, _) :: s.hp) b1 = some (.row sz1 es1 fz1) := hb1
      by_cases he : b = b1
      · subst he
        rw [lk_cons, if_pos rfl] at hb1
        cases hb1
        exact ⟨sz, [], fz, hb, .inl ⟨.inl hn, rfl, rfl, fun g _ cur ty hh => ⟨cur, hh, rfl⟩⟩⟩
      · rw [lk_cons, if_neg he] at hb1
        exact ⟨sz1, es1, fz1, hb1, .inl ⟨.inr rfl, rfl, rfl, fun g _ cur ty hh => ⟨cur, hh, rfl⟩⟩⟩
    · replace hb1 : lk ((b, _) :: s.hp) b1 = some (.box cs) := hb1
      by_cases he : b = b1
      · subst he
        rw [lk_cons, if_pos rfl] at hb1
        cases hb1
      · rw [lk_cons, if_neg he] at hb1
        exact ⟨cs, hb1, rfl⟩
  refine ⟨h.change (nx' := s.nx) hs h.gr (fun b1 o1 hb1 => ?_) (fun b1 b2 o1 o2 g h1 h2 e1 e2 => ?_), hs⟩
  · by_cases he : b = b1
    · subst he
      rw [lk_cons, if_pos rfl] at hb1
      cases hb1
      refine ⟨(h.ob b _ hb).1, ?_⟩
      unfold RepO
      have hi : (env S0 N { s with hp := (b, .row sz' [] fz) :: s.hp, nx := s.nx } w ι).ι b = none := hn
      rw [hi]
      exact ⟨_, _, rfl⟩
    · rw [lk_cons, if_neg he] at hb1
      obtain ⟨hN, hr⟩ := h.ob b1 o1 hb1
      exact ⟨hN, RepO.keep hs rfl (fun _ _ => rfl) hr⟩
  · have pick : ∀ {x o1}, lk ((b, Ob.row sz' [] fz) :: s.hp) x = some o1 → ∃ o2, lk s.hp x = some o2 := fun {x o1} hx => by
      by_cases he : b = x
      · subst he; exact ⟨_, hb⟩
      · rw [lk_cons, if_neg he] at hx; exact ⟨o1, hx⟩
    obtain ⟨_, k1⟩ := pick h1
    obtain ⟨_, k2⟩ := pick h2
    exact h.inj b1 b2 _ _ g k1 k2 e1 e2

def elemsC (hp : List (Nat × Ob)) (c : AC) : Option (Nat × List (List D)) :=
  match dataC hp c with
  | some (.sl sz es) => some (sz, es)
  | some (.v (.slice none 0 0)) => some (0, [])
  | _ => none
theorem Rel.elems (h : Rel S0 w0 N s a w ι) {x : Value} {c : AC} (hx : RepC (env S0 N s w ι) x c) {sz : Nat} {es : List (List D)} (hd : elemsC s.hp c = some (sz, es)) :
    SlOf (Shows (Tr S0 w ι (lk s.hp)) w) w x sz es := by
  unfold elemsC at hd
  split at hd
  · rename_i sz' es' hd'
    simp only [Option.some.injEq, Prod.mk.injEq] at hd
    obtain ⟨rfl, rfl⟩ := hd
    exact h.slOf hx hd'
  · rename_i hd'
    simp only [Option.some.injEq, Prod.mk.injEq] at hd
    obtain ⟨rfl, rfl⟩ := hd
    refine ⟨by simp, .inl ⟨?_, rfl⟩⟩
    cases c with
    | d c =>
      simp only [dataC, Option.some.injEq] at hd'
      subst hd'
      exact plainC_eq hx rfl
    | own b L => simp only [dataC] at hd'; split at hd' <;> (try split at hd') <;> simp at hd'
    | view b lo n L => simp only [dataC] at hd'; split at hd' <;> (try split at hd') <;> simp at hd'
    | _ => simp [dataC] at hd'
  · cases hd
/-- The cells of a slice, as values. -/
theorem slOf_cells {R : Value → D → Prop} {w : World} {x : Value} {sz : Nat} {es : List (List D)} (h : SlOf R w x sz es) :
    ∃ news : List Value, Source w x es.length sz news ∧ All2 R news es.flatten := by
  obtain ⟨hw, ⟨rfl, rfl⟩ | ⟨ad, cap, rfl, hc, hm, hk⟩⟩ := h
  · exact ⟨[], ⟨by simp, .inl ⟨rfl, rfl⟩⟩, .nil⟩
  · refine ⟨(List.range es.flatten.length).map fun k => (w.cell? (ad.add k)).getD undef, ⟨by simp only [List.length_map, List.length_range]; exact flat_len hw, .inr ⟨ad, cap, rfl, fun j u hu => ?_⟩⟩, All2.of_get (by simp) fun k y c hy hc => ?_⟩
    · simp only [List.getElem?_map, Option.map_eq_some_iff] at hu
      obtain ⟨k, hk1, rfl⟩ := hu
      obtain ⟨hlt, hk2⟩ := List.getElem?_eq_some_iff.1 hk1
      simp only [List.getElem_range] at hk2
      rw [List.length_range] at hlt
      subst hk2
      obtain ⟨y, hy, _⟩ := hk j es.flatten[j] (List.getElem?_eq_getElem hlt)
      rw [hy]; rfl
    · obtain ⟨y', hy', hr⟩ := hk k c hc
      have hlt : k < es.flatten.length := (List.getElem?_eq_some_iff.1 hc).1
      simp only [List.getElem?_map, List.getElem?_range hlt, Option.map_some, Option.some.injEq, hy', Option.getD_some] at hy
      subst hy
      exact hr
theorem All2.one {S : Nat → Prop} {w : World} {xs : List Value} {ds : List D} (h : All2 (Shows S w) xs ds) : ∀ v ∈ xs, v.oneCell' = true := by
  induction h with
  | nil => simp
  | cons h _ ih => intro v hv; rcases List.mem_cons.1 hv with rfl | hv; exact h.one; exact ih v hv

def app1 (P : Program) (s : St) (seed : Nat) (t t' : TypeId) (x y : Operand) : Option Eff :=
  match ti P t, evO s x, evO s y with
  | some ⟨.sl e, _, _, _⟩, some (.x (.one c)), some (.x (.one c2)) => match ti P e, elemsC s.hp c2 with
    | some j, some (sz2, es2) =>
      if t = t' ∧ 0 < j.size ∧ (sz2 = j.size ∨ es2.length = 0) then match c with
        | .own b L => match lk s.hp b with
          | some (.row sz es false) => if es.length = L ∧ (sz = j.size ∨ sz = 0) ∧ L + es2.length ≤ maxLen ∧ (L + es2.length) * j.bytes ≤ 140737488355328 then
              some { val := some (one (.own b (L + es2.length))), ups := [(b, .row j.size (es ++ es2) false)] } else none
          | _ => none
        | .d (.v (.slice none 0 0)) => if es2.length ≤ maxLen ∧ es2.length * j.bytes ≤ 140737488355328 then
              some { val := some (one (.own seed es2.length)), ups := [(seed, .row j.size es2 false)], cnt := 1 } else none
        | _ => none
      else none
    | _, _ => none
  | _, _, _ => none
/-- The append itself, onto a row of the call's own. -/
theorem Rel.app (h : Rel S0 w0 N s a w ι) {t ty e : TypeId} {j : TI} (hsl : P.underlying t = some (.slice e)) (hj : ti P e = some j) (hjs : 0 < j.size) {x y : Value} {b L sz sz2 : Nat} {es es2 : List (List D)}
    (hx : RepC (env S0 N s w ι) x (.own b L)) (hb : lk s.hp b = some (.row sz es false)) (hl : es.length = L) (hsz : sz = j.size ∨ sz = 0) (hy : SlOf (Shows (Tr S0 w ι (lk s.hp)) w) w y sz2 es2) (hs2 : sz2 = j.size ∨ es2.length = 0)
    (h63 : L + es2.length ≤ maxLen) (hbytes : (L + es2.length) * j.bytes ≤ 140737488355328) :
    ∃ v w' ι', (Builtin.append_ #[t, t] ty #[x, y]).run P w = .ok v w' ∧ Rel S0 w0 N { s with hp := (b, .row j.size (es ++ es2) false) :: s.hp } a w' ι' ∧
      RepC (env S0 N { s with hp := (b, .row j.size (es ++ es2) false) :: s.hp } w' ι') v (.own b (L + es2.length)) := by
  obtain ⟨i, d, z, hi, hd, hz, hzs, rfl, hone⟩ := ti_info hj
  simp only at hjs hsz hs2 hbytes ⊢
  have hxx := hx
  obtain ⟨hN, _, hx⟩ := hx
  obtain ⟨_, hx⟩ := hx sz es false hb
  have hxc := hx hl
  obtain ⟨news, hsrc, hnews⟩ := slOf_cells hy
  have hw2 : ∀ e ∈ es2, e.length = i.size := fun e he => by
    rcases hs2 with h' | h'
    · rw [← h']; exact hy.1 e he
    · have := List.length_pos_of_mem he; omega
  have hsrc' : Source w y es2.length i.size news := by
    refine ⟨?_, hsrc.2⟩
    rw [hsrc.1]
    rcases hs2 with h' | h'
    · rw [h']
    · rw [h']; simp
  -- the base, as run_app wants it
  have hbase : ∃ olds : List Value, ((x = nilS ∧ L = 0 ∧ olds = []) ∨ ∃ g cap cur bt, x = .slice (some ⟨g, 0, none⟩) L cap ∧ w.heap[g]? = some (.cells cur bt (0, 0)) ∧ L ≤ cap ∧ cap ≤ maxLen ∧ cur.size = cap * i.size ∧ olds = cur.toList.take (L * i.size)) ∧ olds.length = es.flatten.length ∧ All2 (Shows (Tr S0 w ι (lk s.hp)) w) olds es.flatten := by
    rcases hxc with ⟨hn, rfl⟩ | ⟨g, cap, hg, rfl, hc, hm, cur, ty', hh, hs⟩
    · have h2 := (h.ob b _ hb).2
      unfold RepO at h2
      have hg' : (env S0 N s w ι).ι b = none := hn
      rw [hg'] at h2
      obtain ⟨sz', fz', he⟩ := h2
      cases he
      exact ⟨[], .inl ⟨rfl, by simp at hl; omega, rfl⟩, rfl, .nil⟩
    · obtain ⟨_, cur', ty'', hh', hcc, hsh⟩ := h.block hb hg
      have : cur = cur' ∧ ty' = ty'' := by have := hh.symm.trans hh'; simpa [env] using this
      obtain ⟨rfl, rfl⟩ := this
      have hs0 : 0 < sz := hsh.1
      have hwid : ∀ e ∈ es, e.length = sz := hsh.2
      obtain rfl : sz = i.size := by rcases hsz with h' | h'; exact h'; omega
      have hfl := flat_len hwid
      have hle : L * i.size ≤ cap * i.size := Nat.mul_le_mul_right _ hc
      refine ⟨_, .inr ⟨g, cap, cur, ty', rfl, hh, hc, hm, hs, rfl⟩, ?_, All2.of_get ?_ fun k y c hy hc => ?_⟩
      · rw [List.length_take, Array.length_toList, hfl, hl, hs]; omega
      · rw [List.length_take, Array.length_toList, hfl, hl, hs]; omega
      · obtain ⟨y', hy', hr⟩ := hcc k (.d c) (by show (es.flatten.map AC.d)[k]? = _; rw [List.getElem?_map, hc]; rfl)
        rw [List.getElem?_take] at hy
        split at hy
        · have : y = y' := by
            have : cur.toList[k]? = cur[k]? := by simp
            rw [this, hy'] at hy
            exact (Option.some.inj hy).symm
          rw [this]; exact hr
        · cases hy
  obtain ⟨olds, hv, hol, hoa⟩ := hbase
  obtain ⟨v', w', hrun, hcase⟩ := run_app (P := P) w t ty e i z hsl hi hz hzs x L olds y es2.length news hsrc' hnews.one h63 hbytes hv
  have hfl2 := flat_len hw2
  have hnl := hnews.length
  rcases hcase with ⟨hm0, e1, e2⟩ | ⟨g, cap, cur, bt, hpos, rfl, hg, hcm, hcs, hroom, rfl, rfl⟩ | ⟨cap, rest, hpos, hroom, hcm, rfl, rfl, hlen⟩
  · subst e1 e2
    obtain rfl : es2 = [] := List.eq_nil_of_length_eq_zero hm0
    simp only [List.append_nil, List.length_nil, Nat.add_zero]
    have kept : ∀ {sz}, lk s.hp b = some (.row sz es false) → Rel S0 w0 N { s with hp := (b, .row sz es false) :: s.hp } a w' ι ∧ RepC (env S0 N { s with hp := (b, .row sz es false) :: s.hp } w' ι) v' (.own b L) := fun {sz} hb => by
      have h1 := h.same hb
      have e : lk ((b, Ob.row sz es false) :: s.hp) = lk s.hp := by
        funext k
        rw [lk_cons]
        split
        · rename_i hk; subst hk; exact hb.symm
        · rfl
      have ee : env S0 N { s with hp := (b, .row sz es false) :: s.hp } w' ι = env S0 N s w' ι := by unfold env; rw [e]
      exact ⟨h1, by rw [ee]; exact hxx⟩
    rcases hsz with h' | h'
    · subst h'
      obtain ⟨q1, q2⟩ := kept hb
      exact ⟨_, _, ι, hrun, q1, q2⟩
    · subst h'
      rcases hxc with ⟨hn, hq⟩ | ⟨g, cap, hg, _⟩
      · have h2 := (h.ob b _ hb).2
        unfold RepO at h2
        have hg' : (env S0 N s w' ι).ι b = none := hn
        rw [hg'] at h2
        obtain ⟨_, _, he⟩ := h2
        cases he
        obtain ⟨q1, q2⟩ := h.resz (sz' := i.size) hb hn
        exact ⟨_, _, ι, hrun, q1, hxx.keep q2⟩
      · obtain ⟨_, _, _, _, _, hsh⟩ := h.block hb hg
        exact absurd hsh.1 (by omega)
  · have hne : ¬ es2.length = 0 := by omega
    have hwall : ∀ e ∈ es ++ es2, e.length = i.size := fun e he => by
      rcases List.mem_append.1 he with he | he
      · rcases hxc with ⟨_, h'⟩ | ⟨g1, cap1, hg1, _⟩
        · cases h'
        · obtain ⟨_, _, _, _, _, hsh⟩ := h.block hb hg1
          rcases hsz with h' | h'
          · rw [← h']; exact hsh.2 e he
          · have := hsh.1; omega
      · exact hw2 e he
    rcases hxc with ⟨_, h'⟩ | ⟨g1, cap1, hg1, h', _⟩
    · cases h'
    · simp only [Value.slice.injEq, Option.some.injEq, Addr.mk.injEq, and_true, true_and] at h'
      obtain ⟨rfl, rfl⟩ := h'
      obtain ⟨hge, cur1, ty1, hh1, _, _⟩ := h.block hb hg1
      have hall := hoa.append hnews
      rw [← List.flatten_append] at hall
      rcases hv with ⟨h', _⟩ | ⟨g2, cap2, cur2, bt2, h', hh2, _, _, _, ho2⟩
      · cases h'
      · simp only [Value.slice.injEq, Option.some.injEq, Addr.mk.injEq, and_true, true_and] at h'
        obtain ⟨rfl, rfl⟩ := h'
        have hcc2 := hg.symm.trans hh2
        simp only [Option.some.injEq, Obj.cells.injEq, and_true] at hcc2
        obtain ⟨rfl, rfl⟩ := hcc2
        have htl : L * i.size + news.length ≤ cur.size := by
          rw [hsrc'.1, hcs, ← Nat.add_mul]; exact Nat.mul_le_mul_right _ hroom
        have hturn := h.turn (g' := g) (sz' := i.size) (es' := es ++ es2) hb (by rw [List.length_append]; omega) (w' := w.setRow g (cur.toList.take (L * i.size) ++ news ++ cur.toList.drop (L * i.size + news.length)).toArray)
          (ty := bt) (.inl hg1) (setRow_heap w g cur _ bt (0, 0) hg) (fun k _ hk => setRow_other w g k _ hk) (by simp) (gr_setRow hg w0 hge h.gr) ⟨hjs, hwall⟩ (fun k c hk => by
            obtain ⟨y', hy', hr⟩ := hall.get hk
            refine ⟨y', ?_, hr⟩
            rw [List.getElem?_toArray, ← ho2, List.getElem?_append_left]
            · exact hy'
            · exact (List.getElem?_eq_some_iff.1 hy').1)
        refine ⟨_, _, _, hrun, hturn, ?_⟩
        refine own_rep (sz := i.size) (es := es ++ es2) (fz := false) hN (upd_same _ _ _) (by simp [env, lk_nil, lk_cons]) (by rw [List.length_append]; omega) hroom hcm (setRow_heap w g cur _ bt (0, 0) hg) ?_
        rw [← hcs]
        simp only [List.size_toArray, List.length_append, List.length_take, List.length_drop, Array.length_toList]
        omega
  · have hne : ¬ es2.length = 0 := by omega
    have hwall : ∀ e ∈ es ++ es2, e.length = i.size := fun e he => by
      rcases List.mem_append.1 he with he | he
      · rcases hxc with ⟨hn, h'⟩ | ⟨g1, cap1, hg1, _⟩
        · have h2 := (h.ob b _ hb).2
          unfold RepO at h2
          have hg' : (env S0 N s w ι).ι b = none := hn
          rw [hg'] at h2
          obtain ⟨sz', fz', he'⟩ := h2
          cases he'
          simp at he
        · obtain ⟨_, _, _, _, _, hsh⟩ := h.block hb hg1
          rcases hsz with h' | h'
          · rw [← h']; exact hsh.2 e he
          · have := hsh.1; omega
      · exact hw2 e he
    have hall := hoa.append hnews
    rw [← List.flatten_append] at hall
    have hturn := h.turn (g' := w.heap.size) (sz' := i.size) (es' := es ++ es2) hb (by rw [List.length_append]; omega) (w' := w.drew.alloc (.cells (olds ++ news ++ rest).toArray e))
      (ty := e) (.inr (Nat.le_refl _)) (heap_alloc_new w.drew _) (fun k hk _ => Below.heap_alloc w.drew _ k hk) (by simp) ((h.gr.drew).alloc _ _) ⟨hjs, hwall⟩ (fun k c hk => by
        obtain ⟨y', hy', hr⟩ := hall.get hk
        refine ⟨y', ?_, hr⟩
        rw [List.getElem?_toArray, List.getElem?_append_left]
        · exact hy'
        · exact (List.getElem?_eq_some_iff.1 hy').1)
    refine ⟨_, _, _, hrun, hturn, ?_⟩
    refine own_rep (sz := i.size) (es := es ++ es2) (fz := false) hN (upd_same _ _ _) (by simp [env, lk_nil, lk_cons]) (by rw [List.length_append]; omega) hroom hcm (heap_alloc_new w.drew _) ?_
    simpa using hlen
end
end
end Go.Proofs.Ytnmpdpijcehofaa.Eng
