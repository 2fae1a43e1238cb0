/-
  Values seen as data: a part of the engine, of no one program. No condition.
-/
import Derived.Test.YtnmpdpijcehofaaE13
namespace Go.Proofs.Ytnmpdpijcehofaa.Eng
set_option linter.all false
noncomputable section
open Go.RowKit

section
variable {P : Program} {S0 : Nat → Prop} {w0 : Base} {N : Nat → Prop} {s : St} {a : Act} {w : World} {ι : Nat → Option Nat} {seed : Nat} {o : Oper}

theorem good_app (h : Rel S0 w0 N s a w ι) (hid : ∀ k, k < 1 → ¬ N (seed + k)) {t t' : TypeId} {x y : Operand} {e : Eff} (ho : o.op = .call { callee := .builtin .append, args := #[x, y], argTypes := #[t, t'] }) (he : app1 P s seed t t' x y = some e) : Good P S0 w0 N s a w seed o e := by
  unfold app1 at he
  split at he
  · rename_i e0 _ _ _ c c2 hi hx hy
    have hsl := ti_slice hi rfl
    split at he
    · rename_i j sz2 es2 hj hd2
      split at he
      · rename_i hcond
        obtain ⟨rfl, hjs, hs2⟩ := hcond
        have hyr := h.elems (h.ev hy) hd2
        split at he
        · rename_i b L
          split at he
          · rename_i sz es hb
            split at he
            · rename_i hc
              obtain ⟨hl, hsz, h63, hby⟩ := hc
              cases he
              obtain ⟨v, w', ι', hrun, hr, hrep⟩ := h.app (ty := o.type) hsl hj hjs (h.ev hx) hb hl hsz hyr hs2 h63 hby
              refine ⟨v, w', ι', .inl ?_, hr.weakN (fun _ h => .inl h), fun q hq => ?_⟩
              · simp [execOp, ho, resolve, invoke, builtin, hrun]
              · cases hq
                exact RepC.keep (E := env S0 N { s with hp := (b, .row j.size (es ++ es2) false) :: s.hp } w' ι') (E' := env S0 (Plus N seed 0) { s with hp := (b, .row j.size (es ++ es2) false) :: s.hp, nx := seed } w' ι') (Step.same rfl rfl rfl rfl (fun _ h => Or.inl h)) hrep
            · cases he
          · cases he
        · split at he
          · rename_i hc
            cases he
            have h1 := h.virt (id := seed) (nx' := seed + 1) (by simpa using hid 0 (by omega)) 0 false
            have hN : ∀ b, With N seed b → Plus N seed 1 b := fun b hb => hb.imp id (fun e => by omega)
            have h2 := h1.weakN (nx' := seed + 1) hN
            have hxn : a.eval x = nilS := plain_eq (h.ev hx) rfl
            have hst : Step (env S0 N s w ι) (env S0 (Plus N seed 1) { s with hp := (seed, .row 0 [] false) :: s.hp, nx := seed + 1 } w (upd ι seed none)) := by
              have hne : ∀ {b}, N b → b ≠ seed := fun hb e => (by simpa using hid 0 (by omega) : ¬ N seed) (e ▸ hb)
              refine ⟨fun k hk => ?_, fun _ _ => rfl, fun b hb => .inl hb, fun b sz es fz hN' hb => ?_, fun b cs hN' hb => ?_⟩
              · obtain ⟨k1, k2, k3⟩ := hk
                refine ⟨k1, k2, fun b' o' hb' hm => ?_⟩
                replace hb' : lk ((seed, _) :: s.hp) b' = some o' := hb'
                show upd ι seed none b' ≠ some k
                by_cases he : b' = seed
                · subst he; rw [upd_same]; simp
                · rw [upd_other _ _ _ he]
                  rw [lk_cons, if_neg (Ne.symm he)] at hb'
                  exact k3 b' o' hb' hm
              · replace hb : lk ((seed, _) :: s.hp) b = some (.row sz es fz) := hb
                rw [lk_cons, if_neg (Ne.symm (hne hN'))] at hb
                exact ⟨sz, es, fz, hb, .inl ⟨.inr rfl, rfl, upd_other _ _ _ (hne hN'), fun g _ cur ty hh => ⟨cur, hh, rfl⟩⟩⟩
              · replace hb : lk ((seed, _) :: s.hp) b = some (.box cs) := hb
                rw [lk_cons, if_neg (Ne.symm (hne hN'))] at hb
                exact ⟨cs, hb, upd_other _ _ _ (hne hN')⟩
            have hyr' : SlOf (Shows (Tr S0 w (upd ι seed none) (lk ((seed, .row 0 [] false) :: s.hp))) w) w (a.eval y) sz2 es2 := by
              obtain ⟨q1, q2⟩ := hyr
              refine ⟨q1, q2.imp id fun ⟨ad, cap, e1, e2, e3, e4⟩ => ⟨ad, cap, e1, e2, e3, fun k c hk => ?_⟩⟩
              obtain ⟨y', hy', hr⟩ := e4 k c hk
              exact ⟨y', hy', Shows.keep hst.S hst.c hr⟩
            have hnil : RepC (env S0 (Plus N seed 1) { s with hp := (seed, .row 0 [] false) :: s.hp, nx := seed + 1 } w (upd ι seed none)) (a.eval x) (.own seed 0) := by
              rw [hxn]
              refine nil_rep (.inr ⟨Nat.le_refl _, by show seed < seed + 1; omega⟩) (upd_same _ _ _) (sz := 0) (fz := false) ?_
              simp [env, lk_nil, lk_cons]
            obtain ⟨v, w', ι', hrun, hr, hrep⟩ := h2.app (ty := o.type) (es := []) (sz := 0) hsl hj hjs hnil (by simp [lk_nil, lk_cons]) rfl (.inr rfl) hyr' hs2 (by omega) (by simpa using hc.2)
            simp only [List.nil_append, Nat.zero_add] at hr hrep
            -- the object laid twice under one number reads as the last
            have e : lk ((seed, Ob.row j.size es2 false) :: (seed, .row 0 [] false) :: s.hp) = lk ((seed, Ob.row j.size es2 false) :: s.hp) := by
              funext k
              simp only [lk_cons]
              split <;> rfl
            refine ⟨v, w', ι', .inl ?_, ?_, fun q hq => ?_⟩
            · simp [execOp, ho, resolve, invoke, builtin, hrun]
            · have ee : env S0 (Plus N seed 1) { s with hp := (seed, .row j.size es2 false) :: (seed, .row 0 [] false) :: s.hp, nx := seed + 1 } w' ι' = env S0 (Plus N seed 1) { s with hp := (seed, .row j.size es2 false) :: s.hp, nx := seed + 1 } w' ι' := by unfold env; rw [e]
              refine ⟨fun t x ht => ?_, fun b o' hb' => ?_, fun b1 b2 o1 o2 g q1 q2 => ?_, hr.gr, hr.nt, hr.df, by have := hr.st; rw [ee] at this; exact this⟩
              · have := hr.fr t x ht; rw [ee] at this; exact this
              · have := hr.ob b o' (by rw [← hb']; exact congrFun e b); rw [ee] at this; exact this
              · exact hr.inj b1 b2 o1 o2 g (by rw [← q1]; exact congrFun e b1) (by rw [← q2]; exact congrFun e b2)
            · cases hq
              have ee : env S0 (Plus N seed 1) { s with hp := (seed, .row j.size es2 false) :: (seed, .row 0 [] false) :: s.hp, nx := seed + 1 } w' ι' = env S0 (Plus N seed 1) { s with hp := (seed, .row j.size es2 false) :: s.hp, nx := seed + 1 } w' ι' := by unfold env; rw [e]
              rw [ee] at hrep
              exact hrep
          · cases he
        · cases he
      · cases he
    · cases he
  · cases he

def cop1 (P : Program) (s : St) (t t' : TypeId) (x y : Operand) : Option Eff :=
  match ti P t, evO s x, evO s y with
  | some ⟨.sl e, _, _, _⟩, some (.x (.one c)), some (.x (.one c2)) => match ti P e, elemsC s.hp c2 with
    | some j, some (sz2, es2) =>
      if 0 < j.size ∧ (sz2 = j.size ∨ es2.length = 0) then match (match c with | .own b L => some (b, 0, L, L) | .view b lo n L => some (b, lo, n, L) | _ => none) with
        | some (b, lo, n, L) => match lk s.hp b with
          | some (.row sz es false) => if es.length = L ∧ lo + n ≤ L ∧ (sz = j.size ∨ es.length = 0) then
              some { val := some (vv (.int .i64 (min es2.length n : Nat))), ups := [(b, .row sz (spl es lo (es2.take n)) false)] } else none
          | _ => none
        | none => none
      else none
    | _, _ => none
  | _, _, _ => none
theorem good_cop (h : Rel S0 w0 N s a w ι) {t t' : TypeId} {x y : Operand} {e : Eff} (ho : o.op = .call { callee := .builtin .copy, args := #[x, y], argTypes := #[t, t'] }) (he : cop1 P s t t' x y = some e) : Good P S0 w0 N s a w seed o e := by
  unfold cop1 at he
  split at he
  · rename_i e0 _ _ _ c c2 hi hx hy
    have hsl := ti_slice hi rfl
    split at he
    · rename_i j sz2 es2 hj hd2
      split at he
      · rename_i hcond
        obtain ⟨hjs, hs2⟩ := hcond
        have hyr := h.elems (h.ev hy) hd2
        split at he
        · rename_i b lo n L hcc
          split at he
          · rename_i sz es hb
            split at he
            · rename_i hc
              obtain ⟨hl, hlo, hsz⟩ := hc
              cases he
              -- the destination
              have hdst : ∃ A cap, a.eval x = .slice A n cap ∧ (0 < n → ∃ g, ι b = some g ∧ A = some ⟨g, lo * sz, none⟩) := by
                have hxr := h.ev hx
                cases c with
                | own b' L' =>
                  simp only [Option.some.injEq, Prod.mk.injEq] at hcc
                  obtain ⟨rfl, rfl, h11, rfl⟩ := hcc
                  subst h11
                  obtain ⟨_, _, hxr⟩ := hxr
                  obtain ⟨_, hxr⟩ := hxr sz es false hb
                  rcases hxr hl with ⟨_, hq⟩ | ⟨g, cap, hg, hq, _⟩
                  · have h2 := (h.ob b' _ hb).2
                    exact ⟨none, 0, by
                      have : L' = 0 := by
                        have hq' : nilS = nilS := rfl
                        rcases hxr hl with ⟨hn, _⟩ | ⟨g, cap, _, hq2, _⟩
                        · unfold RepO at h2
                          have hg' : (env S0 N s w ι).ι b' = none := hn
                          rw [hg'] at h2
                          obtain ⟨_, _, he'⟩ := h2
                          cases he'
                          simpa using hl.symm
                        · rw [hq] at hq2; cases hq2
                      rw [this]; exact hq, fun hpos => by
                        rcases hxr hl with ⟨hn, _⟩ | ⟨g, cap, _, hq2, _⟩
                        · unfold RepO at h2
                          have hg' : (env S0 N s w ι).ι b' = none := hn
                          rw [hg'] at h2
                          obtain ⟨_, _, he'⟩ := h2
                          cases he'
                          simp at hl
                          omega
                        · rw [hq] at hq2; cases hq2⟩
                  · exact ⟨_, cap, hq, fun _ => ⟨g, hg, by simp⟩⟩
                | view b' lo' n' L' =>
                  simp only [Option.some.injEq, Prod.mk.injEq] at hcc
                  obtain ⟨rfl, rfl, rfl, rfl⟩ := hcc
                  obtain ⟨_, _, hxr⟩ := hxr
                  obtain ⟨_, hxr⟩ := hxr sz es false hb
                  obtain ⟨A, cap, hq, _, _, _, hA⟩ := hxr hl
                  exact ⟨A, cap, hq, hA⟩
                | _ => simp at hcc
              obtain ⟨A, cap, hv, hA⟩ := hdst
              obtain ⟨news, hsrc, hnews⟩ := slOf_cells hyr
              have hyv : ∃ B cy, a.eval y = .slice B es2.length cy := by
                rcases hyr with ⟨_, ⟨q1, q2⟩ | ⟨ad, cy, q1, _⟩⟩
                · rw [q2]; exact ⟨none, 0, q1⟩
                · exact ⟨some ad, cy, q1⟩
              obtain ⟨B, cy, hyv⟩ := hyv
              have hnl : news.length = es2.length * j.size := by
                rw [hsrc.1]
                rcases hs2 with h' | h'
                · rw [h']
                · rw [h']; simp
              have hw2 : ∀ e ∈ es2, e.length = j.size := fun e he => by
                rcases hs2 with h' | h'
                · rw [← h']; exact hyr.1 e he
                · have := List.length_pos_of_mem he; omega
              have hkl : (news.take (Nat.min es2.length n * j.size)).length = Nat.min es2.length n * j.size := by
                rw [List.length_take, hnl]
                exact Nat.min_eq_left (Nat.mul_le_mul_right _ (Nat.min_le_left _ _))
              have hfc : (Builtin.firstCells j.size (Nat.min es2.length n) (a.eval y)).run P w = .ok (news.take (Nat.min es2.length n * j.size)).toArray w := by
                rcases hsrc.2 with ⟨q1, q2⟩ | ⟨ad, c', q1, q2⟩
                · rw [q1]
                  have : news = [] := List.eq_nil_of_length_eq_zero (by rw [hnl, q2]; simp)
                  rw [this]
                  simp [nilS, Builtin.firstCells]
                · rw [q1]
                  refine run_firstCells_some (P := P) w j.size _ ad _ _ _ hkl (fun q u hu => ?_)
                  rw [List.getElem?_take] at hu
                  split at hu
                  · exact q2 q u hu
                  · cases hu
              by_cases hk : Nat.min es2.length n = 0
              · have hsp : spl es lo (es2.take n) = es := by
                  have : (es2.take n).length = 0 := by rw [List.length_take, Nat.min_comm]; exact hk
                  rw [List.eq_nil_of_length_eq_zero this]
                  simp [spl]
                refine ⟨goInt (Nat.min es2.length n : Nat), w, ι, .inl ?_, ?_, fun q hq => ?_⟩
                · rw [hk] at hfc
                  rw [hyv] at hfc
                  simp only [Nat.zero_mul, List.take_zero] at hfc
                  cases A <;> simp [execOp, ho, resolve, invoke, builtin, hv, hyv, Builtin.copy_, run_underlying hsl, Builtin.lenOf, ti_size hj, hk, hfc, storeCells]
                · rw [hsp]; exact (h.same hb).weakN (fun _ h => .inl h)
                · cases hq; exact rep_v rfl
              · have hkpos : 0 < Nat.min es2.length n := by omega
                have hnpos : 0 < n := Nat.lt_of_lt_of_le hkpos (Nat.min_le_right _ _)
                obtain ⟨g, hg, rfl⟩ := hA hnpos
                obtain ⟨hge, cur, ty, hh, hcell, hsh⟩ := h.block hb hg
                have hszj : sz = j.size := by
                  rcases hsz with h' | h'
                  · exact h'
                  · omega
                subst hszj
                have hwid : ∀ e ∈ es, e.length = j.size := hsh.2
                have hfl := flat_len hwid
                have hkn : Nat.min es2.length n ≤ n := Nat.min_le_right _ _
                have hmul : lo * j.size + Nat.min es2.length n * j.size ≤ es.flatten.length := by
                  rw [hfl, ← Nat.add_mul]; exact Nat.mul_le_mul_right _ (by omega)
                have hcsz : es.flatten.length ≤ cur.size := by
                  rcases Nat.eq_zero_or_pos es.flatten.length with h0 | h0
                  · omega
                  · obtain ⟨y', hy', _⟩ := hcell (es.flatten.length - 1) (.d es.flatten[es.flatten.length - 1]) (by
                      show (es.flatten.map AC.d)[_]? = _
                      rw [List.getElem?_map, List.getElem?_eq_getElem (by omega)]; rfl)
                    have := (Array.getElem?_eq_some_iff.1 hy').1
                    omega
                have hst := run_storeCells_at P g (lo * j.size) ty (news.take (Nat.min es2.length n * j.size)) 0 cur w hh (by rw [hkl]; omega) (fun v hv => hnews.one v (List.mem_of_mem_take hv))
                simp only [Nat.add_zero] at hst
                have hfl2 : (es2.take n).flatten = es2.flatten.take (Nat.min es2.length n * j.size) := by
                  rw [flat_take hw2]
                  rcases Nat.le_total es2.length n with h' | h'
                  · have e1 : Nat.min es2.length n = es2.length := Nat.min_eq_left h'
                    rw [e1, List.take_of_length_le (by rw [flat_len hw2]; exact Nat.mul_le_mul_right _ h'), List.take_of_length_le (by rw [flat_len hw2]; omega)]
                  · have e1 : Nat.min es2.length n = n := Nat.min_eq_right h'
                    rw [e1]
                have htl : (es2.take n).length = Nat.min es2.length n := by rw [List.length_take]; exact Nat.min_comm _ _
                have hall := hnews.take (Nat.min es2.length n * j.size)
                rw [← hfl2] at hall
                have hflat : ∀ (m : List (List D)) (q : Nat), (∀ e ∈ m, e.length = j.size) → q + m.length ≤ es.length → (spl es q m).flatten = spl es.flatten (q * j.size) m.flatten := fun m q hm hq => by
                  unfold spl
                  rw [List.flatten_append, List.flatten_append, flat_take hwid, flat_drop hwid, flat_len hm, Nat.add_mul]
                have hflat' := hflat (es2.take n) lo (fun e he => hw2 e (List.mem_of_mem_take he)) (by rw [htl]; omega)
                refine ⟨goInt (Nat.min es2.length n : Nat), w.setRow g (cur.toList.take (lo * j.size) ++ news.take (Nat.min es2.length n * j.size) ++ cur.toList.drop (lo * j.size + (news.take (Nat.min es2.length n * j.size)).length)).toArray, ι, .inl ?_, ?_, fun q hq => ?_⟩
                · rw [hyv] at hfc
                  simp [execOp, ho, resolve, invoke, builtin, hv, hyv, Builtin.copy_, run_underlying hsl, Builtin.lenOf, ti_size hj, hfc, hst]
                · refine Rel.weakN (N := N) (s := { s with hp := _ :: s.hp }) (h.rewrite hb hg rfl hh (setRow_heap w g cur _ ty (0, 0) hh) ?_ (fun k hk => setRow_other w g k _ hk) (by simp) (gr_setRow hh w0 hge h.gr) rfl ?_ ?_) (fun _ h => .inl h)
                  · have := spl_len (l := cur.toList) (m := news.take (Nat.min es2.length n * j.size)) (o := lo * j.size) (by rw [hkl]; simp; omega)
                    simp only [spl, Array.length_toList] at this
                    simpa using this
                  · intro k c hk
                    have hk' : ((spl es lo (es2.take n)).flatten.map AC.d)[k]? = some c := hk
                    rw [hflat', List.getElem?_map] at hk'
                    obtain ⟨d, hd, rfl⟩ := Option.map_eq_some_iff.1 hk'
                    have hm2 : (es2.take n).flatten.length = Nat.min es2.length n * j.size := by rw [← hall.length, hkl]
                    rw [spl_get (by rw [hm2]; exact hmul)] at hd
                    have hsp := spl_get (l := cur.toList) (m := news.take (Nat.min es2.length n * j.size)) (o := lo * j.size) (by rw [hkl]; simp; omega) k
                    have hgoal : ((cur.toList.take (lo * j.size) ++ news.take (Nat.min es2.length n * j.size) ++ cur.toList.drop (lo * j.size + (news.take (Nat.min es2.length n * j.size)).length)).toArray)[k]? = (spl cur.toList (lo * j.size) (news.take (Nat.min es2.length n * j.size)))[k]? := by simp [spl]
                    rw [hgoal, hsp, hkl]
                    rw [hm2] at hd
                    have hold : ∀ {d}, es.flatten[k]? = some d → ∃ y, cur[k]? = some y ∧ RepC (env S0 N s w ι) y (.d d) := fun {d} hd => hcell k (.d d) (by show (es.flatten.map AC.d)[k]? = _; rw [List.getElem?_map, hd]; rfl)
                    split at hd
                    · rename_i h1
                      rw [if_pos h1]
                      obtain ⟨y', hy', hr⟩ := hold hd
                      exact ⟨y', by simpa using hy', hr⟩
                    · rename_i h1
                      rw [if_neg h1]
                      split at hd
                      · rename_i h2
                        rw [if_pos h2]
                        obtain ⟨y', hy', hr⟩ := hall.get hd
                        exact ⟨y', hy', hr⟩
                      · rename_i h2
                        rw [if_neg h2]
                        obtain ⟨y', hy', hr⟩ := hold hd
                        exact ⟨y', by simpa using hy', hr⟩
                  · refine ⟨rfl, spl_len (by rw [htl]; omega), fun e he => ?_⟩
                    unfold spl at he
                    rcases List.mem_append.1 he with he | he
                    · exact hwid e (List.mem_of_mem_take he)
                    · rcases List.mem_append.1 he with he | he
                      · exact hw2 e (List.mem_of_mem_take he)
                      · exact hwid e (List.mem_of_mem_drop he)
                · cases hq; exact rep_v rfl
            · cases he
          · cases he
        · cases he
      · cases he
    · cases he
  · cases he

def mm1 (s : St) (mx : Bool) (x y : Operand) : Option Eff :=
  match evP s x, evP s y with
  | some (.int k a), some (.int k' b) => if k = k' then some { val := some (vv (.int k (if mx then (if b > a then b else a) else (if b < a then b else a)))) } else none
  | _, _ => none
theorem good_min (h : Rel S0 w0 N s a w ι) {x y : Operand} {ts : Array TypeId} {e : Eff} (ho : o.op = .call { callee := .builtin .min, args := #[x, y], argTypes := ts }) (he : mm1 s false x y = some e) : Good P S0 w0 N s a w seed o e := by
  unfold mm1 at he
  split at he
  · rename_i k u k' v hx hy
    split at he
    · cases he
      refine good_val h ?_ rfl
      simp [execOp, ho, resolve, invoke, builtin, h.evP hx, h.evP hy, Builtin.min_, Builtin.min2]
    · cases he
  · cases he
theorem good_max (h : Rel S0 w0 N s a w ι) {x y : Operand} {ts : Array TypeId} {e : Eff} (ho : o.op = .call { callee := .builtin .max, args := #[x, y], argTypes := ts }) (he : mm1 s true x y = some e) : Good P S0 w0 N s a w seed o e := by
  unfold mm1 at he
  split at he
  · rename_i k u k' v hx hy
    split at he
    · cases he
      refine good_val h ?_ rfl
      simp [execOp, ho, resolve, invoke, builtin, h.evP hx, h.evP hy, run_max_int2]
    · cases he
  · cases he
end
end
end Go.Proofs.Ytnmpdpijcehofaa.Eng
