/-
  Values seen as data: a part of the engine, of no one program. No condition.
-/
import Derived.Test.YtnmpdpijcehofaaE10
namespace Go.Proofs.Ytnmpdpijcehofaa.Eng
set_option linter.all false
noncomputable section
open Go.RowKit

section
variable {P : Program} {S0 : Nat → Prop} {w0 : Base} {N : Nat → Prop} {s : St} {a : Act} {w : World} {ι : Nat → Option Nat} {seed : Nat} {o : Oper}

def addrAt (es : List (List D)) (i : Nat) : AC → AC
  | .own b L => .eptr b i 0 L
  | .view b lo _ L => .eptr b (lo + i) 0 L
  | _ => .cptr (es.getD i [])
theorem getD_some {α : Type} {es : List (List α)} {i : Nat} (h : i < es.length) : es[i]? = some (es.getD i []) := by
  simp [List.getD, List.getElem?_eq_getElem h]
theorem Rel.addrAt (h : Rel S0 w0 N s a w ι) {x : Value} {c : AC} (hx : RepC (env S0 N s w ι) x c) {sz : Nat} {es : List (List D)} (hd : dataC s.hp c = some (.sl sz es)) {i : Nat} (hi : i < es.length) :
    ∃ ad cap, x = .slice (some ad) es.length cap ∧ RepC (env S0 N s w ι) (.pointer (some (ad.add (i * sz)))) (addrAt es i c) := by
  cases c with
  | d c =>
    have hx' := hx
    simp only [dataC, Option.some.injEq] at hd
    subst hd
    cases hx' with
    | nil => simp at hi
    | @sl ad n cap _ _ f hn hS hc hm hw hr hd =>
      subst hn
      refine ⟨ad, cap, rfl, _, rfl, fun _ => ?_, fun k c hk => ?_⟩
      · rw [add_block]; exact hS (by rintro rfl; simp at hi)
      · have := flat_get hw (getD_some hi) hk
        rw [add_add']
        exact ⟨_, hr _ c this, hd _ c this⟩
  | own b L =>
    simp only [dataC] at hd
    split at hd
    · rename_i sz' es' fz hb
      split at hd
      · rename_i hl
        simp only [Option.some.injEq, D.sl.injEq] at hd
        obtain ⟨rfl, rfl⟩ := hd
        obtain ⟨hN, _, hx⟩ := hx
        obtain ⟨_, hx⟩ := hx _ _ fz hb
        rcases hx hl with ⟨hn, rfl⟩ | ⟨g, cap, hg, rfl, hc, hm, _⟩
        · have h2 := (h.ob b _ hb).2
          unfold RepO at h2
          have hg' : (env S0 N s w ι).ι b = none := hn
          rw [hg'] at h2
          obtain ⟨sz', fz', he⟩ := h2
          cases he
          simp at hi
        · refine ⟨_, cap, by rw [hl], hN, rfl, fun sz1 es1 fz1 hb1 => ?_⟩
          have := hb.symm.trans hb1
          cases this
          exact ⟨by omega, fun _ _ => ⟨g, hg, by rw [Addr.add_lit]; simp⟩⟩
      · cases hd
    · cases hd
  | view b lo n L =>
    simp only [dataC] at hd
    split at hd
    · rename_i sz' es' fz hb
      split at hd
      · rename_i hl
        simp only [Option.some.injEq, D.sl.injEq] at hd
        obtain ⟨rfl, rfl⟩ := hd
        obtain ⟨hN, _, hx⟩ := hx
        obtain ⟨_, hx⟩ := hx _ _ fz hb
        obtain ⟨A, cap, rfl, hc, hm, hA0, hA⟩ := hx hl.1
        have hlen : ((es'.drop lo).take n).length = n := by rw [List.length_take, List.length_drop]; omega
        rw [hlen] at hi ⊢
        obtain ⟨g, hg, rfl⟩ := hA (by omega)
        refine ⟨_, cap, rfl, hN, rfl, fun sz1 es1 fz1 hb1 => ?_⟩
        have := hb.symm.trans hb1
        cases this
        exact ⟨by omega, fun _ _ => ⟨g, hg, by rw [Addr.add_lit, Nat.add_mul]; simp⟩⟩
      · cases hd
    · cases hd
  | _ => simp [dataC] at hd

def idx1 (P : Program) (s : St) (t : TypeId) (x i : Operand) : Option Eff :=
  match ti P t, evO s x, evP s i with
  | some ⟨.sl e, _, _, _⟩, some (.x (.one c)), some (.int _ k) => match ti P e, dataC s.hp c with
    | some j, some (.sl sz es) => if 0 ≤ k ∧ k < es.length ∧ sz = j.size then some { val := some (one (addrAt es k.toNat c)) } else none
    | _, _ => none
  | some ⟨.arr n e, _, _, _⟩, some (.x (.one c)), some (.int _ k) => match ti P e with
    | some j => if 0 ≤ k ∧ k < n then (shift s.hp (k.toNat * j.size) c).map fun c' => { val := some (one c') } else none
    | none => none
  | _, _, _ => none
theorem good_idx (h : Rel S0 w0 N s a w ι) {t : TypeId} {x i : Operand} {e : Eff} (ho : o.op = .indexAddr t x i) (he : idx1 P s t x i = some e) : Good P S0 w0 N s a w seed o e := by
  unfold idx1 at he
  split at he
  · rename_i e0 _ _ _ c kk k hi hx hk
    split at he
    · rename_i j sz es hj hd
      split at he
      · rename_i hcond
        cases he
        obtain ⟨h1, h2, rfl⟩ := hcond
        have hsl := ti_slice hi rfl
        obtain ⟨ad, cap, hv, hr⟩ := h.addrAt (h.ev hx) hd (i := k.toNat) (by omega)
        refine good_pure h (v := _) ?_ hr
        simp [execOp, ho, hv, h.evP hk, Instr.indexAt, asIntOf, run_underlying hsl, h1, h2, ti_size hj]
      · cases he
    · cases he
  · rename_i n e0 _ _ _ c kk k hi hx hk
    split at he
    · rename_i j hj
      split at he
      · rename_i hcond
        obtain ⟨c', hc, rfl⟩ := Option.map_eq_some_iff.1 he
        obtain ⟨jj, d, zz, _, hd, _, _, hxx, _⟩ := ti_info hi
        simp only [TI.mk.injEq] at hxx
        cases d <;> simp [tk] at hxx
        obtain ⟨⟨rfl, rfl⟩, _⟩ := hxx
        obtain ⟨ad, hp, hr⟩ := h.shift (h.ev hx) hc
        refine good_pure h (v := .pointer (some (ad.add (k.toNat * j.size)))) ?_ hr
        simp [execOp, ho, hp, h.evP hk, Instr.indexAt, asIntOf, run_underlying hd, Instr.sureAddr, hcond.1, hcond.2, ti_size hj]
      · cases he
    · cases he
  · cases he
def index1 (P : Program) (s : St) (t : TypeId) (x i : Operand) : Option Eff :=
  match ti P t, evO s x, evP s i with
  | some ⟨.arr n e, _, _, _⟩, some (.x (.agg cs)), some (.int _ k) => match ti P e with
    | some j => if 0 ≤ k ∧ k < n then (partOf (k.toNat * j.size) j.size j.k.isAgg cs).map fun v => { val := some v } else none
    | none => none
  | _, _, _ => none
theorem good_index (h : Rel S0 w0 N s a w ι) {t : TypeId} {x i : Operand} {e : Eff} (ho : o.op = .index t x i) (he : index1 P s t x i = some e) : Good P S0 w0 N s a w seed o e := by
  unfold index1 at he
  split at he
  · rename_i n e0 _ _ _ cs kk k hi hx hk
    split at he
    · rename_i j hj
      split at he
      · rename_i hcond
        obtain ⟨v, hv, rfl⟩ := Option.map_eq_some_iff.1 he
        obtain ⟨jj, d, zz, _, hd, _, _, hxx, _⟩ := ti_info hi
        simp only [TI.mk.injEq] at hxx
        cases d <;> simp [tk] at hxx
        obtain ⟨⟨rfl, rfl⟩, _⟩ := hxx
        obtain ⟨arr, hp, hr⟩ := h.ev hx
        obtain ⟨u, hu, hr'⟩ := part_run hr hj hv w
        refine good_pure h (v := u) ?_ hr'
        simp [execOp, ho, hp, h.evP hk, Instr.index, asIntOf, run_underlying hd, hcond.1, hcond.2, ti_size hj, hu]
      · cases he
    · cases he
  · cases he

/-- s[lo:hi]. -/
def cutC (es : List (List D)) (sz lo n : Nat) : AC → AC
  | .own b L => .view b lo n L
  | .view b lo0 _ L => .view b (lo0 + lo) n L
  | _ => .d (.sl sz ((es.drop lo).take n))
theorem Rel.cutC (h : Rel S0 w0 N s a w ι) {x : Value} {c : AC} (hx : RepC (env S0 N s w ι) x c) {sz : Nat} {es : List (List D)} (hd : dataC s.hp c = some (.sl sz es)) :
    ∃ A cap, x = .slice A es.length cap ∧ es.length ≤ cap ∧ ∀ lo n m, lo + n ≤ es.length → lo + n ≤ m → m ≤ cap → RepC (env S0 N s w ι) (.slice (if m = lo then A else A.map (·.add (lo * sz))) n (m - lo)) (cutC es sz lo n c) := by
  cases c with
  | d c =>
    simp only [dataC, Option.some.injEq] at hd
    subst hd
    cases hx with
    | nil =>
      refine ⟨none, 0, rfl, Nat.le_refl _, fun lo n m h1 h2 h3 => ?_⟩
      obtain ⟨rfl, rfl, rfl⟩ : lo = 0 ∧ n = 0 ∧ m = 0 := by simp at h1; omega
      exact Shows.nil
    | @sl ad n cap _ _ f hn hS hc hm hw hr hd =>
      subst hn
      refine ⟨some ad, cap, rfl, hc, fun lo n m h1 h2 h3 => ?_⟩
      have hlen : n = ((es.drop lo).take n).length := by rw [List.length_take, List.length_drop]; omega
      have hw' : ∀ e ∈ (es.drop lo).take n, e.length = sz := fun e he => hw e (List.mem_of_mem_drop (List.mem_of_mem_take he))
      have hfl : ∀ k c, ((es.drop lo).take n).flatten[k]? = some c → es.flatten[lo * sz + k]? = some c := fun k c hk => by
        rw [flat_take (fun e he => hw e (List.mem_of_mem_drop he)), flat_drop hw, List.getElem?_take] at hk
        split at hk
        · rwa [List.getElem?_drop] at hk
        · cases hk
      by_cases hml : m = lo
      · subst hml
        rw [if_pos rfl]
        obtain rfl : n = 0 := by omega
        exact Shows.sl (fun _ => undef) (by simp) (by simp) (by omega) (by omega) (by simp) (by simp) (by simp)
      · rw [if_neg hml]
        refine Shows.sl (fun k => f (lo * sz + k)) hlen (fun hne => ?_) (by omega) (by omega) hw' (fun k c hk => ?_) (fun k c hk => hd _ c (hfl k c hk))
        · show _ ; rw [add_block]; exact hS (by rintro rfl; simp at hne)
        · rw [add_add']; exact hr _ c (hfl k c hk)
  | own b L =>
    simp only [dataC] at hd
    split at hd
    · rename_i sz' es' fz hb
      split at hd
      · rename_i hl
        simp only [Option.some.injEq, D.sl.injEq] at hd
        obtain ⟨rfl, rfl⟩ := hd
        obtain ⟨hN, _, hx⟩ := hx
        obtain ⟨hle, hx⟩ := hx _ _ fz hb
        rcases hx hl with ⟨hn, rfl⟩ | ⟨g, cap, hg, rfl, hc, hm, _⟩
        · have h2 := (h.ob b _ hb).2
          unfold RepO at h2
          have hg' : (env S0 N s w ι).ι b = none := hn
          rw [hg'] at h2
          obtain ⟨sz', fz', he⟩ := h2
          cases he
          refine ⟨none, 0, rfl, Nat.le_refl _, fun lo n m h1 h2 h3 => ?_⟩
          obtain ⟨rfl, rfl, rfl⟩ : lo = 0 ∧ n = 0 ∧ m = 0 := by simp at h1; omega
          refine ⟨hN, rfl, fun sz1 es1 fz1 hb1 => ?_⟩
          have := hb.symm.trans hb1
          cases this
          exact ⟨hle, fun _ => ⟨none, 0, by simp, by simp, by simp [maxLen], by simp, by simp⟩⟩
        · refine ⟨_, cap, by rw [hl], by omega, fun lo n m h1 h2 h3 => ⟨hN, rfl, fun sz1 es1 fz1 hb1 => ?_⟩⟩
          have := hb.symm.trans hb1
          cases this
          refine ⟨hle, fun _ => ⟨_, _, rfl, by omega, by omega, fun hA => ?_, fun hn => ⟨g, hg, ?_⟩⟩⟩
          · split at hA <;> simp at hA
          · rw [if_neg (by omega)]; simp [Addr.add_lit]
      · cases hd
    · cases hd
  | view b lo0 n0 L =>
    simp only [dataC] at hd
    split at hd
    · rename_i sz' es' fz hb
      split at hd
      · rename_i hl
        simp only [Option.some.injEq, D.sl.injEq] at hd
        obtain ⟨rfl, rfl⟩ := hd
        obtain ⟨hN, _, hx⟩ := hx
        obtain ⟨hle, hx⟩ := hx _ _ fz hb
        obtain ⟨A, cap, rfl, hc, hm, hA0, hA⟩ := hx hl.1
        have hlen : ((es'.drop lo0).take n0).length = n0 := by rw [List.length_take, List.length_drop]; omega
        rw [hlen]
        refine ⟨A, cap, rfl, hc, fun lo n m h1 h2 h3 => ⟨hN, rfl, fun sz1 es1 fz1 hb1 => ?_⟩⟩
        have := hb.symm.trans hb1
        cases this
        refine ⟨hle, fun _ => ⟨_, _, rfl, by omega, by omega, fun hAn => ?_, fun hn => ?_⟩⟩
        · split at hAn
          · have := hA0 hAn; omega
          · cases A with
            | none => have := hA0 rfl; omega
            | some _ => simp at hAn
        · obtain ⟨g, hg, rfl⟩ := hA (by omega)
          refine ⟨g, hg, ?_⟩
          rw [if_neg (by omega)]
          simp [Addr.add_lit, Nat.add_mul]
      · cases hd
    · cases hd
  | _ => simp [dataC] at hd

def optInt (s : St) (x : Option Operand) : Option (Option Int) :=
  match x with
  | none => some none
  | some y => match evP s y with
    | some (.int _ k) => some (some k)
    | _ => none
def slice1 (P : Program) (s : St) (t : TypeId) (x : Operand) (lo hi mx : Option Operand) : Option Eff :=
  match ti P t, evO s x, optInt s lo, optInt s hi, optInt s mx with
  | some ⟨.sl e, _, _, _⟩, some (.x (.one c)), some l, some h, some m => match ti P e, dataC s.hp c with
    | some j, some (.sl sz es) =>
      if 0 ≤ l.getD 0 ∧ l.getD 0 ≤ h.getD es.length ∧ h.getD es.length ≤ es.length ∧ h.getD es.length ≤ m.getD es.length ∧ m.getD es.length ≤ es.length ∧ (m.isSome = true → h.isSome = true) ∧ sz = j.size then
        some { val := some (one (cutC es sz (l.getD 0).toNat ((h.getD es.length).toNat - (l.getD 0).toNat) c)) } else none
    | _, _ => none
  | _, _, _, _, _ => none
theorem bound_run (h : Rel S0 w0 N s a w ι) {x : Option Operand} {k : Option Int} (hx : optInt s x = some k) : (x = none ∧ k = none) ∨ ∃ y kk n, x = some y ∧ k = some n ∧ a.eval y = .int kk n := by
  cases x with
  | none => simp only [optInt, Option.some.injEq] at hx; exact .inl ⟨rfl, hx.symm⟩
  | some y =>
    simp only [optInt] at hx
    split at hx
    · rename_i kk n hy
      cases hx
      exact .inr ⟨y, kk, n, rfl, rfl, h.evP hy⟩
    · cases hx
theorem sb_run {len cap : Nat} (w : World) (kl kh km : IntKind) (l h m : Option Int) (c1 : 0 ≤ l.getD 0) (c2 : l.getD 0 ≤ h.getD len) (c3 : h.getD len ≤ len) (c4 : h.getD len ≤ m.getD len) (c5 : m.getD len ≤ len) (c6 : m.isSome = true → h.isSome = true) (hc : len ≤ cap) :
    (Instr.sliceBounds true len cap (l.map (.int kl)) (h.map (.int kh)) (m.map (.int km))).run P w = .ok ((l.getD 0).toNat, (h.getD len).toNat, (m.map Int.toNat).getD cap) w := by
  cases l <;> cases h <;> cases m <;> simp only [Option.getD_none, Option.getD_some, Option.map_none, Option.map_some] at c1 c2 c3 c4 c5 ⊢ <;> (try simp at c6) <;>
    simp [Instr.sliceBounds, run_sliceBound_if] <;> (repeat (split; rotate_left; · exfalso; omega)) <;> first | rfl | (intro hh; exfalso; have := hh (by omega); omega)
theorem good_slice (h : Rel S0 w0 N s a w ι) {t : TypeId} {x : Operand} {lo hi mx : Option Operand} {e : Eff} (ho : o.op = .slice t x lo hi mx) (he : slice1 P s t x lo hi mx = some e) : Good P S0 w0 N s a w seed o e := by
  unfold slice1 at he
  split at he
  · rename_i e0 _ _ _ c l hh m hi0 hx hl hhi hm
    split at he
    · rename_i j sz es hj hd
      split at he
      · rename_i hcond
        cases he
        obtain ⟨c1, c2, c3, c4, c5, c6, rfl⟩ := hcond
        have hsl := ti_slice hi0 rfl
        obtain ⟨A, cap, hv, hcap, hr⟩ := h.cutC (h.ev hx) hd
        have key : ∀ {x : Option Operand} {k : Option Int}, optInt s x = some k → ∃ kk, x.map a.eval = k.map (Value.int kk) := fun {x k} hx => by
          rcases bound_run h hx with ⟨rfl, rfl⟩ | ⟨y, kk, n, rfl, rfl, hy⟩
          · exact ⟨.i64, rfl⟩
          · exact ⟨kk, by simp [hy]⟩
        obtain ⟨kl, b1⟩ := key hl
        obtain ⟨kh, b2⟩ := key hhi
        obtain ⟨km, b3⟩ := key hm
        have hr' := hr (l.getD 0).toNat ((hh.getD es.length).toNat - (l.getD 0).toNat) ((m.map Int.toNat).getD cap) (by omega) (by cases m <;> simp at c4 c5 ⊢ <;> omega) (by cases m <;> simp at c5 ⊢; omega)
        refine good_pure h (v := _) ?_ hr'
        have hsb := sb_run (P := P) w kl kh km l hh m c1 c2 c3 c4 c5 c6 hcap
        simp only [execOp, ho, hv, b1, b2, b3, Instr.sliceAt, Sem.run_bind, run_underlying hsl, Result.andThen_ok, Instr.slice, hsb, ti_size hj, Sem.run_pure]
      · cases he
    · cases he
  · cases he

def len1 (P : Program) (s : St) (t : TypeId) (x : Operand) : Option Eff :=
  match ti P t, evO s x with
  | some ⟨.sl _, _, _, _⟩, some (.x (.one c)) => match dataC s.hp c with
    | some (.sl _ es) => some { val := some (vv (.int .i64 es.length)) }
    | some (.v (.slice none 0 0)) => some { val := some (vv (.int .i64 0)) }
    | _ => none
  | some ⟨.arr n _, _, _, _⟩, some _ => some { val := some (vv (.int .i64 n)) }
  | _, _ => none
theorem good_len (h : Rel S0 w0 N s a w ι) {x : Operand} {t : TypeId} {e : Eff} (ho : o.op = .call { callee := .builtin .len, args := #[x], argTypes := #[t] }) (he : len1 P s t x = some e) : Good P S0 w0 N s a w seed o e := by
  unfold len1 at he
  split at he
  · rename_i e0 _ _ _ c hi hx
    have hsl := ti_slice hi rfl
    split at he
    · rename_i sz es hd
      cases he
      refine good_val h ?_ rfl
      have hv : ∃ A cap, a.eval x = .slice A es.length cap := by
        rcases h.slOf (h.ev hx) hd with ⟨_, ⟨h1, h2⟩ | ⟨ad, cap, h1, _⟩⟩
        · subst h2; exact ⟨none, 0, h1⟩
        · exact ⟨some ad, cap, h1⟩
      obtain ⟨A, cap, hv⟩ := hv
      simp [execOp, ho, resolve, invoke, builtin, hv, Builtin.len_, run_underlying hsl, goInt]
    · rename_i hd
      cases he
      refine good_val h ?_ rfl
      have hv : a.eval x = .slice none 0 0 := by
        cases c with
        | d d =>
          simp only [dataC, Option.some.injEq] at hd
          subst hd
          exact plain_eq (h.ev hx) rfl
        | own b L => simp only [dataC] at hd; split at hd <;> (try split at hd) <;> simp at hd
        | view b lo n L => simp only [dataC] at hd; split at hd <;> (try split at hd) <;> simp at hd
        | _ => simp [dataC] at hd
      simp [execOp, ho, resolve, invoke, builtin, hv, Builtin.len_, run_underlying hsl, goInt]
    · cases he
  · rename_i n e0 _ _ _ av hi hx
    cases he
    refine good_val h ?_ rfl
    obtain ⟨jj, d, zz, _, hd, _, _, hxx, _⟩ := ti_info hi
    simp only [TI.mk.injEq] at hxx
    cases d <;> simp [tk] at hxx
    obtain ⟨⟨rfl, rfl⟩, _⟩ := hxx
    simp [execOp, ho, resolve, invoke, builtin, Builtin.len_, run_underlying hd, goInt]
  · cases he
end
end
end Go.Proofs.Ytnmpdpijcehofaa.Eng
