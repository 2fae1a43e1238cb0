/-
  Values seen as data: a part of the engine, of no one program. No condition.
-/
import Derived.Test.YtnmpdpijcehofaaE15
namespace Go.Proofs.Ytnmpdpijcehofaa.Eng
set_option linter.all false
noncomputable section
open Go.RowKit

/-! ### Calls -/
def idsC : AC → List Nat
  | .own b _ => [b]
  | .view b _ _ _ => [b]
  | _ => []
def dataL (hp : List (Nat × Ob)) : List AC → Option (List D)
  | [] => some []
  | c :: cs => match dataC hp c, dataL hp cs with
    | some d, some ds => some (d :: ds)
    | _, _ => none
def argX (hp : List (Nat × Ob)) : AV → Option DA
  | .x (.one c) => (dataC hp c).map .one
  | .x (.agg cs) => (dataL hp cs).map .agg
  | .tup _ => none
def idsX : AV → List Nat
  | .x (.one c) => idsC c
  | .x (.agg cs) => cs.flatMap idsC
  | .tup _ => []
def evL (s : St) : List Operand → Option (List AV)
  | [] => some []
  | x :: xs => match evO s x, evL s xs with
    | some v, some vs => some (v :: vs)
    | _, _ => none
def argL (hp : List (Nat × Ob)) : List AV → Option (List DA)
  | [] => some []
  | x :: xs => match argX hp x, argL hp xs with
    | some v, some vs => some (v :: vs)
    | _, _ => none
/-- The rows that are handed on are written no more. -/
def frz (hp : List (Nat × Ob)) : List Nat → List (Nat × Ob)
  | [] => hp
  | b :: bs => match lk hp b with
    | some (.row sz es _) => (b, .row sz es true) :: frz hp bs
    | _ => frz hp bs

def unC (seed : Nat) : RC → AC × List (Nat × Ob) × Nat
  | .c d => (.d d, [], seed)
  | .o sz es => (.own seed es.length, [(seed, .row sz es false)], seed + 1)
def unL (seed : Nat) : List RC → List AC × List (Nat × Ob) × Nat
  | [] => ([], [], seed)
  | c :: cs => ((unC seed c).1 :: (unL (unC seed c).2.2 cs).1, (unL (unC seed c).2.2 cs).2.1 ++ (unC seed c).2.1, (unL (unC seed c).2.2 cs).2.2)
def unX (seed : Nat) : RX → AX × List (Nat × Ob) × Nat
  | .one c => (.one (unC seed c).1, (unC seed c).2.1, (unC seed c).2.2)
  | .agg cs => (.agg (unL seed cs).1, (unL seed cs).2.1, (unL seed cs).2.2)
def unXs (seed : Nat) : List RX → List AX × List (Nat × Ob) × Nat
  | [] => ([], [], seed)
  | c :: cs => ((unX seed c).1 :: (unXs (unX seed c).2.2 cs).1, (unXs (unX seed c).2.2 cs).2.1 ++ (unX seed c).2.1, (unXs (unX seed c).2.2 cs).2.2)
def unV' (seed : Nat) (r : RV) : AV × List (Nat × Ob) × Nat :=
  match r with
  | [x] => (.x (unX seed x).1, (unX seed x).2.1, (unX seed x).2.2)
  | l => (.tup (unXs seed l).1, (unXs seed l).2.1, (unXs seed l).2.2)

/-- No slice among the data: what comes back shares nothing with what was handed on. -/
def DFlat : D → Prop
  | .v _ => True
  | .sl _ es => es = []
def RCFlat : RC → Prop
  | .c d => DFlat d
  | .o _ es => ∀ e ∈ es, ∀ d ∈ e, DFlat d
def RXFlat : RX → Prop
  | .one c => RCFlat c
  | .agg cs => ∀ c ∈ cs, RCFlat c
def Flat (r : RV) : Prop := ∀ x ∈ r, RXFlat x
theorem Shows.flat {S S' : Nat → Prop} {w : World} {x : Value} {d : D} (h : Shows S w x d) (hf : DFlat d) : Shows S' w x d := by
  cases h with
  | v h => exact .v h
  | nil => exact .nil
  | sl f hn hS hc hm hw hr hd =>
    simp only [DFlat] at hf
    subst hf
    exact .sl f hn (by simp) hc hm hw (by simp) (by simp)

section
variable {P : Program} {S0 : Nat → Prop} {w0 : Base} {N : Nat → Prop} {s : St} {a : Act} {w : World} {ι : Nat → Option Nat} {seed : Nat} {o : Oper}

theorem slOf_shows {S S' : Nat → Prop} {w : World} {x : Value} {sz : Nat} {es : List (List D)} (h : SlOf (Shows S w) w x sz es) (hS : ∀ b, S b → S' b) (hx : ∀ ad n cap, x = .slice (some ad) n cap → es ≠ [] → S' ad.block) : Shows S' w x (.sl sz es) := by
  obtain ⟨hw, ⟨rfl, rfl⟩ | ⟨ad, cap, rfl, hc, hm, hk⟩⟩ := h
  · exact .nil
  · have hk' : ∀ k, ∃ y, ∀ c, es.flatten[k]? = some c → w.cell? (ad.add k) = some y ∧ Shows S w y c := fun k => by
      cases hc' : es.flatten[k]? with
      | none => exact ⟨undef, fun c h => by cases h⟩
      | some c => obtain ⟨y, h1, h2⟩ := hk k c hc'; exact ⟨y, fun c' h => by cases h; exact ⟨h1, h2⟩⟩
    refine .sl (fun k => (hk' k).choose) rfl (fun hne => hx _ _ _ rfl hne) hc hm hw (fun k c hkc => ((hk' k).choose_spec c hkc).1) (fun k c hkc => ?_)
    exact Shows.keep hS (fun _ _ => rfl) ((hk' k).choose_spec c hkc).2

def Own (ι : Nat → Option Nat) (hp : List (Nat × Ob)) (b blk : Nat) : Prop := ι b = some blk ∧ ∃ sz es fz, lk hp b = some (.row sz es fz)
/-- What is handed on shows its data; the rows that are handed on may be read. -/
theorem Rel.pass (h : Rel S0 w0 N s a w ι) {x : Value} {c : AC} (hx : RepC (env S0 N s w ι) x c) {d : D} (hd : dataC s.hp c = some d) :
    Shows (fun blk => Tr S0 w ι (lk s.hp) blk ∨ ∃ b ∈ idsC c, Own ι s.hp b blk) w x d := by
  cases c with
  | d c =>
    simp only [dataC, Option.some.injEq] at hd
    subst hd
    exact Shows.keep (fun _ h => .inl h) (fun _ _ => rfl) hx
  | own b L =>
    have hdd := hd
    simp only [dataC] at hd
    split at hd
    · rename_i sz es fz hb
      split at hd
      · rename_i hl
        cases hd
        refine slOf_shows (h.slOf hx hdd) (fun _ h => .inl h) (fun ad n cap hxe hne => .inr ⟨b, by simp [idsC], ?_⟩)
        obtain ⟨_, _, hx⟩ := hx
        obtain ⟨_, hx⟩ := hx _ _ fz hb
        rcases hx hl with ⟨_, hq⟩ | ⟨g, cap', hg, hq, _⟩
        · rw [hxe] at hq; cases hq
        · rw [hxe] at hq; cases hq; exact ⟨hg, _, _, _, hb⟩
      · cases hd
    · cases hd
  | view b lo n L =>
    have hdd := hd
    simp only [dataC] at hd
    split at hd
    · rename_i sz es fz hb
      split at hd
      · rename_i hl
        cases hd
        refine slOf_shows (h.slOf hx hdd) (fun _ h => .inl h) (fun ad n' cap hxe hne => .inr ⟨b, by simp [idsC], ?_⟩)
        obtain ⟨_, _, hx⟩ := hx
        obtain ⟨_, hx⟩ := hx _ _ fz hb
        obtain ⟨A, cap', hq, _, _, _, hA⟩ := hx hl.1
        have hpos : 0 < n := by
          rcases Nat.eq_zero_or_pos n with h0 | h0
          · subst h0; simp at hne
          · exact h0
        obtain ⟨g, hg, rfl⟩ := hA hpos
        rw [hxe] at hq; cases hq; exact ⟨hg, _, _, _, hb⟩
      · cases hd
    · cases hd
  | _ => simp [dataC] at hd
theorem Rel.passL (h : Rel S0 w0 N s a w ι) : ∀ {xs : List Value} {cs : List AC}, All2 (RepC (env S0 N s w ι)) xs cs → ∀ {ds : List D}, dataL s.hp cs = some ds →
    All2 (Shows (fun blk => Tr S0 w ι (lk s.hp) blk ∨ ∃ b ∈ cs.flatMap idsC, Own ι s.hp b blk) w) xs ds := by
  intro xs cs hr
  induction hr with
  | nil => intro ds hd; simp only [dataL, Option.some.injEq] at hd; subst hd; exact .nil
  | @cons x c xs cs hx _ ih =>
    intro ds hd
    simp only [dataL] at hd
    split at hd
    · rename_i d ds' h1 h2
      cases hd
      refine .cons (Shows.keep ?_ (fun _ _ => rfl) (h.pass hx h1)) ((ih h2).mono fun _ _ hs => Shows.keep ?_ (fun _ _ => rfl) hs)
      · rintro blk (hb | ⟨b, hb, hi⟩)
        · exact .inl hb
        · exact .inr ⟨b, by simp [hb], hi⟩
      · rintro blk (hb | ⟨b, hb, hi⟩)
        · exact .inl hb
        · exact .inr ⟨b, List.mem_flatMap.2 (by obtain ⟨c', h3, h4⟩ := List.mem_flatMap.1 hb; exact ⟨c', by simp [h3], h4⟩), hi⟩
    · cases hd
theorem Rel.passX (h : Rel S0 w0 N s a w ι) {x : Value} {v : AV} (hx : RepV (env S0 N s w ι) x v) {d : DA} (hd : argX s.hp v = some d) :
    ShowsA (fun blk => Tr S0 w ι (lk s.hp) blk ∨ ∃ b ∈ idsX v, Own ι s.hp b blk) w x d := by
  cases v with
  | x v => cases v with
    | one c =>
      obtain ⟨d', h1, rfl⟩ := Option.map_eq_some_iff.1 hd
      exact h.pass hx h1
    | agg cs =>
      obtain ⟨d', h1, rfl⟩ := Option.map_eq_some_iff.1 hd
      obtain ⟨arr, rfl, ha⟩ := hx
      exact ⟨arr, rfl, h.passL ha h1⟩
  | tup _ => simp [argX] at hd
theorem ShowsA.keep {S S' : Nat → Prop} {w : World} (hS : ∀ b, S b → S' b) {x : Value} {d : DA} (h : ShowsA S w x d) : ShowsA S' w x d := by
  cases d with
  | one c => exact Shows.keep hS (fun _ _ => rfl) h
  | agg cs => obtain ⟨arr, h1, h2⟩ := h; exact ⟨arr, h1, h2.mono fun _ _ => Shows.keep hS (fun _ _ => rfl)⟩
theorem Rel.passAll (h : Rel S0 w0 N s a w ι) : ∀ {xs : List Operand} {vs : List AV} {ds : List DA}, evL s xs = some vs → argL s.hp vs = some ds →
    All2 (ShowsA (fun blk => Tr S0 w ι (lk s.hp) blk ∨ ∃ b ∈ vs.flatMap idsX, Own ι s.hp b blk) w) (xs.map a.eval) ds
  | [], vs, ds, hv, hd => by
    simp only [evL, Option.some.injEq] at hv
    subst hv
    simp only [argL, Option.some.injEq] at hd
    subst hd
    exact .nil
  | x :: xs, vs, ds, hv, hd => by
    simp only [evL] at hv
    split at hv
    · rename_i v vs' h1 h2
      cases hv
      simp only [argL] at hd
      split at hd
      · rename_i d ds' h3 h4
        cases hd
        refine .cons (ShowsA.keep ?_ (h.passX (h.ev h1) h3)) ((h.passAll h2 h4).mono fun _ _ hs => ShowsA.keep ?_ hs)
        · rintro blk (hb | ⟨b, hb, hi⟩)
          · exact .inl hb
          · exact .inr ⟨b, by simp [hb], hi⟩
        · rintro blk (hb | ⟨b, hb, hi⟩)
          · exact .inl hb
          · exact .inr ⟨b, List.mem_flatMap.2 (by obtain ⟨c', h3, h4⟩ := List.mem_flatMap.1 hb; exact ⟨c', by simp [h3], h4⟩), hi⟩
      · cases hd
    · cases hv

/-- A row is written no more. -/
theorem Rel.freeze1 (h : Rel S0 w0 N s a w ι) {b sz : Nat} {es : List (List D)} {fz : Bool} (hb : lk s.hp b = some (.row sz es fz)) : Rel S0 w0 N { s with hp := (b, .row sz es true) :: s.hp } a w ι := by
  have hs : Step (env S0 N s w ι) (env S0 N { s with hp := (b, .row sz es true) :: s.hp } w ι) := by
    refine ⟨fun k hk => ?_, fun _ _ => rfl, fun _ h => h, fun b1 sz1 es1 fz1 hN hb1 => ?_, fun b1 cs hN hb1 => ?_⟩
    · obtain ⟨h1, h2, h3⟩ := hk
      refine ⟨h1, h2, fun b' o' hb' hm => ?_⟩
      replace hb' : lk ((b, _) :: s.hp) b' = some o' := hb'
      by_cases he : b = b'
      · subst he
        rw [lk_cons, if_pos rfl] at hb'
        cases hb'
        simp [Ob.mut] at hm
      · rw [lk_cons, if_neg he] at hb'
        exact h3 b' o' hb' hm
    · replace hb1 : lk ((b, _) :: s.hp) b1 = some (.row sz1 es1 fz1) := hb1
      by_cases he : b = b1
      · subst he
        rw [lk_cons, if_pos rfl] at hb1
        cases hb1
        exact ⟨sz, es, fz, hb, .inl ⟨.inr rfl, rfl, rfl, fun g _ cur ty hh => ⟨cur, hh, rfl⟩⟩⟩
      · rw [lk_cons, if_neg he] at hb1
        exact ⟨sz1, es1, fz1, hb1, .inl ⟨.inr rfl, rfl, rfl, fun g _ cur ty hh => ⟨cur, hh, rfl⟩⟩⟩
    · replace hb1 : lk ((b, _) :: s.hp) b1 = some (.box cs) := hb1
      by_cases he : b = b1
      · subst he
        rw [lk_cons, if_pos rfl] at hb1
        cases hb1
      · rw [lk_cons, if_neg he] at hb1
        exact ⟨cs, hb1, rfl⟩
  refine h.change (nx' := s.nx) hs h.gr (fun b1 o1 hb1 => ?_) (fun b1 b2 o1 o2 g h1 h2 e1 e2 => ?_)
  · by_cases he : b = b1
    · subst he
      rw [lk_cons, if_pos rfl] at hb1
      cases hb1
      obtain ⟨hN, hr⟩ := h.ob b _ hb
      refine ⟨hN, ?_⟩
      have := RepO.keep hs (B := w0.w.heap.size) (o := .row sz es fz) rfl (fun _ _ => rfl) hr
      unfold RepO at this ⊢
      cases hi : (env S0 N { s with hp := (b, .row sz es true) :: s.hp, nx := s.nx } w ι).ι b with
      | none =>
        have hi' : (env S0 N { s with hp := (b, .row sz es true) :: s.hp } w ι).ι b = none := hi
        rw [hi'] at this
        obtain ⟨sz', fz', e⟩ := this
        cases e
        exact ⟨_, _, rfl⟩
      | some g =>
        have hi' : (env S0 N { s with hp := (b, .row sz es true) :: s.hp } w ι).ι b = some g := hi
        rw [hi'] at this
        exact this
    · rw [lk_cons, if_neg he] at hb1
      obtain ⟨hN, hr⟩ := h.ob b1 o1 hb1
      exact ⟨hN, RepO.keep hs rfl (fun _ _ => rfl) hr⟩
  · have pick : ∀ {x o1}, lk ((b, Ob.row sz es true) :: s.hp) x = some o1 → ∃ o2, lk s.hp x = some o2 := fun {x o1} hx => by
      by_cases he : b = x
      · subst he; exact ⟨_, hb⟩
      · rw [lk_cons, if_neg he] at hx; exact ⟨o1, hx⟩
    obtain ⟨_, k1⟩ := pick h1
    obtain ⟨_, k2⟩ := pick h2
    exact h.inj b1 b2 _ _ g k1 k2 e1 e2
theorem lk_frz (hp : List (Nat × Ob)) (b : Nat) : ∀ ids : List Nat, lk (frz hp ids) b = match lk hp b with
    | some (.row sz es fz) => some (.row sz es (fz || ids.contains b))
    | x => x
  | [] => by
    simp only [frz, List.contains_nil, Bool.or_false]
    cases lk hp b with
    | none => rfl
    | some o => cases o <;> rfl
  | i :: ids => by
    have ih := lk_frz hp b ids
    simp only [frz]
    split
    · rename_i sz es fz hi
      rw [lk_cons]
      by_cases he : i = b
      · subst he
        simp [hi]
      · rw [if_neg he, ih]
        have : (i :: ids).contains b = ids.contains b := by simp [List.contains_cons, Ne.symm he]
        rw [this]
    · rename_i hi
      rw [ih]
      by_cases he : i = b
      · subst he
        cases hh : lk hp i with
        | none => rfl
        | some o => cases o with
          | box _ => rfl
          | row sz es fz => exact absurd hh (hi sz es fz)
      · have : (i :: ids).contains b = ids.contains b := by simp [List.contains_cons, Ne.symm he]
        rw [this]
theorem Rel.frz (h : Rel S0 w0 N s a w ι) : ∀ ids : List Nat, Rel S0 w0 N { s with hp := frz s.hp ids } a w ι
  | [] => h
  | i :: ids => by
    have ih := h.frz ids
    simp only [Eng.frz]
    split
    · rename_i sz es fz hi
      have : lk (Eng.frz s.hp ids) i = some (.row sz es (fz || ids.contains i)) := by rw [lk_frz, hi]
      exact ih.freeze1 this
    · exact ih
theorem dataC_frz (hp : List (Nat × Ob)) (ids : List Nat) (c : AC) : dataC (frz hp ids) c = dataC hp c := by
  cases c with
  | own b L =>
    simp only [dataC, lk_frz]
    cases lk hp b with
    | none => rfl
    | some o => cases o <;> rfl
  | view b lo n L =>
    simp only [dataC, lk_frz]
    cases lk hp b with
    | none => rfl
    | some o => cases o <;> rfl
  | _ => rfl
end
end
end Go.Proofs.Ytnmpdpijcehofaa.Eng
