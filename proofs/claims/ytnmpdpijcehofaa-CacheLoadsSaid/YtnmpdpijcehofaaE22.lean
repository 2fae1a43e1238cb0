/-
  Values seen as data: a part of the engine, of no one program. No condition.
-/
import Derived.Test.YtnmpdpijcehofaaE28
namespace Go.Proofs.Ytnmpdpijcehofaa.Eng
set_option linter.all false
noncomputable section
open Go.RowKit

/-! ### A function -/
def inX : DA → AX
  | .one c => .one (.d c)
  | .agg cs => .agg (cs.map .d)
def startFr : Nat → List DA → List (Nat × AV)
  | _, [] => []
  | k, d :: ds => (k, .x (inX d)) :: startFr (k + 1) ds
def start (ds : List DA) (nt : Nat) : St := { fr := startFr 0 ds, hp := [], nx := 0, nt := nt }

def outC (hp : List (Nat × Ob)) : AC → Option RC
  | .d x => some (.c x)
  | .own b L => match lk hp b with
    | some (.row sz es fz) => if es.length = L then some (if fz then .c (.sl sz es) else .o sz es) else none
    | _ => none
  | _ => none
def outL (hp : List (Nat × Ob)) : List AC → Option (List RC)
  | [] => some []
  | c :: cs => match outC hp c, outL hp cs with
    | some r, some rs => some (r :: rs)
    | _, _ => none
def outX (hp : List (Nat × Ob)) : AX → Option RX
  | .one c => (outC hp c).map .one
  | .agg cs => (outL hp cs).map .agg
def outXs (hp : List (Nat × Ob)) : List AX → Option RV
  | [] => some []
  | x :: xs => match outX hp x, outXs hp xs with
    | some r, some rs => some (r :: rs)
    | _, _ => none
def ownsC : AC → List Nat
  | .own b _ => [b]
  | _ => []
def ownsX : AX → List Nat
  | .one c => ownsC c
  | .agg cs => cs.flatMap ownsC
def resV (P : Program) (s : St) : ResultVar → Option AX
  | .tmp t => match lk s.fr t with
    | some (.x a) => some a
    | _ => none
  | .cell p ty => match lk s.fr p, ti P ty with
    | some (.x (.one c)), some i => match (cellsAt s.hp i.size c).bind (asVal i.k.isAgg) with
      | some (.x a) => some a
      | _ => none
    | _, _ => none
def resVs (P : Program) (s : St) : List ResultVar → Option (List AX)
  | [] => some []
  | r :: rs => match resV P s r, resVs P s rs with
    | some a, some l => some (a :: l)
    | _, _ => none
def laxC (c c' : RC) : Prop := c = c' ∨ (∃ k, c = .o 0 [] ∧ c' = .o k []) ∨ ∃ k, c = .c (.v (.slice none 0 0)) ∧ c' = .o k []
def laxCs : List RC → List RC → Prop
  | [], [] => True
  | c :: cs, c' :: cs' => laxC c c' ∧ laxCs cs cs'
  | _, _ => False
def laxX : RX → RX → Prop
  | .one c, .one c' => laxC c c'
  | .agg cs, .agg cs' => laxCs cs cs'
  | _, _ => False
def laxR : RV → RV → Prop
  | [], [] => True
  | x :: xs, x' :: xs' => laxX x x' ∧ laxR xs xs'
  | _, _ => False
theorem laxCs_rfl : ∀ cs : List RC, laxCs cs cs
  | [] => trivial
  | _ :: cs => ⟨.inl rfl, laxCs_rfl cs⟩
theorem laxX_rfl (x : RX) : laxX x x := by
  cases x with
  | one c => exact .inl rfl
  | agg cs => exact laxCs_rfl cs
theorem laxR_rfl : ∀ r : RV, laxR r r
  | [] => trivial
  | x :: xs => ⟨laxX_rfl x, laxR_rfl xs⟩
/-- The function's end: what it hands back. -/
def retA (P : Program) (res : List ResultVar) (r' : RV) : Exit → St → Prop
  | .normal, s | .ret, s => ∃ l r, resVs P s res = some l ∧ outXs s.hp l = some r ∧ (l.flatMap ownsX).Nodup ∧ laxR r r'
  | _, _ => False

section
variable {P : Program} {U : Nat → Prop} {w0 : Base} {N : Nat → Prop} {s : St} {a : Act} {w : World} {ι : Nat → Option Nat}

/-- The blocks of the rows that are handed back. -/
def blocks (ι : Nat → Option Nat) (ids : List Nat) : List Nat := ids.filterMap ι
theorem blocks_append (ι : Nat → Option Nat) (l m : List Nat) : blocks ι (l ++ m) = blocks ι l ++ blocks ι m := by simp [blocks]
/-- The rows among the parts are our own, and not frozen. -/
def mutOf (hp : List (Nat × Ob)) (b : Nat) : Bool :=
  match lk hp b with
  | some o => o.mut
  | none => false
def liveC (hp : List (Nat × Ob)) (c : AC) : List Nat := (ownsC c).filter (mutOf hp)
def liveX (hp : List (Nat × Ob)) (x : AX) : List Nat := (ownsX x).filter (mutOf hp)
theorem out_c (h : Rel U w0 N s a w ι) (hU : ∀ b, w0.w.heap.size ≤ b → U b) {x : Value} {c : AC} (hx : RepC (env U N s w ι) x c) {r : RC} (hr : outC s.hp c = some r) :
    ShowsC (Tr U w ι (lk s.hp)) w x r (blocks ι (liveC s.hp c)) := by
  cases c with
  | d d =>
    simp only [outC, Option.some.injEq] at hr
    subst hr
    exact .c hx
  | own b L =>
    simp only [outC] at hr
    split at hr
    · rename_i sz es fz hb
      split at hr
      · rename_i hl
        have hsl := h.slOf (c := .own b L) hx (sz := sz) (es := es) (by simp [dataC, hb, hl])
        obtain ⟨_, _, hx⟩ := hx
        obtain ⟨_, hx⟩ := hx sz es fz hb
        cases fz with
        | true =>
          simp only [if_true, Option.some.injEq] at hr
          subst hr
          have hlv : liveC s.hp (.own b L) = [] := by simp [liveC, ownsC, mutOf, hb, Ob.mut]
          rw [hlv]
          refine .c (slOf_shows hsl (fun _ h => h) fun ad n cap hxe hne => ?_)
          rcases hx hl with ⟨_, hq⟩ | ⟨g, cap', hg, hq, _⟩
          · rw [hxe] at hq; cases hq
          · rw [hxe] at hq; cases hq
            have hblk := h.block hb hg
            refine ⟨?_, h.old hb hg, fun b' o' hb' hm hi => ?_⟩
            · exact hU _ hblk.1
            · have := h.inj b b' _ _ g hb hb' hg hi
              subst this
              rw [hb] at hb'; cases hb'
              simp [Ob.mut] at hm
        | false =>
          simp only [Bool.false_eq_true, if_false, Option.some.injEq] at hr
          subst hr
          have hlv : liveC s.hp (.own b L) = [b] := by simp [liveC, ownsC, mutOf, hb, Ob.mut]
          rw [hlv]
          rcases hx hl with ⟨hn, rfl⟩ | ⟨g, cap, hg, rfl, hc, hm, cur, ty, hh, hs⟩
          · have h2 := (h.ob b _ hb).2
            unfold RepO at h2
            have hg' : (env U N s w ι).ι b = none := hn
            rw [hg'] at h2
            obtain ⟨_, _, he⟩ := h2
            cases he
            have : blocks ι [b] = [] := by have hn' : ι b = none := hn; simp [blocks, hn']
            rw [this]
            exact .nil
          · have hg' : ι b = some g := hg
            have : blocks ι [b] = [g] := by simp [blocks, hg']
            rw [this]
            obtain ⟨_, cur', ty', hh', hcc, hsh⟩ := h.block hb hg
            have hcc2 := hh.symm.trans hh'
            simp only [Option.some.injEq, Obj.cells.injEq, and_true] at hcc2
            obtain ⟨rfl, rfl⟩ := hcc2
            refine .o hl.symm ⟨hsh.1, by omega, hm, hsh.2, cur, ty, hh, hs, fun k c hk => ?_⟩
            exact hcc k (.d c) (by show (es.flatten.map AC.d)[k]? = _; rw [List.getElem?_map, hk]; rfl)
      · cases hr
    · cases hr
  | _ => simp [outC] at hr
theorem out_l (h : Rel U w0 N s a w ι) (hU : ∀ b, w0.w.heap.size ≤ b → U b) : ∀ {xs : List Value} {cs : List AC}, All2 (RepC (env U N s w ι)) xs cs → ∀ {rs : List RC}, outL s.hp cs = some rs →
    ShowsL (ShowsC (Tr U w ι (lk s.hp)) w) xs rs (blocks ι (cs.flatMap (liveC s.hp))) := by
  intro xs cs hx
  induction hx with
  | nil => intro rs hr; simp only [outL, Option.some.injEq] at hr; subst hr; exact .nil
  | @cons x c xs cs hc _ ih =>
    intro rs hr
    simp only [outL] at hr
    split at hr
    · rename_i r rs' h1 h2
      cases hr
      rw [List.flatMap_cons, blocks_append]
      exact .cons (out_c h hU hc h1) (ih h2)
    · cases hr
theorem out_x (h : Rel U w0 N s a w ι) (hU : ∀ b, w0.w.heap.size ≤ b → U b) {x : Value} {c : AX} (hx : RepX (env U N s w ι) x c) {r : RX} (hr : outX s.hp c = some r) : ShowsX (Tr U w ι (lk s.hp)) w x r (blocks ι (liveX s.hp c)) := by
  cases c with
  | one c =>
    obtain ⟨r', h1, rfl⟩ := Option.map_eq_some_iff.1 hr
    exact out_c h hU hx h1
  | agg cs =>
    obtain ⟨r', h1, rfl⟩ := Option.map_eq_some_iff.1 hr
    obtain ⟨arr, rfl, ha⟩ := hx
    refine ⟨arr, rfl, ?_⟩
    have := out_l h hU ha h1
    have e : liveX s.hp (.agg cs) = cs.flatMap (liveC s.hp) := by simp only [liveX, ownsX, List.filter_flatMap]; rfl
    rw [e]
    exact this
theorem out_xs (h : Rel U w0 N s a w ι) (hU : ∀ b, w0.w.heap.size ≤ b → U b) : ∀ {xs : List Value} {cs : List AX}, All2 (RepX (env U N s w ι)) xs cs → ∀ {rs : RV}, outXs s.hp cs = some rs →
    ShowsL (ShowsX (Tr U w ι (lk s.hp)) w) xs rs (blocks ι (cs.flatMap (liveX s.hp))) := by
  intro xs cs hx
  induction hx with
  | nil => intro rs hr; simp only [outXs, Option.some.injEq] at hr; subst hr; exact .nil
  | @cons x c xs cs hc _ ih =>
    intro rs hr
    simp only [outXs] at hr
    split at hr
    · rename_i r rs' h1 h2
      cases hr
      rw [List.flatMap_cons, blocks_append]
      exact .cons (out_x h hU hc h1) (ih h2)
    · cases hr
theorem ShowsL.length {β : Type} {R : Value → β → List Nat → Prop} {xs : List Value} {cs : List β} {F : List Nat} (h : ShowsL R xs cs F) : xs.length = cs.length := by
  induction h with
  | nil => rfl
  | cons _ _ ih => simp [ih]
theorem ShowsC.mono {T T' : Nat → Prop} {w : World} (hT : ∀ b, T b → T' b) {x : Value} {c : RC} {F : List Nat} (h : ShowsC T w x c F) : ShowsC T' w x c F := by
  cases h with
  | c h => exact .c (Shows.keep hT (fun _ _ => rfl) h)
  | nil => exact .nil
  | o hn h =>
    refine .o hn ⟨h.pos, h.le, h.max, h.width, ?_⟩
    obtain ⟨cur, ty, h1, h2, h3⟩ := h.cells
    refine ⟨cur, ty, h1, h2, fun k c hk => ?_⟩
    obtain ⟨y, hy, hs⟩ := h3 k c hk
    exact ⟨y, hy, Shows.keep hT (fun _ _ => rfl) hs⟩
theorem ShowsX.mono {T T' : Nat → Prop} {w : World} (hT : ∀ b, T b → T' b) {x : Value} {c : RX} {F : List Nat} (h : ShowsX T w x c F) : ShowsX T' w x c F := by
  cases c with
  | one c => exact ShowsC.mono hT h
  | agg cs => obtain ⟨arr, h1, h2⟩ := h; exact ⟨arr, h1, h2.mono fun x c F hc hs => ShowsC.mono hT hs⟩

theorem blocks_mem {ι : Nat → Option Nat} {ids : List Nat} {g : Nat} (h : g ∈ blocks ι ids) : ∃ b ∈ ids, ι b = some g := by
  simpa [blocks] using h
theorem blocks_nodup (h : Rel U w0 N s a w ι) : ∀ {ids : List Nat}, ids.Nodup → (∀ b ∈ ids, ∃ o, lk s.hp b = some o) → (blocks ι ids).Nodup
  | [], _, _ => List.nodup_nil
  | b :: ids, hnd, hl => by
    obtain ⟨h1, h2⟩ := List.nodup_cons.1 hnd
    have ih := blocks_nodup h h2 fun b' hb => hl b' (by simp [hb])
    cases hi : ι b with
    | none => have : blocks ι (b :: ids) = blocks ι ids := by simp [blocks, hi]
              rw [this]; exact ih
    | some g =>
      have : blocks ι (b :: ids) = g :: blocks ι ids := by simp [blocks, hi]
      rw [this]
      refine List.nodup_cons.2 ⟨fun hg => ?_, ih⟩
      obtain ⟨b', hb', hi'⟩ := blocks_mem hg
      obtain ⟨o, ho⟩ := hl b (by simp)
      obtain ⟨o', ho'⟩ := hl b' (by simp [hb'])
      exact h1 (h.inj b b' o o' g ho ho' hi hi' ▸ hb')

def resM (tmps : Array Value) : ResultVar → Sem Value
  | .tmp t => pure (tmps.getD t undef)
  | .cell a t => do loadVar t (← asAddr (tmps.getD a undef))
theorem results_eq (fn : Func) (tmps : Array Value) : results fn tmps = (do let vs ← fn.results.mapM (resM tmps); pure (if h : vs.size = 1 then vs[0] else .tuple vs)) := by
  unfold results
  congr 1
theorem res_run (h : Rel U w0 N s a w ι) : ∀ {rs : List ResultVar} {l : List AX}, resVs P s rs = some l → ∃ vs : List Value, (rs.mapM (resM a.tmps)).run P w = .ok vs w ∧ All2 (RepX (env U N s w ι)) vs l
  | [], l, hr => by
    simp only [resVs, Option.some.injEq] at hr
    subst hr
    exact ⟨[], by simp, .nil⟩
  | r :: rs, l, hr => by
    simp only [resVs] at hr
    split at hr
    · rename_i x l' h1 h2
      cases hr
      obtain ⟨vs, hv, hvs⟩ := res_run h h2
      have hone : ∃ v, (resM a.tmps r).run P w = .ok v w ∧ RepX (env U N s w ι) v x := by
        cases r with
        | tmp t =>
          simp only [resV] at h1
          split at h1
          · rename_i x' hl
            cases h1
            obtain ⟨v, hv1, hv2⟩ := h.fr t _ hl
            exact ⟨v, by simp [resM, hv1], hv2⟩
          · cases h1
        | cell p ty =>
          simp only [resV] at h1
          split at h1
          · rename_i c i hl hi
            split at h1
            · rename_i x' hb
              cases h1
              obtain ⟨cs, hc, hv'⟩ := Option.bind_eq_some_iff.1 hb
              obtain ⟨v, hv1, hv2⟩ := h.fr p _ hl
              obtain ⟨ad, ys, hp, hlen, hcell, hrr⟩ := h.cellsAt hv2 hc
              obtain ⟨g1, g2⟩ := asVal_rep hrr hv'
              refine ⟨_, ?_, g2⟩
              subst hp
              have hg : a.tmps.getD p undef = .pointer (some ad) := by simp [hv1]
              simp only [resM, hg, asAddr, Sem.run_bind, Sem.run_pure, Result.andThen_ok, run_loadVar hi w ad ys hlen hcell g1]
            · cases h1
          · cases h1
      obtain ⟨v, hv1, hv2⟩ := hone
      refine ⟨v :: vs, ?_, .cons hv2 hvs⟩
      rw [List.mapM_cons]
      simp only [Sem.run_bind, hv1, Result.andThen_ok, hv, Sem.run_pure]
    · cases hr
theorem start_rel {S : Nat → Prop} {w : World} {args : Array Value} {ds : List DA} (hS : ∀ b, S b → b < w.heap.size) (ha : All2 (ShowsA S w) args.toList ds) {nt : Nat} (hnt : args.size ≤ nt) :
    RS (fun b => S b ∨ w.heap.size ≤ b) ⟨w, botE w⟩ (start ds nt) { tmps := args ++ Array.replicate (nt - args.size) undef, defers := [] } w := by
  refine ⟨fun _ => none, fun t x ht => ?_, fun b o hb => (by cases hb), fun b b' o o' g hb => (by cases hb), Gr.refl w, (by simp [start]; omega), rfl, Step.bot⟩
  have key : ∀ {k : Nat} {xs : List Value} {ds : List DA}, All2 (ShowsA S w) xs ds → ∀ {t : Nat} {x : AV}, lk (startFr k ds) t = some x → ∃ v, k ≤ t ∧ xs[t - k]? = some v ∧ RepV (env (fun b => S b ∨ w.heap.size ≤ b) (Lt 0) (start ds nt) w (fun _ => none)) v x := by
    intro k xs ds hx
    induction hx generalizing k with
    | nil => intro t x ht; cases ht
    | @cons y d ys ds' hd _ ih =>
      intro t x ht
      simp only [startFr, lk_cons] at ht
      split at ht
      · rename_i hk
        subst hk
        cases ht
        refine ⟨y, Nat.le_refl _, by simp, ?_⟩
        have hT : ∀ b, S b → Tr (fun b => S b ∨ w.heap.size ≤ b) w (fun _ => none) (lk (start (d :: ds') nt).hp) b := fun b hb => ⟨.inl hb, hS b hb, fun b' o' hb' => by cases hb'⟩
        cases d with
        | one c => exact Shows.keep hT (fun _ _ => rfl) hd
        | agg cs =>
          obtain ⟨arr, rfl, ha⟩ := hd
          exact ⟨arr, rfl, All2.map_right (ha.mono fun _ _ hs => Shows.keep hT (fun _ _ => rfl) hs)⟩
      · obtain ⟨v, h1, h2, h3⟩ := ih ht
        refine ⟨v, by omega, ?_, h3⟩
        have : t - k = (t - (k + 1)) + 1 := by omega
        rw [this]; simpa using h2
  obtain ⟨v, _, h2, h3⟩ := key ha ht
  refine ⟨v, ?_, h3⟩
  have hlt : t < args.size := by
    have := (List.getElem?_eq_some_iff.1 h2).1
    simpa using this
  rw [Array.getElem?_append_left hlt]
  simpa using h2
theorem laxC.shows {T : Nat → Prop} {w : World} {x : Value} {c c' : RC} {F : List Nat} (h : laxC c c') (hx : ShowsC T w x c F) : ShowsC T w x c' F := by
  rcases h with rfl | ⟨k, rfl, rfl⟩ | ⟨k, rfl, rfl⟩
  · exact hx
  · cases hx with
    | nil => exact .nil
    | o hn h => exact absurd h.pos (by omega)
  · cases hx with
    | c h => cases h with
      | v h => exact .nil
theorem laxCs.shows {T : Nat → Prop} {w : World} {xs : List Value} {cs : List RC} {F : List Nat} (hx : ShowsL (ShowsC T w) xs cs F) : ∀ {cs' : List RC}, laxCs cs cs' → ShowsL (ShowsC T w) xs cs' F := by
  induction hx with
  | nil => intro cs' h; cases cs' with
    | nil => exact .nil
    | cons _ _ => exact h.elim
  | cons hc _ ih => intro cs' h; cases cs' with
    | nil => exact h.elim
    | cons _ _ => exact .cons (h.1.shows hc) (ih h.2)
theorem laxX.shows {T : Nat → Prop} {w : World} {x : Value} {c c' : RX} {F : List Nat} (h : laxX c c') (hx : ShowsX T w x c F) : ShowsX T w x c' F := by
  cases c <;> cases c' <;> simp only [laxX] at h
  · exact laxC.shows h hx
  · obtain ⟨arr, h1, h2⟩ := hx; exact ⟨arr, h1, laxCs.shows h2 h⟩
theorem laxR.shows {T : Nat → Prop} {w : World} {xs : List Value} {cs : List RX} {F : List Nat} (hx : ShowsL (ShowsX T w) xs cs F) : ∀ {cs' : List RX}, laxR cs cs' → ShowsL (ShowsX T w) xs cs' F := by
  induction hx with
  | nil => intro cs' h; cases cs' with
    | nil => exact .nil
    | cons _ _ => exact h.elim
  | cons hc _ ih => intro cs' h; cases cs' with
    | nil => exact h.elim
    | cons _ _ => exact .cons (h.1.shows hc) (ih h.2)
/-- What is handed back: the value that the results make up. -/
def resVal (vs : List Value) : Value := if h : vs.toArray.size = 1 then vs.toArray[0] else .tuple vs.toArray
theorem out_post {S : Nat → Prop} {w w' : World} {s : St} {a : Act} {l : List AX} {r' r : RV} {E0 : Env} {N : Nat → Prop} {ι : Nat → Option Nat} {vs : List Value} (hr : Rel (fun b => S b ∨ w.heap.size ≤ b) ⟨w, E0⟩ N s a w' ι)
    (hvs : All2 (RepX (env (fun b => S b ∨ w.heap.size ≤ b) N s w' ι)) vs l) (h2 : outXs s.hp l = some r') (h3 : (l.flatMap ownsX).Nodup) (hlax : laxR r' r) :
    ∃ F, ShowsV (fun b => (S b ∨ w.heap.size ≤ b) ∧ b < w'.heap.size ∧ b ∉ F) w' (resVal vs) r F ∧ Gr w w' ∧ F.Nodup ∧ ∀ g ∈ F, w.heap.size ≤ g ∧ g < w'.heap.size := by
  have hsh := laxR.shows (out_xs hr (fun b hb => .inr hb) hvs h2) hlax
  have hlive : l.flatMap (liveX s.hp) = (l.flatMap ownsX).filter (mutOf s.hp) := by simp only [List.filter_flatMap]; rfl
  have hmem : ∀ b ∈ l.flatMap (liveX s.hp), ∃ o, lk s.hp b = some o ∧ o.mut = true := fun b hb => by
    rw [hlive] at hb
    have := (List.mem_filter.1 hb).2
    unfold mutOf at this
    split at this
    · rename_i o ho; exact ⟨o, ho, this⟩
    · cases this
  have hnd : (blocks ι (l.flatMap (liveX s.hp))).Nodup := by
    refine blocks_nodup hr ?_ fun b hb => ?_
    · rw [hlive]; exact List.Pairwise.filter _ h3
    · obtain ⟨o, ho, _⟩ := hmem b hb; exact ⟨o, ho⟩
  have hT : ∀ b, Tr (fun b => S b ∨ w.heap.size ≤ b) w' ι (lk s.hp) b → ((S b ∨ w.heap.size ≤ b) ∧ b < w'.heap.size ∧ b ∉ blocks ι (l.flatMap (liveX s.hp))) := fun b ⟨q1, q2, q3⟩ => ⟨q1, q2, fun hb => by
    obtain ⟨i, hi, hii⟩ := blocks_mem hb
    obtain ⟨o, ho, hmu⟩ := hmem i hi
    exact q3 i o ho hmu hii⟩
  have hsh' := hsh.mono (R' := ShowsX (fun b => (S b ∨ w.heap.size ≤ b) ∧ b < w'.heap.size ∧ b ∉ blocks ι (l.flatMap (liveX s.hp))) w') fun x c F _ hs => ShowsX.mono hT hs
  refine ⟨blocks ι (l.flatMap (liveX s.hp)), ?_, hr.gr, hnd, fun g hg => ?_⟩
  · match vs, r, hsh' with
    | [], [], hs => exact ⟨#[], rfl, hs⟩
    | [v], [y], hs =>
      generalize blocks ι (l.flatMap (liveX s.hp)) = F at hs ⊢
      cases hs with
      | @cons _ _ F1 _ _ F2 hx ht =>
        cases ht
        rw [List.append_nil] at hx ⊢
        exact hx
    | [v], y1 :: y2 :: ys, hs => exact absurd hs.length (by simp)
    | v1 :: v2 :: vs1, [y], hs => exact absurd hs.length (by simp)
    | v :: u :: vs, y :: z :: ys, hs => exact ⟨(v :: u :: vs).toArray, by simp [resVal], hs⟩
  · obtain ⟨b, hb, hi⟩ := blocks_mem hg
    obtain ⟨o, ho, _⟩ := hmem b hb
    exact ⟨(hr.block ho hi).1, hr.old ho hi⟩
/-- What is handed back, at the function's end. -/
theorem ret_post {fn : Func} {S : Nat → Prop} {w w' : World} {s : St} {a : Act} {l : List AX} {r' r : RV} {E0 : Env} (hr : RS (fun b => S b ∨ w.heap.size ≤ b) ⟨w, E0⟩ s a w') (h1 : resVs P s fn.results.toList = some l) (h2 : outXs s.hp l = some r') (h3 : (l.flatMap ownsX).Nodup) (hlax : laxR r' r) :
    bodyPost P fn (fun e w' => ∃ v F, e = .returned v ∧ ShowsV (fun b => (S b ∨ w.heap.size ≤ b) ∧ b < w'.heap.size ∧ b ∉ F) w' v r F ∧ Gr w w' ∧ F.Nodup ∧ ∀ g ∈ F, w.heap.size ≤ g ∧ g < w'.heap.size) .ret a w' := by
  obtain ⟨ι, hr⟩ := hr
  obtain ⟨vs, hv, hvs⟩ := res_run hr h1
  obtain ⟨F, h4⟩ := out_post hr hvs h2 h3 hlax
  have hrun : (results fn a.tmps).run P w' = .ok (resVal vs) w' := by
    rw [results_eq, Array.mapM_eq_mapM_toList]
    simp only [Sem.run_bind, Sem.run_map, hv, Result.andThen_ok, Sem.run_pure]
    rfl
  exact ⟨hr.df, _, hrun, _, F, rfl, h4⟩
/-- A FUNCTION'S CONTRACT, OUT OF ITS CODE. -/
theorem con_of_awp (hm : P.follows .mixedOrders = true) {f : FuncId} {fn : Func} {sc : SC} {ds : List DA} {r : RV} (hf : P.funcs[f]? = some fn) (hsc : fn.body.bind slim = some sc) (hname : (fn.name == "runtime.NumGoroutine") = false)
    (hnt : (ds.length ≤ fn.ntmps)) {res : List ResultVar} (hres : fn.results.toList = res) {nt : Nat} (hntm : fn.ntmps = nt) (h : Awp True P sc (retA P res r) (start ds nt)) : Con P f ds r := by
  subst hres hntm
  obtain ⟨c, hb, hslim⟩ := Option.bind_eq_some_iff.1 hsc
  refine ⟨⟨fn, hf, hname, by rw [hb]; rfl⟩, fun S w args hS ha => ?_⟩
  have hlen : args.size ≤ fn.ntmps := by have := ha.length; simp at this; omega
  refine calls_of_wp hf hb (awp_sound (fun _ _ => Step.bot) hm (U := fun b => S b ∨ w.heap.size ≤ b) (w0 := ⟨w, botE w⟩) (fun b hb => .inr hb) h c hslim _ _ w (fun e s a w' hq hr => ?_) (start_rel hS ha hlen))
  have fin : (∃ l r', resVs P s fn.results.toList = some l ∧ outXs s.hp l = some r' ∧ (l.flatMap ownsX).Nodup ∧ laxR r' r) → bodyPost P fn (fun e w' => ∃ v F, e = .returned v ∧ ShowsV (fun b => (S b ∨ w.heap.size ≤ b) ∧ b < w'.heap.size ∧ b ∉ F) w' v r F ∧ Gr w w' ∧ F.Nodup ∧ ∀ g ∈ F, w.heap.size ≤ g ∧ g < w'.heap.size) .ret a w' := by
    rintro ⟨l, r', h1, h2, h3, hlax⟩
    exact ret_post hr h1 h2 h3 hlax
  cases e with
  | normal => exact fin hq
  | ret => exact fin hq
  | _ => exact hq.elim
end
end
end Go.Proofs.Ytnmpdpijcehofaa.Eng
