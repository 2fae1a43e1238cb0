/-
  Values seen as data: a part of the engine, of no one program. No condition.
-/
import Derived.Test.YtnmpdpijcehofaaE11
namespace Go.Proofs.Ytnmpdpijcehofaa.Eng
set_option linter.all false
noncomputable section
open Go.RowKit

section
variable {P : Program} {S0 : Nat → Prop} {w0 : Base} {N : Nat → Prop} {s : St} {a : Act} {w : World} {ι : Nat → Option Nat} {seed : Nat} {o : Oper}

theorem gr_setRow {w : World} {g : Nat} {cur cur' : Array Value} {ty : TypeId} (hw : w.heap[g]? = some (.cells cur ty (0, 0))) (w0 : Base) (hg : w0.w.heap.size ≤ g) (h : Gr w0.w w) : Gr w0.w (w.setRow g cur') :=
  ⟨⟨h.below.os, h.below.tape, h.below.output, by simp; exact h.below.size, fun k hk => (setRow_other w g k cur' (by omega)).trans (h.below.block k hk)⟩, fun ad => by
    refine Eq.trans ?_ (h.marks ad)
    unfold World.frozen?
    by_cases he : ad.block = g
    · rw [he, setRow_heap w g cur cur' ty (0, 0) hw, hw]
    · rw [setRow_other w g ad.block cur' he]⟩

/-- Cells are written through a pointer. -/
def putAt (hp : List (Nat × Ob)) (new : List AC) : AC → Option (Nat × Ob)
  | .ptr b off => match lk hp b with
    | some (.box cs) => if off + new.length ≤ cs.length then some (b, .box (spl cs off new)) else none
    | _ => none
  | .eptr b i off L => match lk hp b, allD new with
    | some (.row sz es false), some nd => if es.length = L ∧ i < L ∧ off + nd.length ≤ sz ∧ (es.getD i []).length = sz then some (b, .row sz (es.set i (spl (es.getD i []) off nd)) false) else none
    | _, _ => none
  | _ => none
theorem Rel.putAt (h : Rel S0 w0 N s a w ι) {x : Value} {c : AC} (hx : RepC (env S0 N s w ι) x c) {new : List AC} {vs : List Value} (hv : All2 (RepC (env S0 N s w ι)) vs new) {b : Nat} {ob : Ob} (hp : putAt s.hp new c = some (b, ob)) :
    ∃ ad w', x = .pointer (some ad) ∧ (storeCells ad vs).run P w = .ok () w' ∧ Rel S0 w0 N { s with hp := (b, ob) :: s.hp } a w' ι := by
  have hone : ∀ v ∈ vs, v.oneCell' = true := by
    have key : ∀ {xs : List Value} {cs : List AC}, All2 (RepC (env S0 N s w ι)) xs cs → ∀ v ∈ xs, v.oneCell' = true := fun {xs cs} h => by
      induction h with
      | nil => simp
      | cons h _ ih => intro v hv; rcases List.mem_cons.1 hv with rfl | hv; exact h.one; exact ih v hv
    exact key hv
  have hlen := hv.length
  cases c with
  | ptr b' off =>
    simp only [Eng.putAt] at hp
    split at hp
    · rename_i l hb
      split at hp
      · rename_i hle
        simp only [Option.some.injEq, Prod.mk.injEq] at hp
        obtain ⟨rfl, rfl⟩ := hp
        obtain ⟨_, _, hx⟩ := hx
        obtain ⟨g, hg, rfl⟩ := hx l hb
        obtain ⟨hge, cur, ty, hh, hcc, hsh⟩ := h.block hb hg
        have hsz : cur.size = l.length := hsh
        have hst := run_storeCells_at P g off ty vs 0 cur w hh (by omega) hone
        simp only [Nat.add_zero] at hst
        refine ⟨_, _, rfl, hst, ?_⟩
        have hcl : cur.toList.length = l.length := by simpa using hsz
        refine h.rewrite hb hg rfl hh (setRow_heap w g cur _ ty (0, 0) hh) ?_ (fun k hk => setRow_other w g k _ hk) (by simp) (gr_setRow hh w0 hge h.gr) rfl ?_ ?_
        · have := spl_len (l := cur.toList) (m := vs) (o := off) (by omega)
          simp only [spl, Array.length_toList] at this
          simpa using this
        · intro k c hk
          simp only [Ob.cells] at hk
          rw [spl_get (by omega)] at hk
          have hsp := spl_get (l := cur.toList) (m := vs) (o := off) (by omega) k
          have hgoal : ((cur.toList.take off ++ vs ++ cur.toList.drop (off + vs.length)).toArray)[k]? = (spl cur.toList off vs)[k]? := by simp [spl]
          rw [hgoal, hsp]
          split at hk
          · rename_i h1
            rw [if_pos h1]
            obtain ⟨y, hy, hr⟩ := hcc k c hk
            exact ⟨y, by simpa using hy, hr⟩
          · rename_i h1
            rw [if_neg h1]
            rw [← hlen] at hk
            split at hk
            · rename_i h2
              rw [if_pos h2]
              obtain ⟨y, hy, hr⟩ := hv.get hk
              exact ⟨y, hy, hr⟩
            · rename_i h2
              rw [if_neg h2]
              obtain ⟨y, hy, hr⟩ := hcc k c hk
              exact ⟨y, by simpa using hy, hr⟩
        · exact spl_len (by omega)
      · cases hp
    · cases hp
  | eptr b' i off L =>
    simp only [Eng.putAt] at hp
    split at hp
    · rename_i sz es nd hb hnd
      split at hp
      · rename_i hle
        obtain ⟨hl, hi, hle, hel⟩ := hle
        simp only [Option.some.injEq, Prod.mk.injEq] at hp
        obtain ⟨rfl, rfl⟩ := hp
        obtain rfl := allD_eq hnd
        obtain ⟨_, _, hx⟩ := hx
        obtain ⟨_, hx⟩ := hx sz es false hb
        obtain ⟨g, hg, rfl⟩ := hx hl hi
        obtain ⟨hge, cur, ty, hh, hcc, hsh⟩ := h.block hb hg
        replace hsh : ∀ e ∈ es, e.length = sz := hsh.2
        rw [List.length_map] at hlen
        have hil : i < es.length := by omega
        have hflat : (es.set i (spl (es.getD i []) off nd)).flatten = spl es.flatten (i * sz + off) nd := by
          have hsl : (spl (es.getD i []) off nd).length = sz := by rw [spl_len (by omega)]; exact hel
          rw [flat_set hsh hil hsl]
          apply List.ext_getElem?
          intro k
          have hfl := flat_len hsh
          have hmul : i * sz + sz ≤ es.length * sz := by have := Nat.mul_le_mul_right sz (show i + 1 ≤ es.length by omega); rw [Nat.add_mul] at this; omega
          have hA := spl_get (l := es.flatten) (m := spl (es.getD i []) off nd) (o := i * sz) (by rw [hsl]; omega) k
          have hB := spl_get (l := es.flatten) (m := nd) (o := i * sz + off) (by omega) k
          rw [hA, hB, hsl]
          by_cases h1 : k < i * sz
          · rw [if_pos h1, if_pos (by omega)]
          · rw [if_neg h1]
            by_cases h2 : k < i * sz + sz
            · rw [if_pos h2, spl_get (by omega)]
              have hget : ∀ q, q < sz → es.flatten[i * sz + q]? = (es.getD i [])[q]? := fun q hq => by
                rw [List.getElem?_eq_getElem (show q < (es.getD i []).length by omega)]
                exact flat_get hsh (getD_some hil) (List.getElem?_eq_getElem _)
              have hk2 := hget (k - i * sz) (by omega)
              rw [show i * sz + (k - i * sz) = k by omega] at hk2
              by_cases h3 : k - i * sz < off
              · rw [if_pos h3, if_pos (show k < i * sz + off by omega), hk2]
              · rw [if_neg h3, if_neg (show ¬ k < i * sz + off by omega)]
                by_cases h4 : k - i * sz < off + nd.length
                · rw [if_pos h4, if_pos (show k < i * sz + off + nd.length by omega)]; congr 1; omega
                · rw [if_neg h4, if_neg (show ¬ k < i * sz + off + nd.length by omega), hk2]
            · rw [if_neg h2, if_neg (show ¬ k < i * sz + off by omega), if_neg (show ¬ k < i * sz + off + nd.length by omega)]
        have hcsz : i * sz + off + vs.length ≤ cur.size := by
          have hmul : i * sz + sz ≤ es.length * sz := by have := Nat.mul_le_mul_right sz (show i + 1 ≤ es.length by omega); rw [Nat.add_mul] at this; omega
          have hfl := flat_len hsh
          by_cases h0 : es.flatten.length = 0
          · have : sz = 0 := by
              rcases Nat.eq_zero_or_pos sz with h' | h'
              · exact h'
              · have := Nat.mul_pos (show 0 < es.length by omega) h'; omega
            omega
          · obtain ⟨y, hy, _⟩ := hcc (es.flatten.length - 1) (.d es.flatten[es.flatten.length - 1]) (by
              show (es.flatten.map AC.d)[_]? = _
              rw [List.getElem?_map, List.getElem?_eq_getElem (by omega)]; rfl)
            have := (Array.getElem?_eq_some_iff.1 hy).1
            omega
        have hst := run_storeCells_at P g (i * sz + off) ty vs 0 cur w hh (by omega) hone
        simp only [Nat.add_zero] at hst
        refine ⟨_, _, rfl, hst, ?_⟩
        refine h.rewrite hb hg rfl hh (setRow_heap w g cur _ ty (0, 0) hh) ?_ (fun k hk => setRow_other w g k _ hk) (by simp) (gr_setRow hh w0 hge h.gr) rfl ?_ ?_
        · have := spl_len (l := cur.toList) (m := vs) (o := i * sz + off) (by simpa using hcsz)
          simp only [spl, Array.length_toList] at this
          simpa using this
        · intro k c hk
          have hk' : ((es.set i (spl (es.getD i []) off nd)).flatten.map AC.d)[k]? = some c := hk
          rw [hflat, List.getElem?_map] at hk'
          obtain ⟨d, hd, rfl⟩ := Option.map_eq_some_iff.1 hk'
          have hfit : i * sz + off + nd.length ≤ es.flatten.length := by
            have hmul : i * sz + sz ≤ es.length * sz := by have := Nat.mul_le_mul_right sz (show i + 1 ≤ es.length by omega); rw [Nat.add_mul] at this; omega
            have hfl := flat_len hsh
            omega
          rw [spl_get hfit] at hd
          have hsp := spl_get (l := cur.toList) (m := vs) (o := i * sz + off) (by simpa using hcsz) k
          have hgoal : ((cur.toList.take (i * sz + off) ++ vs ++ cur.toList.drop (i * sz + off + vs.length)).toArray)[k]? = (spl cur.toList (i * sz + off) vs)[k]? := by simp [spl]
          rw [hgoal, hsp, hlen]
          have hold : ∀ {d}, es.flatten[k]? = some d → ∃ y, cur[k]? = some y ∧ RepC (env S0 N s w ι) y (.d d) := fun {d} hd => hcc k (.d d) (by show (es.flatten.map AC.d)[k]? = _; rw [List.getElem?_map, hd]; rfl)
          split at hd
          · rename_i h1
            rw [if_pos h1]
            obtain ⟨y, hy, hr⟩ := hold hd
            exact ⟨y, by simpa using hy, hr⟩
          · rename_i h1
            rw [if_neg h1]
            split at hd
            · rename_i h2
              rw [if_pos h2]
              obtain ⟨y, hy, hr⟩ := hv.get (k := k - (i * sz + off)) (b := .d d) (by rw [List.getElem?_map, hd]; rfl)
              exact ⟨y, hy, hr⟩
            · rename_i h2
              rw [if_neg h2]
              obtain ⟨y, hy, hr⟩ := hold hd
              exact ⟨y, by simpa using hy, hr⟩
        · refine ⟨rfl, by simp, fun e he => ?_⟩
          rcases List.mem_or_eq_of_mem_set he with h' | rfl
          · exact hsh e h'
          · rw [spl_len (by omega)]; exact hel
      · cases hp
    · cases hp
  | _ => simp [Eng.putAt] at hp

def isNil : Operand → Bool
  | .const (.slice none 0 0) => true
  | _ => false
theorem isNil_eq {x : Operand} (h : isNil x = true) : x = .const (.slice none 0 0) := by
  cases x with
  | const v =>
    cases v with
    | slice p n c => cases p <;> cases n <;> cases c <;> first | rfl | simp [isNil] at h
    | _ => simp [isNil] at h
  | _ => simp [isNil] at h
theorem nil_rep {E : Env} {b : Nat} {sz : Nat} {fz : Bool} (hN : E.N b) (hi : E.ι b = none) (hH : E.H b = some (.row sz [] fz)) : RepC E nilS (.own b 0) :=
  ⟨hN, rfl, fun sz1 es1 fz1 hb => by
    have := hH.symm.trans hb
    cases this
    exact ⟨Nat.le_refl _, fun _ => .inl ⟨hi, rfl⟩⟩⟩
theorem good_nil (h : Rel S0 w0 N s a w ι) (hid : ∀ k, k < 1 → ¬ N (seed + k)) {x : Operand} (ho : o.op = .assign x) (hx : isNil x = true) :
    Good P S0 w0 N s a w seed o { val := some (one (.own seed 0)), ups := [(seed, .row 0 [] false)], cnt := 1 } := by
  obtain rfl := isNil_eq hx
  have h1 := h.virt (id := seed) (nx' := seed + 1) (by simpa using hid 0 (by omega)) 0 false
  have hN : ∀ b, With N seed b → Plus N seed 1 b := fun b hb => hb.imp id (fun e => by omega)
  refine ⟨nilS, w, _, .inl ?_, h1.weakN (nx' := seed + 1) hN, fun y hy => ?_⟩
  · simp [execOp, ho, Act.eval, nilS]
  · cases hy
    refine nil_rep (.inr ⟨Nat.le_refl _, by show seed < seed + 1; omega⟩) (upd_same _ _ _) (sz := 0) (fz := false) ?_
    simp [env, lk_nil, lk_cons]

def store1 (P : Program) (s : St) (seed : Nat) (t : TypeId) (x y : Operand) : Option Eff :=
  match evO s x, ti P t with
  | some (.x (.one c)), some i =>
    if isNil y then
      if i.size = 1 then (putAt ((seed, .row 0 [] false) :: s.hp) [.own seed 0] c).map fun u => { val := none, ups := [u, (seed, .row 0 [] false)], cnt := 1 } else none
    else match (evO s y).bind cellsOf with
      | some new => if new.length = i.size then (putAt s.hp new c).map fun u => { val := none, ups := [u] } else none
      | none => none
  | _, _ => none
theorem good_store (h : Rel S0 w0 N s a w ι) (hid : ∀ k, k < 1 → ¬ N (seed + k)) {t : TypeId} {x y : Operand} {e : Eff} (ho : o.op = .store t x y) (he : store1 P s seed t x y = some e) : Good P S0 w0 N s a w seed o e := by
  unfold store1 at he
  split at he
  · rename_i c i hx hi
    split at he
    · rename_i hn
      obtain rfl := isNil_eq hn
      split at he
      · rename_i hsz
        obtain ⟨⟨b, ob⟩, hu, rfl⟩ := Option.map_eq_some_iff.1 he
        have h1 := h.virt (id := seed) (nx' := seed + 1) (by simpa using hid 0 (by omega)) 0 false
        have hN : ∀ b, With N seed b → Plus N seed 1 b := fun b hb => hb.imp id (fun e => by omega)
        have h2 := h1.weakN (nx' := seed + 1) hN
        have hxr : RepV (env S0 (Plus N seed 1) { s with hp := (seed, .row 0 [] false) :: s.hp, nx := seed + 1 } w (upd ι seed none)) (a.eval x) (.x (.one c)) := by
          refine h2.ev (o := x) ?_
          cases x <;> exact hx
        have hnr : RepC (env S0 (Plus N seed 1) { s with hp := (seed, .row 0 [] false) :: s.hp, nx := seed + 1 } w (upd ι seed none)) nilS (.own seed 0) := by
          refine nil_rep (.inr ⟨Nat.le_refl _, by show seed < seed + 1; omega⟩) (upd_same _ _ _) (sz := 0) (fz := false) ?_
          simp [env, lk_nil, lk_cons]
        obtain ⟨ad, w', hp, hst, hr⟩ := h2.putAt hxr (.cons hnr .nil) hu
        refine ⟨undef, w', _, .inr ⟨rfl, ?_⟩, hr, fun y hy => by cases hy⟩
        have hp' : a.eval x = .pointer (some ad) := hp
        have he' : a.eval (.const (.slice none 0 0)) = nilS := rfl
        have hc' : nilS.cells = #[nilS] := rfl
        have hst' : (storeCells ad [nilS]).run P w = .ok () w' := hst
        simp only [execOp, ho, hp', he', Instr.storeAt, Instr.sureAddr, storeVar, Sem.run_bind, Sem.run_pure, Result.andThen_ok, ti_size hi, hsz, hc']
        simp [hst']
      · cases he
    · split at he
      · rename_i new hnew
        split at he
        · rename_i hsz
          obtain ⟨⟨b, ob⟩, hu, rfl⟩ := Option.map_eq_some_iff.1 he
          obtain ⟨v, hv, hcv⟩ := Option.bind_eq_some_iff.1 hnew
          obtain ⟨h1, _⟩ := cellsOf_rep (h.ev hv) hcv
          obtain ⟨ad, w', hp, hst, hr⟩ := h.putAt (h.ev hx) h1 hu
          refine ⟨undef, w', ι, .inr ⟨rfl, ?_⟩, hr.weakN (fun _ h => .inl h), fun y hy => by cases hy⟩
          have hl := h1.length
          simp at hl
          simp only [execOp, ho, hp, Instr.storeAt, Instr.sureAddr, storeVar, Sem.run_bind, Sem.run_pure, Result.andThen_ok, ti_size hi]
          rw [if_neg (by omega), hst]
          rfl
        · cases he
      · cases he
  · cases he
end
end
end Go.Proofs.Ytnmpdpijcehofaa.Eng
