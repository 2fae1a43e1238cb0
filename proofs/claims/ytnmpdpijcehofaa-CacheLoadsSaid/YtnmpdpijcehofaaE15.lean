/-
  Values seen as data: a part of the engine, of no one program. No condition.
-/
import Derived.Test.YtnmpdpijcehofaaE14
namespace Go.Proofs.Ytnmpdpijcehofaa.Eng
set_option linter.all false
noncomputable section
open Go.RowKit

def callEff (P : Program) (s : St) (seed : Nat) (b : Builtin) (args : List Operand) (ts : List TypeId) : Option Eff :=
  match b, args, ts with
  | .len, [x], [t] => len1 P s t x
  | .append, [x, y], [t, t'] => app1 P s seed t t' x y
  | .copy, [x, y], [t, t'] => cop1 P s t t' x y
  | .min, [x, y], _ => mm1 s false x y
  | .max, [x, y], _ => mm1 s true x y
  | _, _, _ => none
def one1 (s : St) (x : Operand) : Option AC :=
  match evO s x with
  | some (.x (.one c)) => some c
  | _ => none
def effect (P : Program) (s : St) (seed : Nat) (op : Op) : Option Eff :=
  match op with
  | .move x => (evO s x).map fun v => { val := some v }
  | .assign x => if isNil x then some { val := some (one (.own seed 0)), ups := [(seed, .row 0 [] false)], cnt := 1 } else (evO s x).map fun v => { val := some v }
  | .pick c x y => match evP s c with
    | some (.bool b) => (evO s (if b then x else y)).map fun v => { val := some v }
    | _ => none
  | .binOp op t x y _ => match evP s x, evP s y with
    | some u, some v => (binX P op t u v).map fun r => { val := some (vv r) }
    | _, _ => none
  | .unOp op _ x => (evP s x).bind fun u => (unV op u).map fun r => { val := some (vv r) }
  | .convert src dst x => (evP s x).bind fun u => (cvV P src dst u).map fun r => { val := some (vv r) }
  | .alloc t => (ti P t).map fun i => { val := some (one (.ptr seed 0)), ups := [(seed, .box (i.zero.map fun z => .d (.v z)))], cnt := 1 }
  | .box _ x => ((evO s x).bind cellsOf).map fun cs => { val := some (one (.ptr seed 0)), ups := [(seed, .box cs)], cnt := 1 }
  | .build t parts => build1 P s t parts.toList
  | .buildSlice t len parts => bslice1 P s seed t len parts.toList
  | .load t x => load1 P s t x
  | .store t x y => store1 P s seed t x y
  | .fieldAddr t x k => (one1 s x).bind fun c => (fieldOf P t k).bind fun f => (shift s.hp f.1 c).map fun c' => { val := some (one c') }
  | .field t x k => match evO s x with
    | some (.x (.agg l)) => (fieldOf P t k).bind fun f => (partOf f.1 f.2.size f.2.k.isAgg l).map fun v => { val := some v }
    | _ => none
  | .indexAddr t x i => idx1 P s t x i
  | .index t x i => index1 P s t x i
  | .slice t x lo hi mx => slice1 P s t x lo hi mx
  | .extract x k => match evO s x with
    | some (.tup l) => (l[k]?).map fun v => { val := some (.x v) }
    | _ => none
  | .makeSlice t l c => mslice1 P s seed t l c
  | .nilCheck x => (one1 s x).bind fun c => (shift s.hp 0 c).map fun _ => { val := some (one c) }
  | .call c => match c.callee with
    | .builtin b => callEff P s seed b c.args.toList c.argTypes.toList
    | _ => none
  | _ => none

section
variable {P : Program} {S0 : Nat → Prop} {w0 : Base} {N : Nat → Prop} {s : St} {a : Act} {w : World} {ι : Nat → Option Nat} {seed : Nat} {o : Oper}

theorem list1 {α : Type} {l : Array α} {x : α} (h : l.toList = [x]) : l = #[x] := by apply Array.ext'; simpa using h
theorem list2 {α : Type} {l : Array α} {x y : α} (h : l.toList = [x, y]) : l = #[x, y] := by apply Array.ext'; simpa using h
theorem one1_eq {x : Operand} {c : AC} (h : one1 s x = some c) : evO s x = some (one c) := by
  unfold one1 at h
  split at h
  · rename_i c' hx; cases h; exact hx
  · cases h
theorem good_effect (h : Rel S0 w0 N s a w ι) {e : Eff} (hid0 : ∀ k, k < e.cnt + 1 → ¬ N (seed + k)) (he : effect P s seed o.op = some e) : Good P S0 w0 N s a w seed o e := by
  have hid : ∀ k, k < 1 → ¬ N (seed + k) := fun k hk => hid0 k (by omega)
  generalize hop : o.op = op at he
  unfold effect at he
  split at he
  · obtain ⟨v, hv, rfl⟩ := Option.map_eq_some_iff.1 he
    exact good_move h (.inl hop) hv
  · split at he
    · rename_i hn
      cases he
      exact good_nil h hid hop hn
    · obtain ⟨v, hv, rfl⟩ := Option.map_eq_some_iff.1 he
      exact good_move h (.inr hop) hv
  · split at he
    · rename_i b hb
      obtain ⟨v, hv, rfl⟩ := Option.map_eq_some_iff.1 he
      exact good_pick h hop hb hv
    · cases he
  · split at he
    · rename_i u v hu hv
      obtain ⟨r, hr, rfl⟩ := Option.map_eq_some_iff.1 he
      exact good_bin h hop hu hv hr
    · cases he
  · obtain ⟨u, hu, he⟩ := Option.bind_eq_some_iff.1 he
    obtain ⟨r, hr, rfl⟩ := Option.map_eq_some_iff.1 he
    exact good_un h hop hu hr
  · obtain ⟨u, hu, he⟩ := Option.bind_eq_some_iff.1 he
    obtain ⟨r, hr, rfl⟩ := Option.map_eq_some_iff.1 he
    exact good_cv h hop hu hr
  · obtain ⟨i, hi, rfl⟩ := Option.map_eq_some_iff.1 he
    exact good_alloc h hid hop hi
  · obtain ⟨cs, hcs, rfl⟩ := Option.map_eq_some_iff.1 he
    obtain ⟨v, hv, hc⟩ := Option.bind_eq_some_iff.1 hcs
    exact good_box h hid hop hv hc
  · exact good_build h hop he
  · exact good_bslice h hid hop he
  · exact good_load h hop he
  · exact good_store h hid hop he
  · obtain ⟨c, hc, he⟩ := Option.bind_eq_some_iff.1 he
    obtain ⟨⟨off, i⟩, hf, he⟩ := Option.bind_eq_some_iff.1 he
    obtain ⟨c', hc', rfl⟩ := Option.map_eq_some_iff.1 he
    exact good_fieldAddr h hop (one1_eq hc) hf hc'
  · split at he
    · rename_i l hl
      obtain ⟨⟨off, i⟩, hf, he⟩ := Option.bind_eq_some_iff.1 he
      obtain ⟨v, hv, rfl⟩ := Option.map_eq_some_iff.1 he
      exact good_field h hop hl hf hv
    · cases he
  · exact good_idx h hop he
  · exact good_index h hop he
  · exact good_slice h hop he
  · split at he
    · rename_i l hl
      obtain ⟨v, hv, rfl⟩ := Option.map_eq_some_iff.1 he
      exact good_extract h hop hl hv
    · cases he
  · exact good_mslice h hid hop he
  · obtain ⟨c, hc, he⟩ := Option.bind_eq_some_iff.1 he
    obtain ⟨c', hc', rfl⟩ := Option.map_eq_some_iff.1 he
    exact good_nilCheck h hop (one1_eq hc) hc'
  · rename_i c
    split at he
    · rename_i b hb
      obtain ⟨callee, args, ts⟩ := c
      simp only at hb he
      subst hb
      unfold callEff at he
      split at he
      · rename_i x t ha ht
        rw [list1 ha, list1 ht] at hop
        exact good_len h hop he
      · rename_i x y t t' ha ht
        rw [list2 ha, list2 ht] at hop
        exact good_app h hid hop he
      · rename_i x y t t' ha ht
        rw [list2 ha, list2 ht] at hop
        exact good_cop h hop he
      · rename_i x y ha
        rw [list2 ha] at hop
        exact good_min h hop he
      · rename_i x y ha
        rw [list2 ha] at hop
        exact good_max h hop he
      · cases he
    · cases he
  · cases he
end
end
end Go.Proofs.Ytnmpdpijcehofaa.Eng
