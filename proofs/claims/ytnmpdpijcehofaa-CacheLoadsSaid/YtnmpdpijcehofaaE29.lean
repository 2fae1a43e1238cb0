/-
  Values seen as data: a part of the engine, of no one program. No condition.
-/
import Derived.Test.YtnmpdpijcehofaaE23
import Derived.ProofKit
import Derived.OpenShut
import Derived.Carry
import Derived.Lib.Hide
import Derived.ChangeSlices
import Derived.IntWalk
import Derived.Handy
namespace Go.Proofs.Ytnmpdpijcehofaa.Eng
set_option linter.all false
noncomputable section
open Go.ChangeShapes Go.WideShapes Go.ChangeAt Go.RowKit

/-! ### The arguments read again -/
theorem args_stay {H : Type} {enc : TypeId × Value → H} {P : Program} (hl : laidOutB P = true) {W W' : World} (hb : Below W.heap.size W W') {sp : Nat → Bool} :
    ∀ {ts : List TypeId} {vs : List Value} {ds : List (DataW H)} {ps : List MemPlace}, (∀ t ∈ ts, P.readableRec t = true ∧ t < P.types.size) →
      DataW.TrodAll enc P W 0 (fun _ => true) true ts vs ds ps → (∀ x ∈ ps, x.block < W.heap.size ∧ sp x.block = true) → DataW.TrodAll enc P W' 0 sp true ts vs ds ps
  | [], [], [], _, _, h, _ => h
  | t :: ts, v :: vs, d :: ds, _, ht, ⟨p, q, h1, h2, e⟩, hp => by
    subst e
    refine ⟨p, q, WideElems.Trod_stays hl (ht t (by simp)).1 (ht t (by simp)).2 h1 (fun x hx => hb.same (hp x (by simp [hx])).1) (fun x hx => (hp x (by simp [hx])).2),
      args_stay hl hb (fun u hu => ht u (by simp [hu])) h2 (fun x hx => hp x (by simp [hx])), rfl⟩
  | [], [], _ :: _, _, _, h, _ => h.elim
  | [], _ :: _, _, _, _, h, _ => by simp [DataW.TrodAll] at h
  | _ :: _, [], _, _, _, h, _ => by simp [DataW.TrodAll] at h
  | _ :: _, _ :: _, [], _, _, h, _ => by simp [DataW.TrodAll] at h

/-- The last step of a law's row: it answered true, and whatever lay in memory lies there. -/
theorem law_post {H : Type} {enc : TypeId × Value → H} {P : Program} {f : Func} {s : ChangeSpec} {apart fresh handsOn again : Bool} {W W' : World} {args : Array Value} {ds : List (DataW H)} {before : List MemPlace} {tb : TypeId}
    (hl : laidOutB P = true) (hread : (f.params.toList.all fun t => P.readableRec t && decide (t < P.types.size)) = true)
    (hv : s.vars = []) (hres : f.resultTypes = #[tb]) (htb : P.underlying tb = some .bool)
    (hW : DataW.Whole enc P f.params.toList s.vars apart W args.toList ds [] before)
    (hs : (s.fn H (ds ++ [])).results = [.lit (.bool true)] ∧ (s.fn H (ds ++ [])).args = ds ∧ (s.fn H (ds ++ [])).vars = [])
    (hg : Gr W W') : s.post enc P f apart fresh handsOn again W args (.bool true) W' := by
  have hW' := hW
  obtain ⟨p, q, hA, hV, rfl, hfz, hnd⟩ := hW
  rw [hv] at hV
  obtain ⟨_, rfl⟩ := trodVars_none hV
  have hA' : DataW.TrodAll enc P W 0 (fun _ => true) true f.params.toList args.toList ds p := hA
  refine post_of_same (pa := p) (pv := []) hW' ?_ ?_ ?_ (by simp) (hg.below.frame _) hg.marks (ok_one hres rfl (okWide_bool_mk htb _))
  · intro b sp hd
    rw [hs.1, hres]
    exact trodAll_cons_mk (shut_bool htb _) trodAll_mk0
  · intro sp hsp
    rw [hs.2.1]
    refine args_stay hl hg.below (fun t ht => ?_) hA' (fun x hx => ⟨hW'.lt x (by simpa using hx), hsp x (by simpa using hx)⟩)
    have := List.all_eq_true.1 hread t ht
    simpa using this
  · intro sp _
    rw [hv, hs.2.2]
    rfl

/-! ### What comes in -/
/-- A list of a machine's numbers. -/
def Wf (k : IntKind) (l : List Int) : Prop := ∀ n ∈ l, (Lit.int k n).wf = true
def numD (k : IntKind) (x : Int) : List D := [.v (.int k x)]
def sN (k : IntKind) (l : List Int) : DA := .one (.sl 1 (l.map (numD k)))
def vN (k : IntKind) (x : Int) : DA := .one (.v (.int k x))
theorem getD_num (k : IntKind) (l : List Int) (i : Nat) (h : i < l.length) : (l.map (numD k)).getD i [] = [.v (.int k (l.getD i 0))] := getD_map (numD k) l i 0 h
theorem flat_num (k : IntKind) (l : List Int) : (l.map (numD k)).flatten = l.map fun x => D.v (.int k x) := by
  induction l with
  | nil => rfl
  | cons x l ih => simp [numD, ih]
theorem takeAll {α : Type} {l : List α} {n : Nat} (h : l.length ≤ n) : l.take n = l := List.take_of_length_le h
theorem takeDropAll {α : Type} {l : List α} {i n : Nat} (h : l.length - i ≤ n) : (l.drop i).take n = l.drop i := List.take_of_length_le (by simpa using h)
theorem toNatAdd {a : Int} {n : Nat} (h : 0 ≤ a) : (a + (n : Int)).toNat = a.toNat + n := by omega
theorem toNatSub {a b : Int} (h : 0 ≤ a) (h' : 0 ≤ b) : (a + b).toNat - a.toNat = b.toNat := by omega
theorem dropMap {α β : Type} (f : α → β) (l : List α) (n : Nat) : (l.map f).drop n = (l.drop n).map f := List.map_drop.symm
theorem takeMap {α β : Type} (f : α → β) (l : List α) (n : Nat) : (l.map f).take n = (l.take n).map f := List.map_take.symm
/-- One result, and more. -/
def rB (b : Bool) : RX := .one (.c (.v (.bool b)))
def rN (k : IntKind) (x : Int) : RX := .one (.c (.v (.int k x)))
def rO (k : IntKind) (l : List Int) : RX := .one (.o 1 (l.map (numD k)))
theorem shows_bool {T : Nat → Prop} {w : World} {v : Value} {F : List Nat} {b : Bool} (h : ShowsV T w v [rB b] F) : v = .bool b := by
  cases h with
  | c h => cases h; rfl
theorem ret_of {P : Program} {s : St} {res : List ResultVar} {l : List AX} {r r' : RV} {e : Exit} (he : e = .ret ∨ e = .normal) (h1 : resVs P s res = some l) (h2 : outXs s.hp l = some r) (h3 : (l.flatMap ownsX).Nodup) (h4 : laxR r r') : retA P res r' e s := by
  rcases he with rfl | rfl <;> exact ⟨l, r, h1, h2, h3, h4⟩
section
variable {H : Type} {enc : TypeId × Value → H} {P : Program} {w : World} {base : Nat} {spare : Nat → Bool} {held : Bool} {r : Reach} {b0 : Nat} {t : TypeId} {v : Value} {d : DataW H} {ps : List MemPlace}
/-- A number comes in. -/
theorem in_int {k : IntKind} (ht : P.underlying t = some (.int k)) (hv : Value.okWide P w r b0 t v) (h : DataW.Trod enc P w base spare held t v d ps) {S : Nat → Prop} : ∃ x : Int, (Lit.int k x).wf = true ∧ ShowsA S w v (vN k x) := by
  obtain ⟨n, rfl, _, _, hw⟩ := open_int ht hv h
  exact ⟨n, hw, .v rfl⟩
/-- A slice of numbers comes in. -/
theorem in_ints {k : IntKind} {e : TypeId} (ht : P.underlying t = some (.slice e)) (he : P.underlying e = some (.int k)) (hc : P.cellsOf e = 1) (hv : Value.okWide P w r b0 t v) (h : DataW.Trod enc P w base spare held t v d ps)
    {S : Nat → Prop} (hS : ∀ x ∈ ps, S x.block) : ∃ l : List Int, (Wf k l ∧ l.length ≤ maxLen) ∧ ShowsA S w v (sN k l) := by
  obtain ⟨a0, n0, c0, rfl⟩ := okWide_slice ht hv
  obtain ⟨fuel, hf⟩ := h
  have hcs : (Value.slice a0 n0 c0).cells.toList = [.slice a0 n0 c0] := rfl
  rw [hcs] at hf
  rcases open_ints ht he hc hf with ⟨h1, _⟩ | ⟨a, len, cap, zs, h1, hb, hl, hm, hlen, hx, hcell, hwf⟩
  · simp only [List.cons.injEq, Value.slice.injEq, and_true] at h1
    obtain ⟨rfl, rfl, rfl⟩ := h1
    exact ⟨[], ⟨fun _ h => by (cases h), by simp⟩, .nil⟩
  · simp only [List.cons.injEq, Value.slice.injEq, and_true] at h1
    obtain ⟨rfl, rfl, rfl⟩ := h1
    simp only [Prod.mk.injEq] at hx
    obtain ⟨_, rfl⟩ := hx
    have hle : n0 ≤ zs.length := by rw [hlen]; split <;> omega
    have hlt : (zs.take n0).length = n0 := by simp; omega
    refine ⟨zs.take n0, ⟨fun n hn => hwf n (List.mem_of_mem_take hn), by omega⟩, .sl (fun i => .int k (zs.getD i 0)) (by simp; omega) (fun hne => ?_) hl hm (fun e he => ?_) (fun i c hi => ?_) (fun i c hi => ?_)⟩
    · have hne' : 0 < zs.length := by
        rcases Nat.eq_zero_or_pos zs.length with h0 | h0
        · have : zs = [] := List.length_eq_zero_iff.1 h0
          simp [this] at hne
        · exact h0
      exact hS (.cell a.block (a.off + 0)) (List.mem_map.2 ⟨0, by simpa using hne', rfl⟩)
    · obtain ⟨x, _, rfl⟩ := List.mem_map.1 he; rfl
    · rw [flat_num, List.getElem?_map] at hi
      obtain ⟨x, hx, rfl⟩ := Option.map_eq_some_iff.1 hi
      have := (List.getElem?_eq_some_iff.1 hx).1
      exact hcell i (by omega)
    · rw [flat_num, List.getElem?_map] at hi
      obtain ⟨x, hx, rfl⟩ := Option.map_eq_some_iff.1 hi
      have hlt' := (List.getElem?_eq_some_iff.1 hx).1
      have : zs.getD i 0 = x := by
        rw [List.getElem?_take_of_lt (by omega)] at hx
        simp [List.getD, hx]
      rw [this]
      exact .v rfl
end
end
end Go.Proofs.Ytnmpdpijcehofaa.Eng
