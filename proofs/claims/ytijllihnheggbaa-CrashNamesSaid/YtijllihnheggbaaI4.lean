/-
  The contracts of the program's functions, data in, data out. Conditions: those in the statements.
-/
import Derived.Test.YtijllihnheggbaaI1
namespace Go.Proofs.Ytijllihnheggbaa.Eng
set_option linter.all false
noncomputable section
open Go.RowKit
def softC : RC → RC
  | .c d => .c d
  | .o sz es => .c (.sl sz es)
def softX : RX → RX
  | .one c => .one (softC c)
  | .agg cs => .agg (cs.map softC)
theorem soft_c {T T' : Nat → Prop} {w : World} {x : Value} {c : RC} {F : List Nat} (hT : ∀ b, T b → T' b) (hF : ∀ g ∈ F, T' g) (h : ShowsC T w x c F) : ShowsC T' w x (softC c) [] := by
  cases h with
  | c h => exact .c (h.keep hT fun _ _ => rfl)
  | nil => exact .c .nil
  | @o g cap sz es n hn h =>
    obtain ⟨cur, ty, hh, hs, hc⟩ := h.cells
    subst hn
    refine .c (.sl (fun k => cur[k]?.getD undef) rfl (fun _ => hF g (by simp)) h.le h.max h.width (fun k c hk => ?_) (fun k c hk => ?_))
    · obtain ⟨y, hy, _⟩ := hc k c hk
      rw [Addr.add_lit, Nat.zero_add, cell_of_row w g k cur ty (0, 0) hh, hy]
      rfl
    · obtain ⟨y, hy, hsh⟩ := hc k c hk
      rw [hy]
      exact hsh.keep hT fun _ _ => rfl
theorem soft_l {T T' : Nat → Prop} {w : World} (hT : ∀ b, T b → T' b) {xs : List Value} {cs : List RC} {F : List Nat} (h : ShowsL (ShowsC T w) xs cs F) : (∀ g ∈ F, T' g) → ShowsL (ShowsC T' w) xs (cs.map softC) [] := by
  induction h with
  | nil => exact fun _ => .nil
  | cons h _ ih => exact fun hF => .cons (F := []) (G := []) (soft_c hT (fun g hg => hF g (by simp [hg])) h) (ih fun g hg => hF g (by simp [hg]))
theorem soft_x {T T' : Nat → Prop} {w : World} (hT : ∀ b, T b → T' b) {x : Value} {r : RX} {F : List Nat} (hF : ∀ g ∈ F, T' g) (h : ShowsX T w x r F) : ShowsX T' w x (softX r) [] := by
  cases r with
  | one c => exact soft_c hT hF h
  | agg cs => obtain ⟨arr, h1, h2⟩ := h; exact ⟨arr, h1, soft_l hT h2 hF⟩
theorem soft_xs {T T' : Nat → Prop} {w : World} (hT : ∀ b, T b → T' b) {xs : List Value} {cs : List RX} {F : List Nat} (h : ShowsL (ShowsX T w) xs cs F) : (∀ g ∈ F, T' g) → ShowsL (ShowsX T' w) xs (cs.map softX) [] := by
  induction h with
  | nil => exact fun _ => .nil
  | cons h _ ih => exact fun hF => .cons (F := []) (G := []) (soft_x hT (fun g hg => hF g (by simp [hg])) h) (ih fun g hg => hF g (by simp [hg]))
theorem soft_v {T T' : Nat → Prop} {w : World} (hT : ∀ b, T b → T' b) {x : Value} {r : RV} {F : List Nat} (hF : ∀ g ∈ F, T' g) (h : ShowsV T w x r F) : ShowsV T' w x (r.map softX) [] := by
  match r, h with
  | [y], h => exact soft_x hT hF h
  | [], h => obtain ⟨arr, h1, h2⟩ := h; exact ⟨arr, h1, soft_xs hT h2 hF⟩
  | a :: b :: l, h => obtain ⟨arr, h1, h2⟩ := h; exact ⟨arr, h1, soft_xs hT h2 hF⟩
/-- The contract, what it gives seen as data. -/
theorem Con.soft {P : Program} {f : FuncId} {ds : List DA} {r r' : RV} (h : Con P f ds r) (hr : r.map softX = r') : Con P f ds r' := by
  subst hr
  refine ⟨h.1, fun S w args hS ha => (h.2 S w args hS ha).mono fun e w' ⟨v, F, he, hv, hg, _, hF⟩ => ⟨v, [], he, ?_, hg, List.nodup_nil, by simp⟩⟩
  exact soft_v (fun b hb => ⟨hb.1, hb.2.1, by simp⟩) (fun g hg' => ⟨.inr (hF g hg').1, (hF g hg').2, by simp⟩) hv
end
end Go.Proofs.Ytijllihnheggbaa.Eng
