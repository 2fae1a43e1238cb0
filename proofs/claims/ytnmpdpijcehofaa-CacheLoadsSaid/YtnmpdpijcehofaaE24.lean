/-
  Values seen as data: a part of the engine, of no one program. No condition.
-/
import Derived.Test.YtnmpdpijcehofaaE21
namespace Go.Proofs.Ytnmpdpijcehofaa.Eng
set_option linter.all false
noncomputable section
open Go.RowKit

/-! ### A region whose order is drawn -/
theorem dataC_mono {hp hp' : List (Nat × Ob)} (h : ∀ b o, lk hp b = some o → lk hp' b = some o) {c : AC} {d : D} (hd : dataC hp c = some d) : dataC hp' c = some d := by
  cases c with
  | own b L =>
    simp only [dataC] at hd ⊢
    cases hb : lk hp b with
    | none => rw [hb] at hd; cases hd
    | some o => rw [hb] at hd; rw [h b o hb]; exact hd
  | view b lo n L =>
    simp only [dataC] at hd ⊢
    cases hb : lk hp b with
    | none => rw [hb] at hd; cases hd
    | some o => rw [hb] at hd; rw [h b o hb]; exact hd
  | _ => exact hd
theorem elemsC_mono {hp hp' : List (Nat × Ob)} (h : ∀ b o, lk hp b = some o → lk hp' b = some o) {c : AC} {d : Nat × List (List D)} (hd : elemsC hp c = some d) : elemsC hp' c = some d := by
  unfold elemsC at hd ⊢
  cases hb : dataC hp c with
  | none => rw [hb] at hd; cases hd
  | some x => rw [hb] at hd; rw [dataC_mono h hb]; exact hd
theorem cellsAt_mono {hp hp' : List (Nat × Ob)} (h : ∀ b o, lk hp b = some o → lk hp' b = some o) {n : Nat} {c : AC} {d : List AC} (hd : cellsAt hp n c = some d) : cellsAt hp' n c = some d := by
  cases c with
  | ptr b off =>
    simp only [cellsAt] at hd ⊢
    cases hb : lk hp b with
    | none => rw [hb] at hd; cases hd
    | some o => rw [hb] at hd; rw [h b o hb]; exact hd
  | eptr b i off L =>
    simp only [cellsAt] at hd ⊢
    cases hb : lk hp b with
    | none => rw [hb] at hd; cases hd
    | some o => rw [hb] at hd; rw [h b o hb]; exact hd
  | _ => exact hd
theorem shift_mono {hp hp' : List (Nat × Ob)} (h : ∀ b o, lk hp b = some o → lk hp' b = some o) {n : Nat} {c c' : AC} (hd : shift hp n c = some c') : shift hp' n c = some c' := by
  cases c with
  | ptr b off =>
    simp only [shift] at hd ⊢
    cases hb : lk hp b with
    | none => rw [hb] at hd; cases hd
    | some o => rw [hb] at hd; rw [h b o hb]; exact hd
  | eptr b i off L =>
    simp only [shift] at hd ⊢
    cases hb : lk hp b with
    | none => rw [hb] at hd; cases hd
    | some o => rw [hb] at hd; rw [h b o hb]; exact hd
  | _ => exact hd
theorem putAt_mono {hp hp' : List (Nat × Ob)} (h : ∀ b o, lk hp b = some o → lk hp' b = some o) {new : List AC} {c : AC} {u : Nat × Ob} (hd : putAt hp new c = some u) : putAt hp' new c = some u := by
  cases c with
  | ptr b off =>
    simp only [putAt] at hd ⊢
    cases hb : lk hp b with
    | none => rw [hb] at hd; cases hd
    | some o => rw [hb] at hd; rw [h b o hb]; exact hd
  | eptr b i off L =>
    simp only [putAt] at hd ⊢
    cases hb : lk hp b with
    | none => rw [hb] at hd; simp at hd
    | some o => rw [hb] at hd; rw [h b o hb]; exact hd
  | _ => exact hd
theorem dataL_mono {hp hp' : List (Nat × Ob)} (h : ∀ b o, lk hp b = some o → lk hp' b = some o) : ∀ {cs : List AC} {ds : List D}, dataL hp cs = some ds → dataL hp' cs = some ds
  | [], _, hd => hd
  | c :: cs, ds, hd => by
    simp only [dataL] at hd ⊢
    split at hd
    · rename_i d ds' h1 h2
      rw [dataC_mono h h1, dataL_mono h h2]; exact hd
    · cases hd
theorem argX_mono {hp hp' : List (Nat × Ob)} (h : ∀ b o, lk hp b = some o → lk hp' b = some o) {v : AV} {d : DA} (hd : argX hp v = some d) : argX hp' v = some d := by
  cases v with
  | x v => cases v with
    | one c =>
      simp only [argX, Option.map_eq_some_iff] at hd ⊢
      obtain ⟨x, h1, h2⟩ := hd
      exact ⟨x, dataC_mono h h1, h2⟩
    | agg cs =>
      simp only [argX, Option.map_eq_some_iff] at hd ⊢
      obtain ⟨x, h1, h2⟩ := hd
      exact ⟨x, dataL_mono h h1, h2⟩
  | tup _ => cases hd
theorem argL_mono {hp hp' : List (Nat × Ob)} (h : ∀ b o, lk hp b = some o → lk hp' b = some o) : ∀ {vs : List AV} {ds : List DA}, argL hp vs = some ds → argL hp' vs = some ds
  | [], _, hd => hd
  | c :: cs, ds, hd => by
    simp only [argL] at hd ⊢
    split at hd
    · rename_i d ds' h1 h2
      rw [argX_mono h h1, argL_mono h h2]; exact hd
    · cases hd
/-- The second state knows what the first one knows, as far as an operation asks. -/
structure Sub (op : Op) (s s' : St) : Prop where
  ev : ∀ x ∈ op.operands, evO s' x = evO s x
  hp : ∀ b o, lk s.hp b = some o → lk s'.hp b = some o
theorem evL_cong {s s' : St} : ∀ {xs : List Operand}, (∀ x ∈ xs, evO s' x = evO s x) → evL s' xs = evL s xs
  | [], _ => rfl
  | x :: xs, h => by
    have ih := evL_cong (xs := xs) fun y hy => h y (List.mem_cons_of_mem _ hy)
    simp only [evL, h x List.mem_cons_self, ih]
theorem fillA_cong {place : Nat → Option (Nat × Nat)} {s s' : St} : ∀ {ps : List (Nat × Operand)} {cs : List AC}, (∀ p ∈ ps, evO s' p.2 = evO s p.2) → fillA place s' ps cs = fillA place s ps cs
  | [], _, _ => rfl
  | (i, x) :: ps, cs, h => by
    have ih : ∀ cs, fillA place s' ps cs = fillA place s ps cs := fun cs => fillA_cong (fun q hq => h q (by simp [hq]))
    simp only [fillA, h (i, x) (by simp), ih]
theorem rowsA_cong {sz : Nat} {s s' : St} : ∀ {ps : List (Nat × Operand)} {cs : List (List D)}, (∀ p ∈ ps, evO s' p.2 = evO s p.2) → rowsA s' sz ps cs = rowsA s sz ps cs
  | [], _, _ => rfl
  | (i, x) :: ps, cs, h => by
    have ih : ∀ cs, rowsA s' sz ps cs = rowsA s sz ps cs := fun cs => rowsA_cong (fun q hq => h q (by simp [hq]))
    simp only [rowsA, h (i, x) (by simp), ih]
theorem effect_mono {P : Program} {s s' : St} {seed : Nat} {op : Op} {e : Eff} (h : Sub op s s') (he : effect P s seed op = some e) : effect P s' seed op = some e := by
  obtain ⟨hev, hhp⟩ := h
  have hP : ∀ x ∈ op.operands, evP s' x = evP s x := fun x hx => by unfold evP; rw [hev x hx]
  have h1 : ∀ x ∈ op.operands, one1 s' x = one1 s x := fun x hx => by unfold one1; rw [hev x hx]
  cases op with
  | move x => simpa only [effect, hev x (by simp [Op.operands])] using he
  | assign x => simpa only [effect, hev x (by simp [Op.operands])] using he
  | pick c x y =>
    simp only [effect, hP c (by simp [Op.operands])] at he ⊢
    split at he
    · rename_i b hb
      have : evO s' (if b = true then x else y) = evO s (if b = true then x else y) := by
        cases b
        · exact hev y (by simp [Op.operands])
        · exact hev x (by simp [Op.operands])
      simp only [this]; exact he
    · cases he
  | binOp op t x y t' => simpa only [effect, hP x (by simp [Op.operands]), hP y (by simp [Op.operands])] using he
  | unOp op t x => simpa only [effect, hP x (by simp [Op.operands])] using he
  | convert a b x => simpa only [effect, hP x (by simp [Op.operands])] using he
  | alloc t => exact he
  | box t x => simpa only [effect, hev x (by simp [Op.operands])] using he
  | build t ps =>
    have hc : ∀ p ∈ ps.toList, evO s' p.2 = evO s p.2 := fun p hp => hev p.2 (by simp only [Op.operands]; simpa using ⟨p.1, Array.mem_toList_iff.1 hp⟩)
    simp only [effect, build1] at he ⊢
    simp only [fillA_cong hc]
    exact he
  | buildSlice t n ps =>
    have hc : ∀ p ∈ ps.toList, evO s' p.2 = evO s p.2 := fun p hp => hev p.2 (by simp only [Op.operands]; simpa using ⟨p.1, Array.mem_toList_iff.1 hp⟩)
    simp only [effect, bslice1] at he ⊢
    simp only [rowsA_cong hc]
    exact he
  | load t x =>
    simp only [effect, load1, hev x (by simp [Op.operands])] at he ⊢
    split at he
    · rename_i c i hx hi
      obtain ⟨cs, h2, h3⟩ := Option.bind_eq_some_iff.1 he
      rw [cellsAt_mono hhp h2]; exact h3
    · cases he
  | store t x y =>
    simp only [effect, store1, hev x (by simp [Op.operands]), hev y (by simp [Op.operands])] at he ⊢
    split at he
    · rename_i c i hx hi
      split at he
      · rename_i hn
        rw [if_pos hn]
        split at he
        · rename_i hsz
          rw [if_pos hsz]
          obtain ⟨u, h2, h3⟩ := Option.map_eq_some_iff.1 he
          have : putAt ((seed, .row 0 [] false) :: s'.hp) [.own seed 0] c = some u := putAt_mono (fun b o hb => by
            rw [lk_cons] at hb ⊢
            split at hb
            · rename_i hk; rw [if_pos hk]; exact hb
            · rename_i hk; rw [if_neg hk]; exact hhp b o hb) h2
          rw [this]; simpa using h3
        · cases he
      · rename_i hn
        rw [if_neg hn]
        split at he
        · rename_i new hnew
          split at he
          · rename_i hsz
            rw [if_pos hsz]
            obtain ⟨u, h2, h3⟩ := Option.map_eq_some_iff.1 he
            rw [putAt_mono hhp h2]; simpa using h3
          · cases he
        · cases he
    · cases he
  | fieldAddr t x k =>
    simp only [effect, h1 x (by simp [Op.operands])] at he ⊢
    obtain ⟨c, hc, he⟩ := Option.bind_eq_some_iff.1 he
    obtain ⟨f, hf, he⟩ := Option.bind_eq_some_iff.1 he
    obtain ⟨c', hc', he⟩ := Option.map_eq_some_iff.1 he
    rw [hc, Option.bind_some, hf, Option.bind_some, shift_mono hhp hc']; simpa using he
  | field t x k => simpa only [effect, hev x (by simp [Op.operands])] using he
  | indexAddr t x i =>
    simp only [effect, idx1, hev x (by simp [Op.operands]), hP i (by simp [Op.operands])] at he ⊢
    split at he
    · rename_i e0 _ _ _ c kk k hi hx hk
      split at he
      · rename_i j sz es hj hd
        rw [hj, dataC_mono hhp hd]; exact he
      · cases he
    · rename_i n e0 _ _ _ c kk k hi hx hk
      split at he
      · rename_i j hj
        split at he
        · rename_i hcond
          rw [if_pos hcond]
          obtain ⟨c', hc', he⟩ := Option.map_eq_some_iff.1 he
          rw [shift_mono hhp hc']; simpa using he
        · cases he
      · cases he
    · cases he
  | index t x i => simpa only [effect, index1, hev x (by simp [Op.operands]), hP i (by simp [Op.operands])] using he
  | slice t x lo hi mx =>
    have hopt : ∀ y, (∀ z, y = some z → z ∈ (Op.slice t x lo hi mx).operands) → optInt s' y = optInt s y := fun y hy => by
      cases y with
      | none => rfl
      | some z => simp only [optInt, hP z (hy z rfl)]
    simp only [effect, slice1, hev x (by simp [Op.operands]), hopt lo (fun z hz => by subst hz; simp [Op.operands]), hopt hi (fun z hz => by subst hz; simp [Op.operands]), hopt mx (fun z hz => by subst hz; simp [Op.operands])] at he ⊢
    split at he
    · rename_i e0 _ _ _ c l h m hi0 hx hl hhi hm
      split at he
      · rename_i j sz es hj hd
        rw [hj, dataC_mono hhp hd]; exact he
      · cases he
    · cases he
  | extract x k => simpa only [effect, hev x (by simp [Op.operands])] using he
  | makeSlice t l c => simpa only [effect, mslice1, hP l (by simp [Op.operands]), hP c (by simp [Op.operands])] using he
  | nilCheck x =>
    simp only [effect, h1 x (by simp [Op.operands])] at he ⊢
    obtain ⟨c, hc, he⟩ := Option.bind_eq_some_iff.1 he
    obtain ⟨c', hc', he⟩ := Option.map_eq_some_iff.1 he
    rw [hc, Option.bind_some, shift_mono hhp hc']; simpa using he
  | call c =>
    obtain ⟨callee, args, ts⟩ := c
    simp only [effect] at he ⊢
    split at he
    · rename_i b
      have hops : ∀ x ∈ args.toList, x ∈ (Op.call ⟨.builtin b, args, ts⟩).operands := fun x hx => by simpa [Op.operands, Call.operands] using hx
      unfold callEff at he ⊢
      split at he
      · rename_i x t ha ht
        have hx := hops x (by rw [ha]; simp)
        simp only [len1, hev x hx] at he ⊢
        split at he
        · rename_i e0 _ _ _ c hi hx
          split at he
          · rename_i sz es hd; rw [dataC_mono hhp hd]; exact he
          · rename_i hd; rw [dataC_mono hhp hd]; exact he
          · cases he
        · exact he
        · cases he
      · rename_i x y t t' ha ht
        have hx := hops x (by rw [ha]; simp)
        have hy := hops y (by rw [ha]; simp)
        simp only [app1, hev x hx, hev y hy] at he ⊢
        split at he
        · rename_i e0 _ _ _ c c2 hi hx hy
          split at he
          · rename_i j sz2 es2 hj hd2
            rw [hj, elemsC_mono hhp hd2]
            simp only
            split at he
            · rename_i hcond
              rw [if_pos hcond]
              split at he
              · rename_i b L
                split at he
                · rename_i sz es hb; rw [hhp _ _ hb]; exact he
                · cases he
              · exact he
              · cases he
            · cases he
          · cases he
        · cases he
      · rename_i x y t t' ha ht
        have hx := hops x (by rw [ha]; simp)
        have hy := hops y (by rw [ha]; simp)
        simp only [cop1, hev x hx, hev y hy] at he ⊢
        split at he
        · rename_i e0 _ _ _ c c2 hi hx hy
          split at he
          · rename_i j sz2 es2 hj hd2
            rw [hj, elemsC_mono hhp hd2]
            simp only
            split at he
            · rename_i hcond
              rw [if_pos hcond]
              split at he
              · rename_i b lo n L hcc
                split at he
                · rename_i sz es hb; rw [hhp _ _ hb]; exact he
                · cases he
              · cases he
            · cases he
          · cases he
        · cases he
      · rename_i x y ha
        have hx := hops x (by rw [ha]; simp)
        have hy := hops y (by rw [ha]; simp)
        simp only [mm1, hP x hx, hP y hy] at he ⊢
        exact he
      · rename_i x y ha
        have hx := hops x (by rw [ha]; simp)
        have hy := hops y (by rw [ha]; simp)
        simp only [mm1, hP x hx, hP y hy] at he ⊢
        exact he
      · cases he
    · cases he
  | _ => cases he
end
end Go.Proofs.Ytnmpdpijcehofaa.Eng
