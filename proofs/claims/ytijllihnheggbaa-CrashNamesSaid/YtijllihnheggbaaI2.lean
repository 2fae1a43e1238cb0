/-
  The contracts of the program's functions, data in, data out. Conditions: those in the statements.
-/
import Derived.Test.YtijllihnheggbaaK1
import Derived.Test.YtijllihnheggbaaI1
namespace Go.Proofs.Ytijllihnheggbaa
set_option linter.all false
open Go Go.Proofs.Ytijllihnheggbaa.Eng Go.RowKit
noncomputable section
set_option maxHeartbeats 4000000 in
set_option maxRecDepth 100000 in
theorem ins_in (w : World) (g n cap i g2 cap2 : Nat) (cur cur2 : Array Value) (bt bt2 : TypeId) (hg : w.heap[g]? = some (.cells cur bt (0, 0))) (hc : cur.size = cap * 3) (hg2 : w.heap[g2]? = some (.cells cur2 bt2 (0, 0))) (hc2 : cur2.size = cap2 * 3) (hne : g2 ≠ g)
    (hi : i < n) (hroom : n + 1 ≤ cap) (hcap : cap ≤ maxLen) (h12 : 1 ≤ cap2) (h1 : ∀ v ∈ cur.toList.take (n * 3), v.oneCell' = true) (h2 : ∀ v ∈ cur2.toList.take 3, v.oneCell' = true) :
    Calls Try.prog 40 #[.slice (some ⟨g, 0, none⟩) n cap, .int .i64 i, .slice (some ⟨g2, 0, none⟩) 1 cap2] w fun e w' => ∃ g' cap', e = .returned (.slice (some ⟨g', 0, none⟩) (n + 1) cap') ∧
      InsAt w w' (some g) g' cap' 3 (n + 1) (cur.toList.take (i * 3) ++ cur2.toList.take 3 ++ (cur.toList.take (n * 3)).drop (i * 3)) := by
  have u23 := run_underlying (P := Try.prog) Try.underlying23
  have mixed := hmix
  obtain ⟨inf, _, z, hinf, _, hz, hzs, hje, _⟩ := ti_info ti36
  have hsz : inf.size = 3 := by simpa using (congrArg TI.size hje).symm
  have hso : ∀ w, (sizeOf 36).run Try.prog w = .ok 3 w := fun w => by simp [sizeOf, typeInfo, hinf, hsz]
  have hcap63 : cap ≤ 9223372036854775807 := by simp only [maxLen] at hcap; omega
  have hov : ∀ b lb cb, b.block = g → (callFunc 49 #[.slice (some ⟨g2, 0, none⟩) 1 cap2, .slice (some b) lb cb]).run Try.prog w = .ok (.value (.bool false)) w := fun b lb cb hb => by
    rw [run_callFunc_extern Try.func49 (by kernel_rfl) (by kernel_rfl) (by kernel_rfl) (e := Extern.SlicesOverlaps.overlaps #[23, 23] #[4]) (by kernel_rfl),
      Lib.run_overlaps_apart w 23 4 36 Try.underlying23 3 hso ⟨g2, 0, none⟩ b 1 cap2 lb cb (by rw [hb]; exact hne) bt2 bt (cap2 * 3) (cap * 3) (by simp [World.shape?, hg2, hc2]) (by simp [World.shape?, hb, hg, hc]) (by omega)
        (by simp [World.frozen?, hg2]) (by simp [World.frozen?, hg2])]
    rfl
  have hw1 : IntKind.i64.wrap ((i : Int) + 1) = (i : Int) + 1 := by rw [IntKind.wrap_i64]; omega
  have hw2 : IntKind.i64.wrap ((n : Int) + 1) = (n : Int) + 1 := by rw [IntKind.wrap_i64]; omega
  have hb1 : (0 : Int) ≤ (i : Int) + 1 := by omega
  have hin : i ≤ n := by omega
  have hb2 : ¬ (cap = i + 1) := by omega
  have hb3 : (i : Int) ≤ (n : Int) + 1 := by omega
  have hb4 : ¬ (cap = i) := by omega
  have hb5 : (i : Int) + 1 ≤ (n : Int) + 1 := by omega
  have htn : ((i : Int) + 1).toNat = i + 1 := by omega
  have hcl : n * 3 + 3 ≤ cur.size := by omega
  obtain ⟨mid, hmid⟩ : ∃ mid, mid = (cur.toList.drop (i * 3)).take ((n - i) * 3) := ⟨_, rfl⟩
  obtain ⟨e2, he2⟩ : ∃ e2, e2 = (cur2.toList.drop 0).take 3 := ⟨_, rfl⟩
  have hel : e2.length = 3 := by rw [he2]; simp; omega
  obtain ⟨cur1, hcur1⟩ : ∃ cur1 : Array Value, cur1 = (cur.toList.take (i * 3 + 3) ++ mid ++ cur.toList.drop (i * 3 + 3 + mid.length)).toArray := ⟨_, rfl⟩
  obtain ⟨cur3, hcur3⟩ : ∃ cur3 : Array Value, cur3 = (cur1.toList.take (i * 3) ++ e2 ++ cur1.toList.drop (i * 3 + e2.length)).toArray := ⟨_, rfl⟩
  obtain ⟨hml, hc1, hc3, hfin⟩ := gap_row (b := (n - i) * 3) hel hmid (by simp; omega) (congrArg Array.toList hcur1) (congrArg Array.toList hcur3)
  simp only [Array.length_toList] at hc1 hc3
  have hmt : mid = (cur.toList.take (n * 3)).drop (i * 3) := by rw [hmid, List.drop_take]; congr 1; omega
  have hm1 : ∀ v ∈ mid, v.oneCell' = true := fun v hv => h1 v (by rw [hmt] at hv; exact List.mem_of_mem_drop hv)
  rw [← hmid, hmt, show i * 3 + 3 + (n - i) * 3 = (n + 1) * 3 by omega] at hfin
  have hi3 : (i + 1) * 3 = i * 3 + 3 := by omega
  have hcp1 : ∀ ty dc sc, (Builtin.copy_ #[23, 23] ty #[.slice (some ⟨g, (i + 1) * 3, none⟩) (n + 1 - (i + 1)) dc, .slice (some ⟨g, i * 3, none⟩) (n + 1 - i) sc]).run Try.prog w.drew = .ok (goInt (n - i : Nat)) (w.drew.setRow g cur1) := fun ty dc sc => by
    have h := copy_row (P := Try.prog) w.drew 23 23 ty 36 inf Try.underlying23 hinf g ((i + 1) * 3) (n + 1 - (i + 1)) dc ⟨g, i * 3, none⟩ (n + 1 - i) sc mid (row_read hg hmid) (by rw [hml, hsz]; congr 1; simp only [Nat.min_def]; split <;> omega) hm1 hg (by omega)
    rw [h, hi3, ← hcur1]
    congr 2
    simp only [Nat.min_def]; split <;> omega
  have hg1 : (w.drew.setRow g cur1).heap[g]? = some (.cells cur1 bt (0, 0)) := setRow_heap w.drew g cur cur1 bt (0, 0) hg
  have hg21 : (w.drew.setRow g cur1).heap[g2]? = some (.cells cur2 bt2 (0, 0)) := by rw [setRow_other w.drew g g2 cur1 hne]; exact hg2
  have hcp2 : ∀ ty dc sc, (Builtin.copy_ #[23, 23] ty #[.slice (some ⟨g, i * 3, none⟩) (n + 1 - i) dc, .slice (some ⟨g2, 0, none⟩) 1 sc]).run Try.prog (w.drew.setRow g cur1) = .ok (goInt (1 : Nat)) ((w.drew.setRow g cur1).setRow g cur3) := fun ty dc sc => by
    have h := copy_row (P := Try.prog) (w.drew.setRow g cur1) 23 23 ty 36 inf Try.underlying23 hinf g (i * 3) (n + 1 - i) dc ⟨g2, 0, none⟩ 1 sc e2 (row_read hg21 he2) (by rw [hel, hsz]; simp only [Nat.min_def]; split <;> omega) (fun v hv => h2 v (by rw [he2] at hv; simpa using hv)) hg1 (by omega)
    rw [h, ← hcur3]
    congr 2
    simp only [Nat.min_def]; split <;> omega
  have hfin' : InsAt w ((w.drew.setRow g cur1).setRow g cur3) (some g) g cap 3 (n + 1) (cur.toList.take (i * 3) ++ cur2.toList.take 3 ++ (cur.toList.take (n * 3)).drop (i * 3)) := by
    refine ⟨.inl rfl, hroom, hcap, ⟨cur3, bt, setRow_heap _ g cur1 cur3 bt (0, 0) hg1, by omega, ?_⟩, fun k _ hk => ?_, by simp, fun w0 h0 hb => ?_⟩
    · rw [hfin, he2]; simp
    · rw [setRow_other _ g k cur3 hk, setRow_other w.drew g k cur1 hk]; rfl
    · exact gr_setRow hg1 w0 (hb g rfl) (gr_setRow (w := w.drew) hg w0 (hb g rfl) h0.drew)
  clear hfin hcur1 hcur3 hmid he2 hmt hc1 hc3 hml hel hm1 h1 h2 hg1 hg21 hg hg2
  go_enter Try.func40, n40
  go_wp2_with fail
  go_region_law (refine step_copy rfl rfl (by simp [Act.eval, Act.put]; rfl) (by simp [Act.eval, Act.put]; rfl) (hcp1 _ _ _) ?_)
  go_wp2_with (at_builtin; refine wpList_copy rfl rfl rfl rfl (hcp2 _ _ _) ?_)
  go_ret
  exact ⟨g, cap, rfl, hfin'⟩
set_option maxHeartbeats 4000000 in
set_option maxRecDepth 100000 in
theorem ins_grow (w : World) (g n cap i g2 cap2 : Nat) (cur cur2 : Array Value) (bt bt2 : TypeId) (hg : w.heap[g]? = some (.cells cur bt (0, 0))) (hc : cur.size = cap * 3) (hg2 : w.heap[g2]? = some (.cells cur2 bt2 (0, 0))) (hc2 : cur2.size = cap2 * 3) (hne : g2 ≠ g)
    (hi : i < n) (hnc : n ≤ cap) (hroom : cap < n + 1) (hsm : n ≤ 1000000) (h12 : 1 ≤ cap2) (h1 : ∀ v ∈ cur.toList.take (n * 3), v.oneCell' = true) (h2 : ∀ v ∈ cur2.toList.take 3, v.oneCell' = true) :
    Calls Try.prog 40 #[.slice (some ⟨g, 0, none⟩) n cap, .int .i64 i, .slice (some ⟨g2, 0, none⟩) 1 cap2] w fun e w' => ∃ g' cap', e = .returned (.slice (some ⟨g', 0, none⟩) (n + 1) cap') ∧
      InsAt w w' (some g) g' cap' 3 (n + 1) (cur.toList.take (i * 3) ++ cur2.toList.take 3 ++ (cur.toList.take (n * 3)).drop (i * 3)) := by
  have u23 := run_underlying (P := Try.prog) Try.underlying23
  have mixed := hmix
  obtain ⟨inf, _, z, hinf, _, hz, hzs, hje, _⟩ := ti_info ti36
  have hsz : inf.size = 3 := by simpa using (congrArg TI.size hje).symm
  have hby : inf.bytes = 24 := by simpa using (congrArg TI.bytes hje).symm
  have hso : ∀ w, (sizeOf 36).run Try.prog w = .ok 3 w := fun w => by simp [sizeOf, typeInfo, hinf, hsz]
  have hcap63 : cap ≤ 9223372036854775807 := by omega
  have hw1 : IntKind.i64.wrap ((i : Int) + 1) = (i : Int) + 1 := by rw [IntKind.wrap_i64]; omega
  have hw2 : IntKind.i64.wrap ((n : Int) + 1) = (n : Int) + 1 := by rw [IntKind.wrap_i64]; omega
  have hw3 : IntKind.i64.wrap ((n : Int) + 1 - (i : Int)) = (n : Int) + 1 - (i : Int) := by rw [IntKind.wrap_i64]; omega
  have hb1 : (0 : Int) ≤ (i : Int) + 1 := by omega
  have hin : i ≤ n := by omega
  have hb3 : (i : Int) ≤ (n : Int) := by omega
  have hb4 : ¬ (cap = i) := by omega
  have hb5 : (i : Int) + 1 ≤ (n : Int) + 1 := by omega
  have hz3 : (cap : Int) < (n : Int) + 1 := by omega
  have htn : ((i : Int) + 1).toNat = i + 1 := by omega
  have hik : i + (n + 1 - i) = n + 1 := by omega
  have hkk : (n : Int) + 1 - (i : Int) = ((n + 1 - i : Nat) : Int) := by omega
  have hgw : g < w.heap.size := heap_lt hg
  have hgw2 : g2 < w.heap.size := heap_lt hg2
  obtain ⟨G, hG⟩ : ∃ G, G = grownCap w (n + 1) cap 36 := ⟨_, rfl⟩
  have hGn : n + 1 ≤ G := by rw [hG]; exact grownCap_ge w _ _ _
  have hGm : G ≤ maxLen := by rw [hG]; exact grownCap_le_maxLen w (n + 1) cap 36 (by unfold maxLen; omega)
  have hG63 : G ≤ 9223372036854775807 := by simp only [maxLen] at hGm; omega
  have hGi : ¬ (G = i) := by omega
  have hGim : ¬ (G = i + 1) := by omega
  obtain ⟨ROW, hROW⟩ : ∃ ROW : Array Value, ROW = (cur.toList.take (i * 3)).toArray ++ Builtin.zeroCells z.cells (n + 1 - i) ++ Builtin.zeroCells z.cells (G - (n + 1)) := ⟨_, rfl⟩
  have hRs : ROW.size = G * 3 := by
    rw [hROW]
    simp only [Array.size_append, size_zeroCells, hzs, hsz, List.size_toArray, List.length_take, Array.length_toList, hc]
    omega
  have hRt : ROW.toList.take (i * 3) = cur.toList.take (i * 3) := by
    rw [hROW]
    simp only [Array.toList_append, List.append_assoc]
    exact List.take_left' (by simp; omega)
  have hrz : ∀ ty, (Builtin.append_ #[23, 3] ty #[.slice (some ⟨g, 0, none⟩) i cap, .int .i64 ((n : Int) + 1 - (i : Int))]).run Try.prog w = .ok (.slice (some ⟨w.heap.size, 0, none⟩) (n + 1) G) (w.drew.alloc (.cells ROW 36)) := fun ty => by
    have hold : (Builtin.firstCells inf.size i (.slice (some ⟨g, 0, none⟩) i cap)).run Try.prog w.drew = .ok (cur.toList.take (i * 3)).toArray w.drew :=
      run_firstCells_some (P := Try.prog) w.drew inf.size i ⟨g, 0, none⟩ i cap (cur.toList.take (i * 3)) (by rw [hsz]; simp; omega) (row_read (w := w.drew) (off := 0) (n := i * 3) hg (by simp))
    have h := Lib.run_append_grow_zeros w 23 3 ty 36 inf z .i64 .i64 Try.underlying23 Try.underlying3 hinf hz (some ⟨g, 0, none⟩) i cap (cur.toList.take (i * 3)) hold (n + 1 - i) (by omega) (by omega) (by omega) (by omega) (by rw [hby]; omega) (by rw [hby, hik]; exact growslice_fits hroom (by omega))
    rw [hik, ← hG, ← hROW] at h
    rw [hkk]
    exact h
  obtain ⟨W1, hW1⟩ : ∃ W1, W1 = w.drew.alloc (.cells ROW 36) := ⟨_, rfl⟩
  obtain ⟨M, hM⟩ : ∃ M, M = w.heap.size := ⟨_, rfl⟩
  have hWM : W1.heap[M]? = some (.cells ROW 36 (0, 0)) := by rw [hW1, hM]; exact heap_alloc_new w.drew _
  have hWg : W1.heap[g]? = some (.cells cur bt (0, 0)) := by rw [hW1, heap_alloc_old w.drew _ (show g < w.drew.heap.size from hgw)]; exact hg
  have hWg2 : W1.heap[g2]? = some (.cells cur2 bt2 (0, 0)) := by rw [hW1, heap_alloc_old w.drew _ (show g2 < w.drew.heap.size from hgw2)]; exact hg2
  rw [← hW1, ← hM] at hrz
  obtain ⟨mid, hmid⟩ : ∃ mid, mid = (cur.toList.drop (i * 3)).take ((n - i) * 3) := ⟨_, rfl⟩
  have hml : mid.length = (n - i) * 3 := by rw [hmid]; simp; omega
  have hmt : mid = (cur.toList.take (n * 3)).drop (i * 3) := by rw [hmid, List.drop_take]; congr 1; omega
  have hm1 : ∀ v ∈ mid, v.oneCell' = true := fun v hv => h1 v (by rw [hmt] at hv; exact List.mem_of_mem_drop hv)
  obtain ⟨e2, he2⟩ : ∃ e2, e2 = (cur2.toList.drop 0).take 3 := ⟨_, rfl⟩
  have hel : e2.length = 3 := by rw [he2]; simp; omega
  obtain ⟨cur1, hcur1⟩ : ∃ cur1 : Array Value, cur1 = (ROW.toList.take (i * 3) ++ e2 ++ ROW.toList.drop (i * 3 + e2.length)).toArray := ⟨_, rfl⟩
  obtain ⟨cur3, hcur3⟩ : ∃ cur3 : Array Value, cur3 = (cur1.toList.take (i * 3 + 3) ++ mid ++ cur1.toList.drop (i * 3 + 3 + mid.length)).toArray := ⟨_, rfl⟩
  obtain ⟨hc1, hc3, hfin⟩ := lay_row (b := (n - i) * 3) hel hml (by simp; omega) (congrArg Array.toList hcur1) (congrArg Array.toList hcur3)
  simp only [Array.length_toList] at hc1 hc3
  rw [hRt, hmt, show i * 3 + 3 + (n - i) * 3 = (n + 1) * 3 by omega] at hfin
  have hi3 : (i + 1) * 3 = i * 3 + 3 := by omega
  have hM1 : (W1.setRow M cur1).heap[M]? = some (.cells cur1 36 (0, 0)) := setRow_heap W1 M ROW cur1 36 (0, 0) hWM
  have hMg : (W1.setRow M cur1).heap[g]? = some (.cells cur bt (0, 0)) := by rw [setRow_other W1 M g cur1 (by omega)]; exact hWg
  have hcp1 : ∀ ty dc sc, (Builtin.copy_ #[23, 23] ty #[.slice (some ⟨M, i * 3, none⟩) (n + 1 - i) dc, .slice (some ⟨g2, 0, none⟩) 1 sc]).run Try.prog W1 = .ok (goInt (1 : Nat)) (W1.setRow M cur1) := fun ty dc sc => by
    have h := copy_row (P := Try.prog) W1 23 23 ty 36 inf Try.underlying23 hinf M (i * 3) (n + 1 - i) dc ⟨g2, 0, none⟩ 1 sc e2 (row_read hWg2 he2) (by rw [hel, hsz]; simp only [Nat.min_def]; split <;> omega) (fun v hv => h2 v (by rw [he2] at hv; simpa using hv)) hWM (by omega)
    rw [h, ← hcur1]
    congr 2
    simp only [Nat.min_def]; split <;> omega
  have hcp2 : ∀ ty dc sc, (Builtin.copy_ #[23, 23] ty #[.slice (some ⟨M, (i + 1) * 3, none⟩) (n + 1 - (i + 1)) dc, .slice (some ⟨g, i * 3, none⟩) (n - i) sc]).run Try.prog (W1.setRow M cur1).drew = .ok (goInt (n - i : Nat)) ((W1.setRow M cur1).drew.setRow M cur3) := fun ty dc sc => by
    have h := copy_row (P := Try.prog) (W1.setRow M cur1).drew 23 23 ty 36 inf Try.underlying23 hinf M ((i + 1) * 3) (n + 1 - (i + 1)) dc ⟨g, i * 3, none⟩ (n - i) sc mid (row_read (w := (W1.setRow M cur1).drew) hMg hmid) (by rw [hml, hsz]; congr 1; simp only [Nat.min_def]; split <;> omega) hm1 hM1 (by omega)
    rw [h, hi3, ← hcur3]
    congr 2
    simp only [Nat.min_def]; split <;> omega
  have hfin' : InsAt w ((W1.setRow M cur1).drew.setRow M cur3) (some g) M G 3 (n + 1) (cur.toList.take (i * 3) ++ cur2.toList.take 3 ++ (cur.toList.take (n * 3)).drop (i * 3)) := by
    refine ⟨.inr (by omega), hGn, hGm, ⟨cur3, 36, setRow_heap _ M cur1 cur3 36 (0, 0) hM1, by omega, ?_⟩, fun k hk hkM => ?_, ?_, fun w0 h0 hb => ?_⟩
    · rw [hfin, he2]; simp
    · rw [setRow_other _ M k cur3 hkM]
      show (W1.setRow M cur1).heap[k]? = _
      rw [setRow_other W1 M k cur1 hkM, hW1, heap_alloc_old w.drew _ (show k < w.drew.heap.size from hk)]; rfl
    · simp
      rw [hW1]
      simp [World.alloc]
    · have h3 : Gr w0.w W1 := by rw [hW1]; exact h0.drew.alloc _ _
      have h4 := h0.size
      exact gr_setRow (w := (W1.setRow M cur1).drew) hM1 w0 (by omega) (gr_setRow hWM w0 (by omega) h3).drew
  clear hfin hcur1 hcur3 hmid he2 hmt hc1 hc3 hml hel hm1 h1 h2 hM1 hMg hWM hWg hWg2 hg hg2 hROW hRs hRt hG hW1 hM hkk hik hzs hz hje hgw hgw2
  go_enter Try.func40, n40
  go_wp2_with (first
    | (at_builtin; refine wpList_app rfl rfl rfl rfl (hrz _) ?_)
    | (at_builtin; refine wpList_copy rfl rfl rfl rfl (hcp1 _ _ _) ?_))
  go_region_law (refine step_copy rfl rfl (by simp [Act.eval, Act.put]; rfl) (by simp [Act.eval, Act.put]; rfl) (hcp2 _ _ _) ?_)
  go_wp2
  go_ret
  exact ⟨M, G, rfl, hfin'⟩
end
end Go.Proofs.Ytijllihnheggbaa
