/-
  The contracts of the program's functions, data in, data out. Conditions: those in the statements.
-/
import Derived.Test.YtmhnogmbpoeaeaaJ7
import Derived.Test.YtmhnogmbpoeaeaaM256
namespace Go.Proofs.Ytmhnogmbpoeaeaa
set_option linter.all false
open Go Go.Proofs.Ytmhnogmbpoeaeaa.Eng Go.RowKit
noncomputable section

/-! The lists of the law. -/
@[irreducible] def mnI (n : Nat) : List Ent := (List.range n).map fun (k : Nat) => ⟨128 + (k : Int), 0⟩
theorem mnI_zero : mnI 0 = [] := by unfold mnI; rfl
theorem mnI_succ (i : Nat) : mnI i ++ [⟨128 + (i : Int), 0⟩] = mnI (i + 1) := by unfold mnI; rw [List.range_succ, List.map_append]; rfl
theorem mnI_len (n : Nat) : (mnI n).length = n := by unfold mnI; rw [List.length_map, List.length_range]
theorem mnI_at {n j : Nat} (h : j < n) : (mnI n).getD j default = ⟨128 + (j : Int), 0⟩ := by
  unfold mnI
  simp [List.getD, h]
theorem mn_tri {i : Nat} (h : i ≤ 33) : (i < 33 ∧ decide ((i : Int) < 33) = true ∧ decide ((0 : Int) = 0) = true) ∨ (i = 33 ∧ decide ((i : Int) < 33) = false ∧ rg 2 (mnI i) = 2) := by
  rcases Nat.lt_or_ge i 33 with h1 | h1
  · exact .inl ⟨h1, decide_eq_true (by omega), rfl⟩
  · refine .inr ⟨by omega, decide_eq_false (by omega), ?_⟩
    rcases rg_or' 2 (mnI i) with h2 | h2
    · exact h2
    · have := mnI_len i
      rw [h2] at this
      simp at this
      omega
@[irreducible] def szs : List Int := [0, 255, 257, 248, 2056, -256]
theorem szs_row : [[D.v (.int .i64 0)], [D.v (.int .i64 255)], [D.v (.int .i64 257)], [D.v (.int .i64 248)], [D.v (.int .i64 2056)], [D.v (.int .i64 (-256))]] = szs.map (numD .i64) := by unfold szs; rfl
theorem szs_len : szs.length = 6 := by unfold szs; rfl
theorem szs_no {i : Nat} (h : i < 6) : sz (szs.getD i 0) = false := by
  have hc : i = 0 ∨ i = 1 ∨ i = 2 ∨ i = 3 ∨ i = 4 ∨ i = 5 := by omega
  unfold szs sz
  rcases hc with rfl | rfl | rfl | rfl | rfl | rfl <;> decide
theorem sz_tri {i : Nat} (h : i ≤ 6) : (i < 6 ∧ decide ((i : Int) < ((6 : Nat) : Int)) = true ∧ mayE (szs.getD i 0) = 2 ∧ enE (mnI 33) (szs.getD i 0) = 2) ∨ (i = 6 ∧ decide ((i : Int) < ((6 : Nat) : Int)) = false ∧ mayE 0 = 2 ∧ enE (mnI 33) 0 = 2) := by
  rcases Nat.lt_or_ge i 6 with h1 | h1
  · exact .inl ⟨h1, decide_eq_true (by omega), (may_no 0 (szs_no h1)).2, enE_2 (szs_no h1)⟩
  · have h0 : sz 0 = false := by unfold sz; decide
    exact .inr ⟨by omega, decide_eq_false (by omega), (may_no 0 h0).2, enE_2 h0⟩
@[irreducible] def bd0 : List Ent := [⟨15, 0⟩]
theorem bd0_row : [[D.v (.int .i64 15), D.v (.int .u64 0)]] = bd0.map entC := by unfold bd0; rfl
theorem bd0_len : bd0.length = 1 := by unfold bd0; rfl
theorem bd0_E : enE bd0 256 = 8 := enE_8a sz256 (by rw [bd0_len]; omega) (i := 0) (by rw [bd0_len]; omega) (by unfold bd0 frB; decide)
@[irreducible] def bd1 : List Ent := [⟨-1, 0⟩]
theorem bd1_row : [[D.v (.int .i64 (-1)), D.v (.int .u64 0)]] = bd1.map entC := by unfold bd1; rfl
theorem bd1_len : bd1.length = 1 := by unfold bd1; rfl
theorem bd1_E : enE bd1 256 = 8 := enE_8a sz256 (by rw [bd1_len]; omega) (i := 0) (by rw [bd1_len]; omega) (by unfold bd1 frB; decide)
@[irreducible] def bd2 : List Ent := [⟨24, 0⟩]
theorem bd2_row : [[D.v (.int .i64 24), D.v (.int .u64 0)]] = bd2.map entC := by unfold bd2; rfl
theorem bd2_len : bd2.length = 1 := by unfold bd2; rfl
theorem bd2_E : enE bd2 256 = 8 := enE_8a sz256 (by rw [bd2_len]; omega) (i := 0) (by rw [bd2_len]; omega) (by unfold bd2 frB; decide)
@[irreducible] def bd3 : List Ent := [⟨95, 0⟩]
theorem bd3_row : [[D.v (.int .i64 95), D.v (.int .u64 0)]] = bd3.map entC := by unfold bd3; rfl
theorem bd3_len : bd3.length = 1 := by unfold bd3; rfl
theorem bd3_E : enE bd3 256 = 8 := enE_8a sz256 (by rw [bd3_len]; omega) (i := 0) (by rw [bd3_len]; omega) (by unfold bd3 frB; decide)
@[irreducible] def bd4 : List Ent := [⟨256, 0⟩]
theorem bd4_row : [[D.v (.int .i64 256), D.v (.int .u64 0)]] = bd4.map entC := by unfold bd4; rfl
theorem bd4_len : bd4.length = 1 := by unfold bd4; rfl
theorem bd4_E : enE bd4 256 = 8 := enE_8a sz256 (by rw [bd4_len]; omega) (i := 0) (by rw [bd4_len]; omega) (by unfold bd4 frB; decide)
@[irreducible] def bd5 : List Ent := [⟨130, 0⟩, ⟨131, 0⟩, ⟨130, 0⟩]
theorem bd5_row : [[D.v (.int .i64 130), D.v (.int .u64 0)], [D.v (.int .i64 131), D.v (.int .u64 0)], [D.v (.int .i64 130), D.v (.int .u64 0)]] = bd5.map entC := by unfold bd5; rfl
theorem bd5_len : bd5.length = 3 := by unfold bd5; rfl
theorem bd5_E : enE bd5 256 = 8 := enE_8b sz256 (by rw [bd5_len]; omega) (i := 2) (k := 0) (by rw [bd5_len]; omega) (by omega) (by unfold bd5; decide)

theorem ap_l {m : List Int} (h : m.length = 256) (l : List Ent) : apE m l = enE l 256 := by rw [apE_y l (chk_l h), h]; rfl
theorem ap_b0 : apE (rep 256 0) bd0 = 8 := by rw [ap_l z_len, bd0_E]
theorem ap_b1 : apE (rep 256 0) bd1 = 8 := by rw [ap_l z_len, bd1_E]
theorem ap_b2 : apE (rep 256 0) bd2 = 8 := by rw [ap_l z_len, bd2_E]
theorem ap_b3 : apE (rep 256 0) bd3 = 8 := by rw [ap_l z_len, bd3_E]
theorem ap_b4 : apE (rep 256 0) bd4 = 8 := by rw [ap_l z_len, bd4_E]
theorem ap_b5 : apE (rep 256 0) bd5 = 8 := by rw [ap_l z_len, bd5_E]

@[irreducible] def z8 : List Int := (rep 256 (0 : Int)).take 8
theorem z8_row : List.take 8 (rep 256 (0 : Int)) = z8 := by unfold z8; rfl
theorem z8_len : z8.length = 8 := by unfold z8; rw [List.length_take, z_len]; rfl
theorem z8_U : ∀ x ∈ z8, isU x := by unfold z8; exact fun x hx => z_U x (List.mem_of_mem_take hx)
theorem mn_E : enE (mnI 33) 256 = 4 := enE_4 sz256 (by rw [mnI_len]; omega)
theorem ap_mn : apE (rep 256 0) (mnI 33) = 4 := by rw [ap_l z_len, mn_E]
theorem ap_z8 : apE z8 (mnI 33) = 8 := apE_8 _ (by rw [z8_len]; exact chk_8)
theorem rd_a : rdE (rep 256 0) (-1) = 2 := rdE_2 (chk_l z_len) (by omega)
theorem rd_b : rdE (rep 256 0) 33 = 2 := rdE_2 (chk_l z_len) (by omega)
theorem rd_z8 : rdE z8 (-1) = 8 := rdE_8 _ (by rw [z8_len]; exact chk_8)
theorem jr_one {m : List Int} {a v : Int} (h : m.getD 32 0 = a) (h2 : m.getD 33 0 = v) (ha : 0 ≤ a) (hl : a < m.length) (hm : m.length = 256) : jrV m 1 = [⟨a, v⟩] ∧ jrB m 1 = decide (enE [⟨a, v⟩] 256 = 0) := by
  have hj : jrTo m 1 := fun j hj => by obtain rfl : j = 0 := by omega
                                       rw [show 32 + 2 * 0 = 32 from rfl, h]; exact hl
  have e : jrI m 1 = [⟨a, v⟩] := by
    rw [← jrI_succ, jrI_zero, show 32 + 2 * 0 = 32 from rfl, show 33 + 2 * 0 = 33 from rfl, h, h2, IntWalk.i64_in _ (by omega)]
    rfl
  have h3 := jr_good hj
  rw [e, hm] at h3
  exact h3
theorem rd_c : rdE (rep 256 0) 1 = 50 := by
  have h := jr_one (z_get 32) (z_get 33) (by omega) (by rw [z_len]; decide) z_len
  refine rdE_50 (chk_l z_len) (by omega) ?_
  rw [show (1 : Int).toNat = 1 from rfl, h.2, enE_8a sz256 (by simp) (i := 0) (by simp) (by unfold frB; decide)]
  rfl
theorem rd_d : rdE (rep 256 0) 0 = 0 ∧ rdL (rep 256 0) 0 = [] := by
  have hj : jrTo (rep 256 (0 : Int)) 0 := fun j hj => absurd hj (by omega)
  have h := jr_good hj
  rw [jrI_zero] at h
  have e : rdE (rep 256 0) 0 = 0 := rdE_0 (chk_l z_len) (by omega) (by
    rw [show (0 : Int).toNat = 0 from rfl, h.2, z_len, show ((256 : Nat) : Int) = 256 from rfl, enE_0 sz256 (by simp) (fun j hj => absurd hj (by simp))]; rfl)
  exact ⟨e, by rw [rdL_0 e, show (0 : Int).toNat = 0 from rfl, h.1]⟩
@[irreducible] def m1 : List Int := ((rep 256 (0 : Int)).set 32 255).set 33 9
@[irreducible] def m2 : List Int := m1.set 34 9223372036854776063
@[irreducible] def o8 : List Ent := [⟨255, 9⟩]
theorem o8_row : [[D.v (.int .i64 255), D.v (.int .u64 9)]] = o8.map entC := by unfold o8; rfl
theorem o8_len : o8.length = 1 := by unfold o8; rfl
theorem m0_row : List.set (List.map (numD .u64) (rep 256 (0 : Int))) 32 [D.v (.int .u64 255)] = List.map (numD .u64) ((rep 256 (0 : Int)).set 32 255) := by rw [List.map_set]; rfl
theorem m1_row : List.set (List.map (numD .u64) ((rep 256 (0 : Int)).set 32 255)) 33 [D.v (.int .u64 9)] = List.map (numD .u64) m1 := by unfold m1; rw [List.map_set (l := (rep 256 (0 : Int)).set 32 255)]; rfl
theorem m2_row : List.set (List.map (numD .u64) m1) 34 [D.v (.int .u64 9223372036854776063)] = List.map (numD .u64) m2 := by unfold m2; rw [List.map_set]; rfl
theorem z_set : ((rep 256 (0 : Int)).set 32 255).length = 256 := by rw [List.length_set, z_len]
theorem m1_len0 : decide (((1 : Nat) : Int) = 0) = false := rfl
theorem m1_len : m1.length = 256 := by unfold m1; rw [List.length_set, List.length_set, z_len]
theorem m2_len : m2.length = 256 := by unfold m2; rw [List.length_set, m1_len]
theorem m1_U : ∀ x ∈ m1, isU x := by unfold m1; exact set_U (set_U z_U _ (by unfold isU; omega)) _ (by unfold isU; omega)
theorem m2_U : ∀ x ∈ m2, isU x := by unfold m2; exact set_U m1_U _ (by unfold isU; omega)
theorem rd_e : rdE m1 1 = 0 ∧ rdL m1 1 = o8 := by
  have h := jr_one (m := m1) (a := 255) (v := 9) (by unfold m1; simp [List.getD, z_len]) (by unfold m1; simp [List.getD, z_len]) (by omega) (by rw [m1_len]; decide) m1_len
  have e : rdE m1 1 = 0 := rdE_0 (chk_l m1_len) (by omega) (by
    rw [show (1 : Int).toNat = 1 from rfl, h.2, enE_0 sz256 (by simp) (fun j hj => ?_)]
    · rfl
    · obtain rfl : j = 0 := by simp at hj; omega
      exact ⟨frB_iff.2 (by decide), fun k hk => absurd hk (by omega)⟩)
  exact ⟨e, by rw [rdL_0 e, show (1 : Int).toNat = 1 from rfl, h.1]; unfold o8; rfl⟩
theorem rd_f : rdE m2 2 = 50 := rdE_50 (chk_l m2_len) (by omega) (jr_bad (n := 2) (i := 1) (by omega) (by rw [m2_len]; unfold m2; simp [List.getD, m1_len])).2
@[irreducible] def mn32 : List Ent := (mnI 33).take 32
theorem mn32_row : List.take 32 (mnI 33) = mn32 := by unfold mn32; rfl
theorem mn32_len : mn32.length = 32 := by unfold mn32; rw [List.length_take, mnI_len]; rfl
theorem mn32_E : enE mn32 256 = 0 := by
  have hg : ∀ j < 32, mn32.getD j default = ⟨128 + (j : Int), 0⟩ := fun j hj => by
    unfold mn32
    rw [List.getD, List.getElem?_take_of_lt hj]
    exact mnI_at (by omega)
  refine enE_0 sz256 (by rw [mn32_len]; omega) (fun j hj => ?_)
  rw [mn32_len] at hj
  rw [hg j hj]
  refine ⟨frB_iff.2 (by dsimp only; omega), fun k hk => ?_⟩
  rw [hg k (by omega)]
  dsimp only
  omega
theorem may255 : mayB 255 256 = true := by rw [(may_yes 255 sz256).1]; unfold frB; decide
theorem may256 : mayB 256 256 = false := by rw [(may_yes 256 sz256).1]; unfold frB; decide
theorem le6 {i : Nat} (h : i ≤ 6) : i = 0 ∨ i = 1 ∨ i = 2 ∨ i = 3 ∨ i = 4 ∨ i = 5 ∨ i = 6 := by omega
theorem ds0n : decide (((0 : Nat) : Int) = 0) = true := rfl
theorem ka_b0 : Con Try.prog 13 [sN .u64 (rep 256 0), sEn bd0] [rO .u64 [], rN .i64 8] := by
  have h := k_entry_Apply (rep 256 0) bd0 (by rw [bd0_len]; omega) (by rw [z_len]; omega)
  rwa [apV_no (by rw [ap_b0]; decide), ap_b0] at h
theorem ka_b1 : Con Try.prog 13 [sN .u64 (rep 256 0), sEn bd1] [rO .u64 [], rN .i64 8] := by
  have h := k_entry_Apply (rep 256 0) bd1 (by rw [bd1_len]; omega) (by rw [z_len]; omega)
  rwa [apV_no (by rw [ap_b1]; decide), ap_b1] at h
theorem ka_b2 : Con Try.prog 13 [sN .u64 (rep 256 0), sEn bd2] [rO .u64 [], rN .i64 8] := by
  have h := k_entry_Apply (rep 256 0) bd2 (by rw [bd2_len]; omega) (by rw [z_len]; omega)
  rwa [apV_no (by rw [ap_b2]; decide), ap_b2] at h
theorem ka_b3 : Con Try.prog 13 [sN .u64 (rep 256 0), sEn bd3] [rO .u64 [], rN .i64 8] := by
  have h := k_entry_Apply (rep 256 0) bd3 (by rw [bd3_len]; omega) (by rw [z_len]; omega)
  rwa [apV_no (by rw [ap_b3]; decide), ap_b3] at h
theorem ka_b4 : Con Try.prog 13 [sN .u64 (rep 256 0), sEn bd4] [rO .u64 [], rN .i64 8] := by
  have h := k_entry_Apply (rep 256 0) bd4 (by rw [bd4_len]; omega) (by rw [z_len]; omega)
  rwa [apV_no (by rw [ap_b4]; decide), ap_b4] at h
theorem ka_b5 : Con Try.prog 13 [sN .u64 (rep 256 0), sEn bd5] [rO .u64 [], rN .i64 8] := by
  have h := k_entry_Apply (rep 256 0) bd5 (by rw [bd5_len]; omega) (by rw [z_len]; omega)
  rwa [apV_no (by rw [ap_b5]; decide), ap_b5] at h
theorem ka_mn : Con Try.prog 13 [sN .u64 (rep 256 0), sEn (mnI 33)] [rO .u64 [], rN .i64 4] := by
  have h := k_entry_Apply (rep 256 0) (mnI 33) (by rw [mnI_len]; omega) (by rw [z_len]; omega)
  rwa [apV_no (by rw [ap_mn]; decide), ap_mn] at h
theorem ka_z8 : Con Try.prog 13 [sN .u64 z8, sEn (mnI 33)] [rO .u64 [], rN .i64 8] := by
  have h := k_entry_Apply z8 (mnI 33) (by rw [mnI_len]; omega) (by rw [z8_len]; omega)
  rwa [apV_no (by rw [ap_z8]; decide), ap_z8] at h
theorem kw_b0 : Con Try.prog 11 [sEn bd0, vN .i64 256] [rO .u64 [], rN .i64 8] := by
  have h := k_entry_Words bd0 256 (by rw [bd0_len]; omega)
  rwa [enWs_no (by rw [bd0_E]; decide), bd0_E] at h
theorem kc_b0 : Con Try.prog 12 [sEn bd0, vN .i64 256] [rN .i64 8] := by
  have h := k_entry_Check bd0 256 (by rw [bd0_len]; omega)
  rwa [bd0_E] at h
theorem kw_b1 : Con Try.prog 11 [sEn bd1, vN .i64 256] [rO .u64 [], rN .i64 8] := by
  have h := k_entry_Words bd1 256 (by rw [bd1_len]; omega)
  rwa [enWs_no (by rw [bd1_E]; decide), bd1_E] at h
theorem kc_b1 : Con Try.prog 12 [sEn bd1, vN .i64 256] [rN .i64 8] := by
  have h := k_entry_Check bd1 256 (by rw [bd1_len]; omega)
  rwa [bd1_E] at h
theorem kw_b2 : Con Try.prog 11 [sEn bd2, vN .i64 256] [rO .u64 [], rN .i64 8] := by
  have h := k_entry_Words bd2 256 (by rw [bd2_len]; omega)
  rwa [enWs_no (by rw [bd2_E]; decide), bd2_E] at h
theorem kc_b2 : Con Try.prog 12 [sEn bd2, vN .i64 256] [rN .i64 8] := by
  have h := k_entry_Check bd2 256 (by rw [bd2_len]; omega)
  rwa [bd2_E] at h
theorem kw_b3 : Con Try.prog 11 [sEn bd3, vN .i64 256] [rO .u64 [], rN .i64 8] := by
  have h := k_entry_Words bd3 256 (by rw [bd3_len]; omega)
  rwa [enWs_no (by rw [bd3_E]; decide), bd3_E] at h
theorem kc_b3 : Con Try.prog 12 [sEn bd3, vN .i64 256] [rN .i64 8] := by
  have h := k_entry_Check bd3 256 (by rw [bd3_len]; omega)
  rwa [bd3_E] at h
theorem kw_b4 : Con Try.prog 11 [sEn bd4, vN .i64 256] [rO .u64 [], rN .i64 8] := by
  have h := k_entry_Words bd4 256 (by rw [bd4_len]; omega)
  rwa [enWs_no (by rw [bd4_E]; decide), bd4_E] at h
theorem kc_b4 : Con Try.prog 12 [sEn bd4, vN .i64 256] [rN .i64 8] := by
  have h := k_entry_Check bd4 256 (by rw [bd4_len]; omega)
  rwa [bd4_E] at h
theorem kw_b5 : Con Try.prog 11 [sEn bd5, vN .i64 256] [rO .u64 [], rN .i64 8] := by
  have h := k_entry_Words bd5 256 (by rw [bd5_len]; omega)
  rwa [enWs_no (by rw [bd5_E]; decide), bd5_E] at h
theorem kc_b5 : Con Try.prog 12 [sEn bd5, vN .i64 256] [rN .i64 8] := by
  have h := k_entry_Check bd5 256 (by rw [bd5_len]; omega)
  rwa [bd5_E] at h
theorem kc_32 : Con Try.prog 12 [sEn mn32, vN .i64 256] [rN .i64 0] := by
  have h := k_entry_Check mn32 256 (by rw [mn32_len]; omega)
  rwa [mn32_E] at h
theorem kr_a : Con Try.prog 14 [sN .u64 (rep 256 0), vN .i64 (-1)] [rEn [], rN .i64 2] := by
  have h := k_entry_Read (rep 256 0) z_U (-1) (by rw [z_len]; omega)
  rwa [rdL_no (by rw [rd_a]; decide), rd_a] at h
theorem kr_b : Con Try.prog 14 [sN .u64 (rep 256 0), vN .i64 (33)] [rEn [], rN .i64 2] := by
  have h := k_entry_Read (rep 256 0) z_U (33) (by rw [z_len]; omega)
  rwa [rdL_no (by rw [rd_b]; decide), rd_b] at h
theorem kr_c : Con Try.prog 14 [sN .u64 (rep 256 0), vN .i64 (1)] [rEn [], rN .i64 50] := by
  have h := k_entry_Read (rep 256 0) z_U (1) (by rw [z_len]; omega)
  rwa [rdL_no (by rw [rd_c]; decide), rd_c] at h
theorem kr_d : Con Try.prog 14 [sN .u64 (rep 256 0), vN .i64 (0)] [rEn [], rN .i64 0] := by
  have h := k_entry_Read (rep 256 0) z_U (0) (by rw [z_len]; omega)
  rwa [rd_d.2, rd_d.1] at h
theorem kr_e : Con Try.prog 14 [sN .u64 z8, vN .i64 (-1)] [rEn [], rN .i64 8] := by
  have h := k_entry_Read z8 z8_U (-1) (by rw [z8_len]; omega)
  rwa [rdL_no (by rw [rd_z8]; decide), rd_z8] at h
theorem kr_f : Con Try.prog 14 [sN .u64 m1, vN .i64 (1)] [rEn o8, rN .i64 0] := by
  have h := k_entry_Read m1 m1_U (1) (by rw [m1_len]; omega)
  rwa [rd_e.2, rd_e.1] at h
theorem kr_g : Con Try.prog 14 [sN .u64 m2, vN .i64 (2)] [rEn [], rN .i64 50] := by
  have h := k_entry_Read m2 m2_U (2) (by rw [m2_len]; omega)
  rwa [rdL_no (by rw [rd_f]; decide), rd_f] at h
theorem km_a : Con Try.prog 10 [vN .i64 255, vN .i64 256] [rB true, rN .i64 0] := by
  have h := k_entry_May 255 256
  rwa [may255, mayE256] at h
theorem km_b : Con Try.prog 10 [vN .i64 256, vN .i64 256] [rB false, rN .i64 0] := by
  have h := k_entry_May 256 256
  rwa [may256, mayE256] at h
theorem km_s {i : Nat} (h : i < 6) : Con Try.prog 10 [vN .i64 130, vN .i64 (szs.getD i 0)] [rB false, rN .i64 2] := by
  have h1 := k_entry_May 130 (szs.getD i 0)
  rwa [(may_no 130 (szs_no h)).1, (may_no 130 (szs_no h)).2] at h1
theorem kw_s {i : Nat} (h : i < 6) : Con Try.prog 11 [sEn (mnI 33), vN .i64 (szs.getD i 0)] [rO .u64 [], rN .i64 2] := by
  have h1 := k_entry_Words (mnI 33) (szs.getD i 0) (by rw [mnI_len]; omega)
  rwa [enWs_no (by rw [enE_2 (szs_no h)]; decide), enE_2 (szs_no h)] at h1
theorem kc_s {i : Nat} (h : i < 6) : Con Try.prog 12 [sEn (mnI 33), vN .i64 (szs.getD i 0)] [rN .i64 2] := by
  have h1 := k_entry_Check (mnI 33) (szs.getD i 0) (by rw [mnI_len]; omega)
  rwa [enE_2 (szs_no h)] at h1
theorem sz6_tri {i : Nat} (h : i ≤ 6) : (i < 6 ∧ decide ((i : Int) < ((6 : Nat) : Int)) = true) ∨ (i = 6 ∧ decide ((i : Int) < ((6 : Nat) : Int)) = false) := by
  rcases Nat.lt_or_ge i 6 with h1 | h1
  · exact .inl ⟨h1, decide_eq_true (by omega)⟩
  · exact .inr ⟨by omega, decide_eq_false (by omega)⟩
namespace X445723c
def XX := (And.intro (And.intro (And.intro @tdiv8 (And.intro @tmod8 @toNatAddI)) (And.intro (And.intro @toNatSubI @takeAll) (And.intro @takeDropAll @getD_entC))) (And.intro (And.intro @List.all_cons.{0} (And.intro @List.all_nil.{0} @List.getElem?_cons_zero.{0})) (And.intro (And.intro @List.getElem?_cons_succ.{0} @Bool.and_self) (And.intro @List.cons_append.{0} @Nat.mul_one))))
def XN := @Nat.zero_add
def XR := (And.intro (And.intro @rBy.eq_1 @rSup.eq_1) (And.intro @supP_len (And.intro @rB2.eq_1 @rEn.eq_1)))
def XH := @Nat.zero_add
def XG := @Nat.zero_add
end X445723c
set_option maxHeartbeats 4000000 in
set_option maxRecDepth 10000 in
open X445723c in
theorem k_law08_EntryNames  : Con Try.prog 3 [] [rB true] := by
  refine con_of_awp hmix Try.func3 s3 rfl (by rw [n3]; simp) r3 n3 ?_
  simp only [Eng.start, startFr, inX, sN, vN, List.map_cons, List.map_nil, supA, supC, sEn, c3]
  (repeat' (first
    | (refine isR ?_; first | refine aOp ?_ | refine aOp2 ?_ | refine aOff1 ?_ | refine aOff2 ?_ | (refine aSplit ?_ ?_ <;> intro hsp) | (refine RegA.done ‹_› ?_; first | refine aKeep [0, 1, 2, 3, 4, 6, 8, 9, 10, 11, 13, 15, 17, 19, 21, 23, 25, 26, 27, 29, 30, 31, 33, 34, 35, 36, 37, 38, 40, 53, 87, 107, 140] ?_ | skip))
    | (refine isA ?_; first | refine awp_seq fun K hK => ?_ | refine Awp.reg ?_ | refine Awp.skip ?_ | refine Awp.block ?_ | refine Awp.scope ?_ | refine aCt ?_ | refine aCf ?_ | (refine aCond ?_ ?_ <;> intro hsp) | (refine Awp.exit ?_; simp only [blockQ, thenQ, scopeQ, ↓reduceIte, Nat.reduceEqDiff]))
    | (refine viaK ‹_› ?_; first | refine aKeep [0, 1, 2, 3, 4, 6, 8, 9, 10, 11, 13, 15, 17, 19, 21, 23, 25, 26, 27, 29, 30, 31, 33, 34, 35, 36, 37, 38, 40, 53, 87, 107, 140] ?_ | skip)
    | simp only [thenQ_normal, blockQ_normal]))
  refine Awp.loopK (α := {i : Nat // i ≤ 33}) (fun x => [(2, vv (.int .i64 (x.1 : Int))), (1, one (.own 0 x.1))]) (fun x => [(0, .row (rg 2 (mnI x.1)) ((mnI x.1).map entC) false)]) [0] [] (fun x => 33 - x.1) ⟨0, by omega⟩ [] (by simp only [List.filterMap_cons, List.filterMap_nil, lk_nil, lk_cons, ↓reduceIte, Nat.reduceEqDiff, Option.map_some, Option.map_none]; rfl) (by simp only [List.filterMap_cons, List.filterMap_nil, lk_nil, lk_cons, ↓reduceIte, Nat.reduceEqDiff, Option.map_some, Option.map_none]; rfl) rfl rfl ?_ ?_
  · simp only [Wk, frIn, hpIn, lk_nil, lk_cons, renV, renX, renC, belV, belX, belC, belL, belB, List.cons_append, List.nil_append, ↓reduceIte, Nat.reduceEqDiff, and_self, and_true, true_and] <;> simp [-List.getD_eq_getElem?_getD, vv, one, renV, renX, renC, belV, belX, belC, belL, belB, rho, renO, belO, lk_nil, lk_cons, rg_nil, mnI_zero]
  · rintro ⟨i, hi⟩
    have hcl := mnI_len i
    dsimp only
    simp only [vv, one, List.cons_append, List.nil_append]
    rcases mn_tri hi with ⟨h1, e0, e1⟩ | ⟨h1, e0, e1⟩ <;>
    (have XH := (And.intro (And.intro @e0 @e1) (And.intro (@rg_or Ent) (And.intro @List.length_append.{0} @hcl))); have XG := (And.intro (And.intro (And.intro (And.intro @e0 @e1) (And.intro @ent_snoc @szs_row)) (And.intro (And.intro @List.take_succ_cons.{0} @List.take_zero.{0}) (And.intro @List.take_nil.{0} (And.intro @List.length_cons.{0} @List.length_nil.{0})))) (And.intro (And.intro (And.intro @Nat.zero_add @List.drop_succ_cons.{0}) (And.intro @List.drop_zero.{0} @List.drop_nil.{0})) (And.intro (And.intro @Nat.zero_mul @Nat.mul_one) (And.intro @List.nil_append.{0} (And.intro @List.cons_append.{0} @List.append_nil.{0}))))); (repeat' (first
      | (refine isR ?_; first | refine aOp ?_ | refine aOp2 ?_ | refine aOff1 ?_ | refine aOff2 ?_ | (refine aSplit ?_ ?_ <;> intro hsp) | (refine RegA.done ‹_› ?_; first | refine aKeep [0, 1, 2, 3, 4, 6, 8, 9, 10, 11, 13, 15, 17, 19, 21, 23, 25, 26, 27, 29, 30, 31, 33, 34, 35, 36, 37, 38, 40, 53, 87, 107, 140] ?_ | skip))
      | (refine isA ?_; first | refine awp_seq fun K hK => ?_ | refine Awp.reg ?_ | refine Awp.skip ?_ | refine Awp.block ?_ | refine Awp.scope ?_ | refine aCt ?_ | refine aCf ?_ | (refine aCond ?_ ?_ <;> intro hsp) | (refine Awp.exit ?_; simp only [blockQ, thenQ, scopeQ, ↓reduceIte, Nat.reduceEqDiff]))
      | (refine viaK ‹_› ?_; first | refine aKeep [0, 1, 2, 3, 4, 6, 8, 9, 10, 11, 13, 15, 17, 19, 21, 23, 25, 26, 27, 29, 30, 31, 33, 34, 35, 36, 37, 38, 40, 53, 87, 107, 140] ?_ | skip)
      | simp only [thenQ_normal, blockQ_normal])); all_goals (clear XH; clear XG))
    · have e3 := mnI_succ i
      have e4 := rg_snoc 2 (mnI i) ⟨128 + (i : Int), 0⟩
      refine RegA.nil ⟨⟨i + 1, by omega⟩, [], ?_, ?_⟩
      · simp only [Wk, frIn, hpIn, lk_nil, lk_cons, renV, renX, renC, belV, belX, belC, belL, belB, List.cons_append, List.nil_append, ↓reduceIte, Nat.reduceEqDiff, and_self, and_true, true_and] <;> simp [-List.getD_eq_getElem?_getD, vv, one, renV, renX, renC, belV, belX, belC, belL, belB, rho, renO, belO, lk_nil, lk_cons, ← e3, e4]
      · (simp only []; omega)
    · subst h1
      refine Awp.loopK (α := {i : Nat // i ≤ 6}) (fun x => [(0, vv (.bool false)), (4, vv (.int .i64 (x.1 : Int)))]) (fun x => []) [1, 3] [0, 1] (fun x => 6 - x.1) ⟨0, by omega⟩ [] (by simp only [List.filterMap_cons, List.filterMap_nil, lk_nil, lk_cons, ↓reduceIte, Nat.reduceEqDiff, Option.map_some, Option.map_none]; rfl) (by simp only [List.filterMap_cons, List.filterMap_nil, lk_nil, lk_cons, ↓reduceIte, Nat.reduceEqDiff, Option.map_some, Option.map_none]; rfl) rfl rfl ?_ ?_
      · simp only [Wk, frIn, hpIn, lk_nil, lk_cons, renV, renX, renC, belV, belX, belC, belL, belB, List.cons_append, List.nil_append, ↓reduceIte, Nat.reduceEqDiff, and_self, and_true, true_and] <;> simp [-List.getD_eq_getElem?_getD, vv, one, renV, renX, renC, belV, belX, belC, belL, belB, rho, renO, belO, lk_nil, lk_cons]
      · rintro ⟨i, hi⟩
        simp only [vv, one, List.cons_append, List.nil_append]
        rcases sz6_tri hi with ⟨h1, e0⟩ | ⟨h1, e0⟩ <;>
        (have XH := (And.intro (And.intro (And.intro @e0 (mnI_len 33)) (And.intro @eq_self.{1} (And.intro @szs_len @bd0_len))) (And.intro (And.intro @bd1_len @bd2_len) (And.intro @bd3_len (And.intro @bd4_len @bd5_len)))); have XG := (And.intro (And.intro (And.intro @e0 @eq_self.{1}) (And.intro @bd0_row @bd1_row)) (And.intro (And.intro @bd2_row @bd3_row) (And.intro @bd4_row (And.intro @bd5_row @List.nil_append.{0})))); (repeat' (first
          | (refine isR ?_; first | (refine isC ?_; first | (refine isF 10 ?_; first | (refine aCallF 10 ?_; apply aE3; exact km_s (i := i) (by omega); exact flatA; refine aPost ?_)) | (refine isF 11 ?_; first | (refine aCallF 11 ?_; apply aE3; exact kw_s (i := i) (by omega); exact flatA; refine aPost ?_)) | (refine isF 12 ?_; first | (refine aCallF 12 ?_; apply aE3; exact kc_s (i := i) (by omega); exact flatA; refine aPost ?_))) | refine aMk256 ?_ | refine aOp ?_ | refine aOp2 ?_ | refine aOff1 ?_ | refine aOff2 ?_ | (refine aSplit ?_ ?_ <;> intro hsp) | (refine RegA.done ‹_› ?_; first | refine aKeep [0, 1, 2, 3, 4, 6, 8, 9, 10, 11, 13, 15, 17, 19, 21, 23, 25, 26, 27, 29, 30, 31, 33, 34, 35, 36, 37, 38, 40, 53, 87, 107, 140] ?_ | skip))
          | (refine isA ?_; first | refine awp_seq fun K hK => ?_ | refine Awp.reg ?_ | refine Awp.skip ?_ | refine Awp.block ?_ | refine Awp.scope ?_ | refine aCt ?_ | refine aCf ?_ | (refine aCond ?_ ?_ <;> intro hsp) | (refine Awp.exit ?_; simp only [blockQ, thenQ, scopeQ, ↓reduceIte, Nat.reduceEqDiff]))
          | (refine viaK ‹_› ?_; first | refine aKeep [0, 1, 2, 3, 4, 6, 8, 9, 10, 11, 13, 15, 17, 19, 21, 23, 25, 26, 27, 29, 30, 31, 33, 34, 35, 36, 37, 38, 40, 53, 87, 107, 140] ?_ | skip)
          | simp only [thenQ_normal, blockQ_normal])); all_goals (clear XH; clear XG))
        · refine RegA.nil ⟨⟨i + 1, by omega⟩, [], ?_, ?_⟩
          · simp only [Wk, frIn, hpIn, lk_nil, lk_cons, renV, renX, renC, belV, belX, belC, belL, belB, List.cons_append, List.nil_append, ↓reduceIte, Nat.reduceEqDiff, and_self, and_true, true_and] <;> simp [-List.getD_eq_getElem?_getD, vv, one, renV, renX, renC, belV, belX, belC, belL, belB, rho, renO, belO, lk_nil, lk_cons]
          · (simp only []; omega)
        · refine Awp.loopK (α := {i : Nat // i ≤ 6}) (fun x => [(0, vv (.bool false)), (11, vv (.int .i64 (x.1 : Int)))]) (fun x => []) [1, 9, 10] [0, 2, 3, 4, 5, 6, 7, 8, 9] (fun x => 6 - x.1) ⟨0, by omega⟩ [] (by simp only [List.filterMap_cons, List.filterMap_nil, lk_nil, lk_cons, ↓reduceIte, Nat.reduceEqDiff, Option.map_some, Option.map_none]; rfl) (by simp only [List.filterMap_cons, List.filterMap_nil, lk_nil, lk_cons, ↓reduceIte, Nat.reduceEqDiff, Option.map_some, Option.map_none]; rfl) rfl rfl ?_ ?_
          · simp only [Wk, frIn, hpIn, lk_nil, lk_cons, renV, renX, renC, belV, belX, belC, belL, belB, List.cons_append, List.nil_append, ↓reduceIte, Nat.reduceEqDiff, and_self, and_true, true_and] <;> simp [-List.getD_eq_getElem?_getD, vv, one, renV, renX, renC, belV, belX, belC, belL, belB, rho, renO, belO, lk_nil, lk_cons]
          · rintro ⟨i, hi⟩
            simp only [vv, one, List.cons_append, List.nil_append]
            rcases le6 hi with rfl | rfl | rfl | rfl | rfl | rfl | rfl <;>
            (have XH := (And.intro (And.intro (And.intro (And.intro @eq_self.{1} @bd0_len) (And.intro @bd1_len (And.intro @bd2_len @bd3_len))) (And.intro (And.intro @bd4_len @bd5_len) (And.intro @z_len (And.intro @z8_len (mnI_len 33))))) (And.intro (And.intro (And.intro @mn32_len @m1_len) (And.intro @m2_len (And.intro @o8_len @Nat.sub_zero))) (And.intro (And.intro @List.drop_zero.{0} (And.intro @z8_row @mn32_row)) (And.intro @ds0n (And.intro @z_set @m1_len0))))); have XG := (And.intro (And.intro (And.intro @eq_self.{1} @ds0n) (And.intro @z8_row (And.intro @mn32_row @m0_row))) (And.intro (And.intro @m1_row (And.intro @m2_row @o8_row)) (And.intro @Nat.sub_zero (And.intro @List.drop_zero.{0} @List.nil_append.{0})))); (repeat' (first
              | (refine isR ?_; first | (refine isC ?_; first | (refine isF 13 ?_; first | (refine aCallF 13 ?_; apply aE3; (first | exact ka_b0 | exact ka_b1 | exact ka_b2 | exact ka_b3 | exact ka_b4 | exact ka_b5 | exact ka_mn | exact ka_z8); exact flatA; refine aPost ?_)) | (refine isF 11 ?_; first | (refine aCallF 11 ?_; apply aE3; (first | exact kw_b0 | exact kw_b1 | exact kw_b2 | exact kw_b3 | exact kw_b4 | exact kw_b5); exact flatA; refine aPost ?_)) | (refine isF 12 ?_; first | (refine aCallF 12 ?_; apply aE3; (first | exact kc_b0 | exact kc_b1 | exact kc_b2 | exact kc_b3 | exact kc_b4 | exact kc_b5 | exact kc_32); exact flatA; refine aPost ?_)) | (refine isF 14 ?_; first | (refine aCallF 14 ?_; apply aE3; (first | exact kr_a | exact kr_b | exact kr_c | exact kr_d | exact kr_e | exact kr_f | exact kr_g); exact flatA; refine aPost ?_)) | (refine isF 10 ?_; first | (refine aCallF 10 ?_; apply aE3; (first | exact km_a | exact km_b); exact flatA; refine aPost ?_)) | (refine isF 16 ?_; first | (refine aCallF 16 ?_; apply aE3; exact k_alive8; exact flatA; refine aPost ?_)) | (refine isF 15 ?_; first | (refine aCallF 15 ?_; apply aE3; exact k_ref07_Same o8 o8 (by rw [o8_len]; omega) (by rw [o8_len]; omega); exact flatA; refine aPost ?_))) | refine aOp ?_ | refine aOp2 ?_ | refine aOff1 ?_ | refine aOff2 ?_ | (refine aSplit ?_ ?_ <;> intro hsp) | (refine RegA.done ‹_› ?_; first | refine aKeep [0, 1, 2, 3, 4, 6, 8, 9, 10, 11, 13, 15, 17, 19, 21, 23, 25, 26, 27, 29, 30, 31, 33, 34, 35, 36, 37, 38, 40, 53, 87, 107, 140] ?_ | skip))
              | (refine isA ?_; first | refine awp_seq fun K hK => ?_ | refine Awp.reg ?_ | refine Awp.skip ?_ | refine Awp.block ?_ | refine Awp.scope ?_ | refine aCt ?_ | refine aCf ?_ | (refine aCond ?_ ?_ <;> intro hsp) | (refine Awp.exit ?_; simp only [blockQ, thenQ, scopeQ, ↓reduceIte, Nat.reduceEqDiff]))
              | (refine viaK ‹_› ?_; first | refine aKeep [0, 1, 2, 3, 4, 6, 8, 9, 10, 11, 13, 15, 17, 19, 21, 23, 25, 26, 27, 29, 30, 31, 33, 34, 35, 36, 37, 38, 40, 53, 87, 107, 140] ?_ | skip)
              | simp only [thenQ_normal, blockQ_normal])); all_goals (clear XH; clear XG))
            · refine RegA.nil ⟨⟨1, by omega⟩, [], ?_, ?_⟩
              · simp only [Wk, frIn, hpIn, lk_nil, lk_cons, renV, renX, renC, belV, belX, belC, belL, belB, List.cons_append, List.nil_append, ↓reduceIte, Nat.reduceEqDiff, and_self, and_true, true_and] <;> simp [-List.getD_eq_getElem?_getD, vv, one, renV, renX, renC, belV, belX, belC, belL, belB, rho, renO, belO, lk_nil, lk_cons]
              · (simp only []; omega)
            · refine RegA.nil ⟨⟨2, by omega⟩, [], ?_, ?_⟩
              · simp only [Wk, frIn, hpIn, lk_nil, lk_cons, renV, renX, renC, belV, belX, belC, belL, belB, List.cons_append, List.nil_append, ↓reduceIte, Nat.reduceEqDiff, and_self, and_true, true_and] <;> simp [-List.getD_eq_getElem?_getD, vv, one, renV, renX, renC, belV, belX, belC, belL, belB, rho, renO, belO, lk_nil, lk_cons]
              · (simp only []; omega)
            · refine RegA.nil ⟨⟨3, by omega⟩, [], ?_, ?_⟩
              · simp only [Wk, frIn, hpIn, lk_nil, lk_cons, renV, renX, renC, belV, belX, belC, belL, belB, List.cons_append, List.nil_append, ↓reduceIte, Nat.reduceEqDiff, and_self, and_true, true_and] <;> simp [-List.getD_eq_getElem?_getD, vv, one, renV, renX, renC, belV, belX, belC, belL, belB, rho, renO, belO, lk_nil, lk_cons]
              · (simp only []; omega)
            · refine RegA.nil ⟨⟨4, by omega⟩, [], ?_, ?_⟩
              · simp only [Wk, frIn, hpIn, lk_nil, lk_cons, renV, renX, renC, belV, belX, belC, belL, belB, List.cons_append, List.nil_append, ↓reduceIte, Nat.reduceEqDiff, and_self, and_true, true_and] <;> simp [-List.getD_eq_getElem?_getD, vv, one, renV, renX, renC, belV, belX, belC, belL, belB, rho, renO, belO, lk_nil, lk_cons]
              · (simp only []; omega)
            · refine RegA.nil ⟨⟨5, by omega⟩, [], ?_, ?_⟩
              · simp only [Wk, frIn, hpIn, lk_nil, lk_cons, renV, renX, renC, belV, belX, belC, belL, belB, List.cons_append, List.nil_append, ↓reduceIte, Nat.reduceEqDiff, and_self, and_true, true_and] <;> simp [-List.getD_eq_getElem?_getD, vv, one, renV, renX, renC, belV, belX, belC, belL, belB, rho, renO, belO, lk_nil, lk_cons]
              · (simp only []; omega)
            · refine RegA.nil ⟨⟨6, by omega⟩, [], ?_, ?_⟩
              · simp only [Wk, frIn, hpIn, lk_nil, lk_cons, renV, renX, renC, belV, belX, belC, belL, belB, List.cons_append, List.nil_append, ↓reduceIte, Nat.reduceEqDiff, and_self, and_true, true_and] <;> simp [-List.getD_eq_getElem?_getD, vv, one, renV, renX, renC, belV, belX, belC, belL, belB, rho, renO, belO, lk_nil, lk_cons]
              · (simp only []; omega)
            · (refine Awp.ret ?_; refine aRet ?_; (simp [-List.getD_eq_getElem?_getD, laxR, laxX, laxC, laxCs, rB, rN, rO, rBy, rSup, supP_len, rB2, rEn] <;> (intros; omega)))
end
end Go.Proofs.Ytmhnogmbpoeaeaa
