/-
  The walk of the statement that words and bytes are a bijection.
-/
import Derived.Test.YtgckcjjjapmnhaaWordA
import Derived.Test.YtgckcjjjapmnhaaWordL
import Derived.Deep.RegionHeld3
import Derived.Laws.NewBlocks
namespace Go.Proofs.Ytgckcjjjapmnhaa
open Go.ChangeShapes Go.WideShapes Go.ChangeAt Go.RowKit

theorem getV_byte (x i f : Nat) (h : f = 8 * i) : getV x f 8 = byteN x i := by
  subst h; unfold getV byteN; rw [Nat.pow_mul]
theorem lo8_two (x : Nat) : byteN x 0 + bsh x 1 = lo8 x 2 := by
  have := lo8_add x 1
  rw [← this, show lo8 x 1 = byteN x 0 by simp [lo8, byteN]]
theorem two_keep (x y : Nat) (w w1 w' : World) (hg : Gr (w.alloc (.cells #[.int .u8 (byteN y 0), .int .u8 (byteN y 1), .int .u8 (byteN y 2), .int .u8 (byteN y 3), .int .u8 (byteN y 4), .int .u8 (byteN y 5), .int .u8 (byteN y 6), .int .u8 (byteN y 7)] 33)) w1) (h : Gr (w1.alloc (.cells #[.int .u8 (byteN x 0), .int .u8 (byteN x 1), .int .u8 (byteN x 2), .int .u8 (byteN x 3), .int .u8 (byteN x 4), .int .u8 (byteN x 5), .int .u8 (byteN x 6), .int .u8 (byteN x 7)] 33)) w') :
    Gr (w1.alloc (.cells #[.int .u8 (byteN x 0), .int .u8 (byteN x 1), .int .u8 (byteN x 2), .int .u8 (byteN x 3), .int .u8 (byteN x 4), .int .u8 (byteN x 5), .int .u8 (byteN x 6), .int .u8 (byteN x 7)] 33)) w' ∧ w'.cell? ⟨w.heap.size, 0, none⟩ = some (.int .u8 (byteN y 0)) ∧ w'.cell? ⟨w.heap.size, 1, none⟩ = some (.int .u8 (byteN y 1)) ∧ w'.cell? ⟨w.heap.size, 2, none⟩ = some (.int .u8 (byteN y 2)) ∧ w'.cell? ⟨w.heap.size, 3, none⟩ = some (.int .u8 (byteN y 3)) ∧ w'.cell? ⟨w.heap.size, 4, none⟩ = some (.int .u8 (byteN y 4)) ∧ w'.cell? ⟨w.heap.size, 5, none⟩ = some (.int .u8 (byteN y 5)) ∧ w'.cell? ⟨w.heap.size, 6, none⟩ = some (.int .u8 (byteN y 6)) ∧ w'.cell? ⟨w.heap.size, 7, none⟩ = some (.int .u8 (byteN y 7)) ∧ w'.cell? ⟨w1.heap.size, 0, none⟩ = some (.int .u8 (byteN x 0)) ∧ w'.cell? ⟨w1.heap.size, 1, none⟩ = some (.int .u8 (byteN x 1)) ∧ w'.cell? ⟨w1.heap.size, 2, none⟩ = some (.int .u8 (byteN x 2)) ∧ w'.cell? ⟨w1.heap.size, 3, none⟩ = some (.int .u8 (byteN x 3)) ∧ w'.cell? ⟨w1.heap.size, 4, none⟩ = some (.int .u8 (byteN x 4)) ∧ w'.cell? ⟨w1.heap.size, 5, none⟩ = some (.int .u8 (byteN x 5)) ∧ w'.cell? ⟨w1.heap.size, 6, none⟩ = some (.int .u8 (byteN x 6)) ∧ w'.cell? ⟨w1.heap.size, 7, none⟩ = some (.int .u8 (byteN x 7)) := by
  have hs : w.heap.size < w1.heap.size := by have := hg.size; simp at this; omega
  have hc : ∀ i, w'.cell? ⟨w1.heap.size, i, none⟩ = (w1.alloc (.cells #[.int .u8 (byteN x 0), .int .u8 (byteN x 1), .int .u8 (byteN x 2), .int .u8 (byteN x 3), .int .u8 (byteN x 4), .int .u8 (byteN x 5), .int .u8 (byteN x 6), .int .u8 (byteN x 7)] 33)).cell? ⟨w1.heap.size, i, none⟩ := fun i => h.cell (p := ⟨w1.heap.size, i, none⟩) (by simp)
  have hd : ∀ i, w'.cell? ⟨w.heap.size, i, none⟩ = (w.alloc (.cells #[.int .u8 (byteN y 0), .int .u8 (byteN y 1), .int .u8 (byteN y 2), .int .u8 (byteN y 3), .int .u8 (byteN y 4), .int .u8 (byteN y 5), .int .u8 (byteN y 6), .int .u8 (byteN y 7)] 33)).cell? ⟨w.heap.size, i, none⟩ := fun i => by
    rw [h.cell (p := ⟨w.heap.size, i, none⟩) (by simp; omega), World.cell?_alloc_lt _ _ _ (by simpa using hs), hg.cell (p := ⟨w.heap.size, i, none⟩) (by simp)]
  refine ⟨h, ?_, ?_, ?_, ?_, ?_, ?_, ?_, ?_, ?_, ?_, ?_, ?_, ?_, ?_, ?_, ?_⟩ <;> first | (rw [hc]; simp [go_sem]; done) | (rw [hd]; simp [go_sem])

set_option maxRecDepth 100000 in
set_option maxHeartbeats 2000000 in
theorem walk_WordWhole (x : Nat) (hx : U64 x) (bs : List Nat) (hb : bs.length = 8 ∧ ∀ y ∈ bs, y < 256) (w : World) :
    Calls Try.prog 8 #[.int .u64 x, .agg (bs.map fun x : Nat => Value.int .u8 (x : Int)).toArray] w fun e w' => e = .returned (.bool true) ∧ Gr w w' := by
  obtain ⟨hl, hlt⟩ := hb
  obtain ⟨b0, b1, b2, b3, b4, b5, b6, b7, rfl⟩ := eight bs hl
  simp only [List.mem_cons, List.not_mem_nil, or_false, forall_eq_or_imp, forall_eq] at hlt
  obtain ⟨h0, h1, h2, h3, h4, h5, h6, h7⟩ := hlt
  obtain ⟨y, hy, rfl, rfl, rfl, rfl, rfl, rfl, rfl, rfl⟩ := ofN_bytes b0 b1 b2 b3 b4 b5 b6 b7 h0 h1 h2 h3 h4 h5 h6 h7
  clear h0 h1 h2 h3 h4 h5 h6 h7 hl
  have he : ∀ w, (Op.equalIn 10000 33 (arr (byteN y 0) (byteN y 1) (byteN y 2) (byteN y 3) (byteN y 4) (byteN y 5) (byteN y 6) (byteN y 7)) (arr (byteN y 0) (byteN y 1) (byteN y 2) (byteN y 3) (byteN y 4) (byteN y 5) (byteN y 6) (byteN y 7))).run Try.prog w = .ok true w :=
    arr_in _ _ _ _ _ _ _ _ (byteN_lt _ _) (byteN_lt _ _) (byteN_lt _ _) (byteN_lt _ _) (byteN_lt _ _) (byteN_lt _ _) (byteN_lt _ _) (byteN_lt _ _)
  show Calls Try.prog 8 #[.int .u64 x, arr (byteN y 0) (byteN y 1) (byteN y 2) (byteN y 3) (byteN y 4) (byteN y 5) (byteN y 6) (byteN y 7)] w _
  have u0 := byte_keep x 0
  have u1 := byte_keep x 1
  have u2 := byte_keep x 2
  have u3 := byte_keep x 3
  have u4 := byte_keep x 4
  have u5 := byte_keep x 5
  have u6 := byte_keep x 6
  have u7 := byte_keep x 7
  have g0 : getV x 0 8 = byteN x 0 := getV_byte x 0 0 rfl
  have g1 : getV x 8 8 = byteN x 1 := getV_byte x 1 8 rfl
  have g2 : getV x 16 8 = byteN x 2 := getV_byte x 2 16 rfl
  have g3 : getV x 24 8 = byteN x 3 := getV_byte x 3 24 rfl
  have g4 : getV x 32 8 = byteN x 4 := getV_byte x 4 32 rfl
  have g5 : getV x 40 8 = byteN x 5 := getV_byte x 5 40 rfl
  have g6 : getV x 48 8 = byteN x 6 := getV_byte x 6 48 rfl
  have g7 : getV x 56 8 = byteN x 7 := getV_byte x 7 56 rfl
  have t1 : IntKind.u64.wrap ((byteN x 1 : Int) * 256) = ((bsh x 1 : Nat) : Int) := bsh_keep x 1 (by omega) _ (by decide)
  have t2 : IntKind.u64.wrap ((byteN x 2 : Int) * 65536) = ((bsh x 2 : Nat) : Int) := bsh_keep x 2 (by omega) _ (by decide)
  have t3 : IntKind.u64.wrap ((byteN x 3 : Int) * 16777216) = ((bsh x 3 : Nat) : Int) := bsh_keep x 3 (by omega) _ (by decide)
  have t4 : IntKind.u64.wrap ((byteN x 4 : Int) * 4294967296) = ((bsh x 4 : Nat) : Int) := bsh_keep x 4 (by omega) _ (by decide)
  have t5 : IntKind.u64.wrap ((byteN x 5 : Int) * 1099511627776) = ((bsh x 5 : Nat) : Int) := bsh_keep x 5 (by omega) _ (by decide)
  have t6 : IntKind.u64.wrap ((byteN x 6 : Int) * 281474976710656) = ((bsh x 6 : Nat) : Int) := bsh_keep x 6 (by omega) _ (by decide)
  have t7 : IntKind.u64.wrap ((byteN x 7 : Int) * 72057594037927936) = ((bsh x 7 : Nat) : Int) := bsh_keep x 7 (by omega) _ (by decide)
  have l1 : IntKind.u64.wrap ((byteN x 0 : Int) + (bsh x 1 : Int)) = ((lo8 x 2 : Nat) : Int) := add_keep _ _ _ (lo8_two x) (lo8_lt x 2 (by omega))
  have l2 : IntKind.u64.wrap ((lo8 x 2 : Int) + (bsh x 2 : Int)) = ((lo8 x 3 : Nat) : Int) := add_keep _ _ _ (lo8_add x 2) (lo8_lt x 3 (by omega))
  have l3 : IntKind.u64.wrap ((lo8 x 3 : Int) + (bsh x 3 : Int)) = ((lo8 x 4 : Nat) : Int) := add_keep _ _ _ (lo8_add x 3) (lo8_lt x 4 (by omega))
  have l4 : IntKind.u64.wrap ((lo8 x 4 : Int) + (bsh x 4 : Int)) = ((lo8 x 5 : Nat) : Int) := add_keep _ _ _ (lo8_add x 4) (lo8_lt x 5 (by omega))
  have l5 : IntKind.u64.wrap ((lo8 x 5 : Int) + (bsh x 5 : Int)) = ((lo8 x 6 : Nat) : Int) := add_keep _ _ _ (lo8_add x 5) (lo8_lt x 6 (by omega))
  have l6 : IntKind.u64.wrap ((lo8 x 6 : Int) + (bsh x 6 : Int)) = ((lo8 x 7 : Nat) : Int) := add_keep _ _ _ (lo8_add x 6) (lo8_lt x 7 (by omega))
  have l7 : IntKind.u64.wrap ((lo8 x 7 : Int) + (bsh x 7 : Int)) = ((lo8 x 8 : Nat) : Int) := add_keep _ _ _ (lo8_add x 7) (lo8_lt x 8 (by omega))
  have l8 : lo8 x 8 = x := lo8_all x hx
  go_enter Try.func8, Try.ntmps8
  go_wp2_with fail
  refine (bytes_any _ _).mono ?_; rintro e w1 ⟨rfl, hg⟩
  have HG := Lib.hid hg
  obtain ⟨hcell, hfr⟩ : (∀ b o, b < w.heap.size + 1 → w1.cell? ⟨b, o, none⟩ = (w.alloc (.cells #[.int .u8 (byteN y 0), .int .u8 (byteN y 1), .int .u8 (byteN y 2), .int .u8 (byteN y 3), .int .u8 (byteN y 4), .int .u8 (byteN y 5), .int .u8 (byteN y 6), .int .u8 (byteN y 7)] 33)).cell? ⟨b, o, none⟩) ∧ w.heap.size + 1 ≤ w1.heap.size := ⟨fun b o h => hg.cell (p := ⟨b, o, none⟩) (by simpa using h), by simpa using hg.size⟩
  clear hg
  go_wp2_with fail
  refine wp_loop_rounds 9 ?_
  rw [rounds_succ]
  go_wp2_with fail
  refine (get_yes _ _ _ hx (by decide) _).mono ?_; rintro e w' ⟨rfl, q0, rfl⟩
  go_wp2_with fail
  rw [rounds_succ]
  go_wp2_with fail
  refine (get_yes _ _ _ hx (by decide) _).mono ?_; rintro e w' ⟨rfl, q1, rfl⟩
  go_wp2_with fail
  rw [rounds_succ]
  go_wp2_with fail
  refine (get_yes _ _ _ hx (by decide) _).mono ?_; rintro e w' ⟨rfl, q2, rfl⟩
  go_wp2_with fail
  rw [rounds_succ]
  go_wp2_with fail
  refine (get_yes _ _ _ hx (by decide) _).mono ?_; rintro e w' ⟨rfl, q3, rfl⟩
  go_wp2_with fail
  rw [rounds_succ]
  go_wp2_with fail
  refine (get_yes _ _ _ hx (by decide) _).mono ?_; rintro e w' ⟨rfl, q4, rfl⟩
  go_wp2_with fail
  rw [rounds_succ]
  go_wp2_with fail
  refine (get_yes _ _ _ hx (by decide) _).mono ?_; rintro e w' ⟨rfl, q5, rfl⟩
  go_wp2_with fail
  rw [rounds_succ]
  go_wp2_with fail
  refine (get_yes _ _ _ hx (by decide) _).mono ?_; rintro e w' ⟨rfl, q6, rfl⟩
  go_wp2_with fail
  rw [rounds_succ]
  go_wp2_with fail
  refine (get_yes _ _ _ hx (by decide) _).mono ?_; rintro e w' ⟨rfl, q7, rfl⟩
  go_wp2_with fail
  rw [rounds_succ]
  go_wp2_with fail
  go_region_held3 (fun w' => Gr (w1.alloc (.cells #[.int .u8 (byteN x 0), .int .u8 (byteN x 1), .int .u8 (byteN x 2), .int .u8 (byteN x 3), .int .u8 (byteN x 4), .int .u8 (byteN x 5), .int .u8 (byteN x 6), .int .u8 (byteN x 7)] 33)) w' ∧ w'.cell? ⟨w.heap.size, 0, none⟩ = some (.int .u8 (byteN y 0)) ∧ w'.cell? ⟨w.heap.size, 1, none⟩ = some (.int .u8 (byteN y 1)) ∧ w'.cell? ⟨w.heap.size, 2, none⟩ = some (.int .u8 (byteN y 2)) ∧ w'.cell? ⟨w.heap.size, 3, none⟩ = some (.int .u8 (byteN y 3)) ∧ w'.cell? ⟨w.heap.size, 4, none⟩ = some (.int .u8 (byteN y 4)) ∧ w'.cell? ⟨w.heap.size, 5, none⟩ = some (.int .u8 (byteN y 5)) ∧ w'.cell? ⟨w.heap.size, 6, none⟩ = some (.int .u8 (byteN y 6)) ∧ w'.cell? ⟨w.heap.size, 7, none⟩ = some (.int .u8 (byteN y 7)) ∧ w'.cell? ⟨w1.heap.size, 0, none⟩ = some (.int .u8 (byteN x 0)) ∧ w'.cell? ⟨w1.heap.size, 1, none⟩ = some (.int .u8 (byteN x 1)) ∧ w'.cell? ⟨w1.heap.size, 2, none⟩ = some (.int .u8 (byteN x 2)) ∧ w'.cell? ⟨w1.heap.size, 3, none⟩ = some (.int .u8 (byteN x 3)) ∧ w'.cell? ⟨w1.heap.size, 4, none⟩ = some (.int .u8 (byteN x 4)) ∧ w'.cell? ⟨w1.heap.size, 5, none⟩ = some (.int .u8 (byteN x 5)) ∧ w'.cell? ⟨w1.heap.size, 6, none⟩ = some (.int .u8 (byteN x 6)) ∧ w'.cell? ⟨w1.heap.size, 7, none⟩ = some (.int .u8 (byteN x 7)))
    (exact two_keep x y w w1 _ HG.out (by repeat (first | assumption | exact Gr.refl _ | apply Gr.drew | apply Gr.drewN | (refine Gr.trans ?_ (by assumption)))))
    (first
      | (go_at_call 15; refine (bytes_any _ _).mono ?_; rintro e w' ⟨rfl, hg⟩)
      | (go_at_call 17; refine (of_any _ ?_ _).mono ?_; assumption; rintro e w' ⟨rfl, hg⟩)
      | (go_at_call 12; refine (alive_any _).mono ?_; rintro e w' ⟨rfl, hg⟩))
  go_wp2
  go_ret
  exact ⟨rfl, ((Gr.refl w).alloc _ _).trans (HG.out.trans (by repeat (first | assumption | exact Gr.refl _ | exact (Gr.refl _).alloc _ _ | apply Gr.drew | apply Gr.drewN | (refine Gr.trans ?_ (by assumption)))))⟩
end Go.Proofs.Ytgckcjjjapmnhaa
