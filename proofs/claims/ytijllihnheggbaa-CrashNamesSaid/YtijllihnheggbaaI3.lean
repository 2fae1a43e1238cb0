/-
  The contracts of the program's functions, data in, data out. Conditions: those in the statements.
-/
import Derived.Test.YtijllihnheggbaaI2
namespace Go.Proofs.Ytijllihnheggbaa
set_option linter.all false
open Go Go.Proofs.Ytijllihnheggbaa.Eng Go.RowKit
noncomputable section
def blkOf : Value → Option Nat
  | .slice (some ad) _ _ => some ad.block
  | _ => none
set_option maxHeartbeats 4000000 in
set_option maxRecDepth 100000 in
theorem ins_end (w : World) (v : Value) (n g2 cap2 : Nat) (cur2 : Array Value) (bt2 : TypeId) (olds : List Value)
    (hv : (v = nilS ∧ n = 0 ∧ olds = []) ∨ ∃ g cap cur bt, v = .slice (some ⟨g, 0, none⟩) n cap ∧ w.heap[g]? = some (.cells cur bt (0, 0)) ∧ n ≤ cap ∧ cap ≤ maxLen ∧ cur.size = cap * 3 ∧ olds = cur.toList.take (n * 3))
    (hg2 : w.heap[g2]? = some (.cells cur2 bt2 (0, 0))) (hc2 : cur2.size = cap2 * 3) (hsm : n ≤ 1000000) (h12 : 1 ≤ cap2) (h2 : ∀ v ∈ cur2.toList.take 3, v.oneCell' = true) :
    Calls Try.prog 40 #[v, .int .i64 n, .slice (some ⟨g2, 0, none⟩) 1 cap2] w fun e w' => ∃ g' cap', e = .returned (.slice (some ⟨g', 0, none⟩) (n + 1) cap') ∧
      InsAt w w' (blkOf v) g' cap' 3 (n + 1) (olds ++ cur2.toList.take 3) := by
  have u23 := run_underlying (P := Try.prog) Try.underlying23
  obtain ⟨inf, _, z, hinf, _, hz, hzs, hje, _⟩ := ti_info ti36
  have hsz : inf.size = 3 := by simpa using (congrArg TI.size hje).symm
  have hby : inf.bytes = 24 := by simpa using (congrArg TI.bytes hje).symm
  have hso : ∀ w, (sizeOf 36).run Try.prog w = .ok 3 w := fun w => by simp [sizeOf, typeInfo, hinf, hsz]
  obtain ⟨e2, he2⟩ : ∃ e2, e2 = cur2.toList.take 3 := ⟨_, rfl⟩
  have hel : e2.length = 3 := by rw [he2]; simp; omega
  have hsrc : Eng.Source w (.slice (some ⟨g2, 0, none⟩) 1 cap2) 1 inf.size e2 := by
    refine ⟨by rw [hel, hsz], .inr ⟨⟨g2, 0, none⟩, cap2, rfl, row_read hg2 (off := 0) (n := 3) (by rw [he2]; simp)⟩⟩
  have hol : olds.length = n * 3 := by
    rcases hv with ⟨_, rfl, rfl⟩ | ⟨g, cap, cur, bt, _, _, h3, _, h5, rfl⟩
    · rfl
    · simp; omega
  have hrun : ∀ ty, ∃ v' w', (Builtin.append_ #[23, 23] ty #[v, .slice (some ⟨g2, 0, none⟩) 1 cap2]).run Try.prog w = .ok v' w' ∧ ∃ g' cap', v' = .slice (some ⟨g', 0, none⟩) (n + 1) cap' ∧ InsAt w w' (blkOf v) g' cap' 3 (n + 1) (olds ++ e2) := fun ty => by
    obtain ⟨v', w', hr, hcase⟩ := run_app (P := Try.prog) w 23 ty 36 inf z Try.underlying23 hinf hz hzs v n olds (.slice (some ⟨g2, 0, none⟩) 1 cap2) 1 e2 hsrc (fun u hu => h2 u (by rw [← he2]; exact hu)) (by unfold maxLen; omega) (by rw [hby]; omega) (by
      rcases hv with hv | ⟨g, cap, cur, bt, h1, h2, h3, h4, h5, h6⟩
      · exact .inl hv
      · exact .inr ⟨g, cap, cur, bt, h1, h2, h3, h4, by rw [hsz]; exact h5, by rw [hsz]; exact h6⟩)
    refine ⟨v', w', hr, ?_⟩
    rcases hcase with ⟨h, _⟩ | ⟨g, cap, cur, bt, _, rfl, hg, hcm, hcs, hroom, rfl, rfl⟩ | ⟨cap, rest, _, hroom, hcm, rfl, rfl, hlen⟩
    · exact absurd h (by omega)
    · rw [hsz] at hcs ⊢
      rcases hv with ⟨h, _⟩ | ⟨g1, cap1, cur1, bt1, h1, hg1, h3, h4, h5, h6⟩
      · cases h
      · simp only [Value.slice.injEq, Option.some.injEq, Addr.mk.injEq, and_true, true_and] at h1
        obtain ⟨rfl, rfl⟩ := h1
        have hcc := hg.symm.trans hg1
        simp only [Option.some.injEq, Obj.cells.injEq, and_true] at hcc
        obtain ⟨rfl, rfl⟩ := hcc
        refine ⟨g, cap, rfl, .inl rfl, hroom, hcm, ⟨_, bt, setRow_heap w g cur _ bt (0, 0) hg, ?_, ?_⟩, fun k _ hk => setRow_other w g k _ hk, by simp, fun w0 h0 hb => gr_setRow hg w0 (hb g rfl) h0⟩
        · simp [hel]; omega
        · rw [← h6]
          exact List.take_left' (by simp [hol, hel]; omega)
    · rw [hsz] at hlen
      refine ⟨w.heap.size, cap, rfl, .inr (Nat.le_refl _), hroom, hcm, ⟨_, 36, Go.heap_alloc_new w.drew _, by simpa using hlen, ?_⟩, fun k hk _ => ?_, ?_, fun w0 h0 _ => h0.drew.alloc _ _⟩
      · exact List.take_left' (by simp [hol, hel]; omega)
      · rw [heap_alloc_old w.drew _ (show k < w.drew.heap.size from hk)]; rfl
      · simp [World.alloc]
  rw [← he2]
  obtain ⟨v', w', hr, g', cap', rfl, hfin⟩ := hrun 23
  obtain ⟨X, hX⟩ : ∃ X, X = olds ++ e2 := ⟨_, rfl⟩
  obtain ⟨B, hB⟩ : ∃ B, B = blkOf v := ⟨_, rfl⟩
  rw [← hX, ← hB] at hfin ⊢
  have hv2 : (v = nilS ∧ n = 0) ∨ ∃ g cap, v = .slice (some ⟨g, 0, none⟩) n cap ∧ n ≤ cap ∧ cap ≤ maxLen := by
    rcases hv with ⟨h, h', _⟩ | ⟨g, cap, cur, bt, h, _, h3, h4, _⟩
    · exact .inl ⟨h, h'⟩
    · exact .inr ⟨g, cap, h, h3, h4⟩
  clear hol hsrc hel he2 hso hzs hje hsz hby hz h2 hg2 hc2 hrun hv hX hB olds e2
  rcases hv2 with ⟨rfl, rfl⟩ | ⟨g, cap, rfl, h3, h4⟩
  · simp only [nilS] at hr ⊢
    go_enter Try.func40, n40
    go_wp2_with (at_builtin; refine wpList_app rfl rfl rfl rfl hr ?_)
    go_ret
    exact ⟨g', cap', rfl, hfin⟩
  · have h63 : cap ≤ 9223372036854775807 := by simp only [maxLen] at h4; omega
    by_cases hcn : cap = n
    · subst hcn
      go_enter Try.func40, n40
      go_wp2_with (at_builtin; refine wpList_app rfl rfl rfl rfl hr ?_)
      go_ret
      exact ⟨g', cap', rfl, hfin⟩
    · go_enter Try.func40, n40
      go_wp2_with (at_builtin; refine wpList_app rfl rfl rfl rfl hr ?_)
      go_ret
      exact ⟨g', cap', rfl, hfin⟩
theorem h_Insert {hp : List (Nat × Ob)} {nx b b2 L : Nat} {es : List (List D)} {e : List D} {fz2 : Bool} (i : Nat) (hb : lk hp b = some (.row 3 es false)) (hb2 : lk hp b2 = some (.row 3 [e] fz2)) (hne : b2 ≠ b) (hL : es.length = L) (hi : i ≤ L) (hsm : L ≤ 1000000) :
    CallH Try.prog 40 hp nx [.x (.one (.own b L)), .x (.one (.d (.v (.int .i64 (i : Int))))), .x (.one (.own b2 1))] ((b, .row 3 (es.take i ++ e :: es.drop i) false) :: hp) nx (.x (.one (.own b (L + 1)))) := by
  refine ⟨⟨Try.f40, Try.func40, by kernel_rfl, by kernel_rfl⟩, fun U w0 w ι args hU h hargs => ?_⟩
  obtain ⟨args⟩ := args
  cases hargs with
  | @cons x0 _ _ _ r0 t0 =>
  cases t0 with
  | @cons x1 _ _ _ r1 t1 =>
  cases t1 with
  | @cons x2 _ _ _ r2 t2 =>
  cases t2
  obtain rfl : x1 = .int .i64 (i : Int) := plain_eq r1 rfl
  obtain ⟨hN, _, r0⟩ := r0
  obtain ⟨_, r0⟩ := r0 3 es false hb
  obtain ⟨_, _, r2⟩ := r2
  obtain ⟨_, r2⟩ := r2 3 [e] fz2 hb2
  -- what is put in
  have hx2 : ∃ g2 cap2 cur2 bt2, ι b2 = some g2 ∧ x2 = .slice (some ⟨g2, 0, none⟩) 1 cap2 ∧ 1 ≤ cap2 ∧ w.heap[g2]? = some (.cells cur2 bt2 (0, 0)) ∧ cur2.size = cap2 * 3 := by
    rcases r2 rfl with ⟨hn, _⟩ | ⟨g2, cap2, hg, hx, hc, _, cur2, bt2, hh, hs⟩
    · have h2 := (h.ob b2 _ hb2).2
      unfold RepO at h2
      have hg' : (env U (Lt nx) (mem hp nx) w ι).ι b2 = none := hn
      rw [hg'] at h2
      obtain ⟨_, _, he⟩ := h2
      cases he
    · exact ⟨g2, cap2, cur2, bt2, hg, hx, hc, hh, hs⟩
  obtain ⟨g2, cap2, cur2, bt2, hi2, rfl, h12, hg2, hc2⟩ := hx2
  obtain ⟨_, cur2', bt2', hh2, hcc2, hsh2⟩ := h.block hb2 hi2
  have hq := hg2.symm.trans hh2
  simp only [Option.some.injEq, Obj.cells.injEq, and_true] at hq
  obtain ⟨rfl, rfl⟩ := hq
  have hel : e.length = 3 := hsh2.2 e (by simp)
  have ha2 : All2 (Shows (Tr U w ι (lk hp)) w) (cur2.toList.take 3) e := All2.of_get (by simp; omega) fun k y c hy hc => by
    obtain ⟨y', hy', hr⟩ := hcc2 k (.d c) (by show ([e].flatten.map AC.d)[k]? = _; simp [hc])
    rw [List.getElem?_take] at hy
    split at hy
    · have e1 : cur2.toList[k]? = cur2[k]? := by simp
      rw [e1, hy'] at hy
      cases hy
      exact hr
    · cases hy
  -- the row
  have hrow : ∃ olds : List Value, ((x0 = nilS ∧ L = 0 ∧ olds = []) ∨ ∃ g cap cur bt, x0 = .slice (some ⟨g, 0, none⟩) L cap ∧ w.heap[g]? = some (.cells cur bt (0, 0)) ∧ L ≤ cap ∧ cap ≤ maxLen ∧ cur.size = cap * 3 ∧ olds = cur.toList.take (L * 3) ∧ ι b = some g ∧ w0.w.heap.size ≤ g) ∧ All2 (Shows (Tr U w ι (lk hp)) w) olds es.flatten ∧ ∀ e ∈ es, e.length = 3 := by
    rcases r0 hL with ⟨hn, rfl⟩ | ⟨g, cap, hg, rfl, hc, hm, cur, bt, hh, hs⟩
    · have h2 := (h.ob b _ hb).2
      unfold RepO at h2
      have hg' : (env U (Lt nx) (mem hp nx) w ι).ι b = none := hn
      rw [hg'] at h2
      obtain ⟨_, _, he⟩ := h2
      cases he
      exact ⟨[], .inl ⟨rfl, by simpa using hL.symm, rfl⟩, .nil, by simp⟩
    · obtain ⟨hge, cur', bt', hh', hcc, hsh⟩ := h.block hb hg
      have hq := hh.symm.trans hh'
      simp only [env, Option.some.injEq, Obj.cells.injEq, and_true] at hq
      obtain ⟨rfl, rfl⟩ := hq
      have hwid : ∀ e ∈ es, e.length = 3 := hsh.2
      have hfl := flat_len hwid
      refine ⟨_, .inr ⟨g, cap, cur, bt, rfl, hh, hc, hm, hs, rfl, hg, hge⟩, All2.of_get (by simp [hfl]; omega) fun k y c hy hc => ?_, hwid⟩
      obtain ⟨y', hy', hr⟩ := hcc k (.d c) (by show (es.flatten.map AC.d)[k]? = _; rw [List.getElem?_map, hc]; rfl)
      rw [List.getElem?_take] at hy
      split at hy
      · have e1 : cur.toList[k]? = cur[k]? := by simp
        rw [e1, hy'] at hy
        cases hy
        exact hr
      · cases hy
  obtain ⟨olds, hv, hoa, hwid⟩ := hrow
  have hfl := flat_len hwid
  have hol : olds.length = L * 3 := by rw [hoa.length, hfl, hL]
  have hcall : Calls Try.prog 40 #[x0, .int .i64 (i : Int), .slice (some ⟨g2, 0, none⟩) 1 cap2] w fun e' w' => ∃ g' cap', e' = .returned (.slice (some ⟨g', 0, none⟩) (L + 1) cap') ∧ InsAt w w' (blkOf x0) g' cap' 3 (L + 1) (olds.take (i * 3) ++ cur2.toList.take 3 ++ olds.drop (i * 3)) := by
    by_cases hiL : i = L
    · subst hiL
      have h := ins_end w x0 i g2 cap2 cur2 bt2 olds (hv.imp id fun ⟨g, cap, cur, bt, q1, q2, q3, q4, q5, q6, _⟩ => ⟨g, cap, cur, bt, q1, q2, q3, q4, q5, q6⟩) hg2 hc2 hsm h12 ha2.one
      rw [List.take_of_length_le (by omega), List.drop_eq_nil_of_le (by omega), List.append_nil]
      exact h
    · rcases hv with ⟨rfl, rfl, rfl⟩ | ⟨g, cap, cur, bt, rfl, q2, q3, q4, q5, rfl, q7, q8⟩
      · omega
      · have hgg : g2 ≠ g := fun e => hne (h.inj b2 b _ _ g hb2 hb (e ▸ hi2) q7)
        have e1 : (cur.toList.take (L * 3)).take (i * 3) = cur.toList.take (i * 3) := by rw [List.take_take]; congr 1; omega
        rw [e1]
        by_cases hroom : L + 1 ≤ cap
        · exact ins_in w g L cap i g2 cap2 cur cur2 bt bt2 q2 q5 hg2 hc2 hgg (by omega) hroom q4 h12 hoa.one ha2.one
        · exact ins_grow w g L cap i g2 cap2 cur cur2 bt bt2 q2 q5 hg2 hc2 hgg (by omega) q3 (by omega) hsm h12 hoa.one ha2.one
  refine hcall.mono fun e' w' ⟨g', cap', he, hin⟩ => ?_
  obtain ⟨cur', ty', hw', hs', htk⟩ := hin.row
  have hblk : ∀ g, blkOf x0 = some g → ι b = some g ∧ w0.w.heap.size ≤ g := fun g hg => by
    rcases hv with ⟨rfl, _⟩ | ⟨g1, cap, cur, bt, rfl, _, _, _, _, _, q7, q8⟩
    · cases hg
    · cases hg; exact ⟨q7, q8⟩
  have hall : All2 (Shows (Tr U w ι (lk hp)) w) (olds.take (i * 3) ++ cur2.toList.take 3 ++ olds.drop (i * 3)) (es.take i ++ e :: es.drop i).flatten := by
    rw [List.flatten_append, List.flatten_cons, flat_take hwid, flat_drop hwid, ← List.append_assoc]
    exact ((hoa.take _).append ha2).append (hoa.drop _)
  have hr1 : Rel U ⟨w0.w, env U (Lt nx) (mem hp nx) w ι⟩ (Lt nx) (mem hp nx) noAct w ι := Rel.rebase h
  have hturn := hr1.turn (g' := g') (sz' := 3) (es' := es.take i ++ e :: es.drop i) hb (by simp; omega) (w' := w') (ty := ty') (hin.at_.imp (fun hg => (hblk g' hg).1) id) hw' hin.oth hin.size (hin.gr _ h.gr fun g hg => (hblk g hg).2) ⟨by omega, fun x hx => by
      rcases List.mem_append.1 hx with hx | hx
      · exact hwid x (List.mem_of_mem_take hx)
      · rcases List.mem_cons.1 hx with rfl | hx
        · exact hel
        · exact hwid x (List.mem_of_mem_drop hx)⟩ (fun k c hk => by
      obtain ⟨y, hy, hr⟩ := hall.get hk
      refine ⟨y, ?_, hr⟩
      rw [← htk, List.getElem?_take] at hy
      split at hy
      · simpa using hy
      · cases hy)
  refine ⟨_, upd ι b (some g'), he, Rel.unbase hturn (Rel.st h), ?_, hturn.st⟩
  refine own_rep (sz := 3) (es := es.take i ++ e :: es.drop i) (fz := false) hN (upd_same _ _ _) (by simp [env, mem, lk_nil, lk_cons]) (by simp; omega) hin.le hin.max hw' hs'
end
end Go.Proofs.Ytijllihnheggbaa
