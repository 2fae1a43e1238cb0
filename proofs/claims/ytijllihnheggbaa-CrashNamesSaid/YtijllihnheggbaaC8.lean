/-
  The contracts of the program's functions, data in, data out. Conditions: those in the statements.
-/
import Derived.Test.YtijllihnheggbaaC7
namespace Go.Proofs.Ytijllihnheggbaa
set_option linter.all false
open Go Go.Proofs.Ytijllihnheggbaa.Eng Go.RowKit
noncomputable section

theorem eqs_dty0 (a b a' b' : Int) (c c' : Bool) : eqS Try.prog 36 [.int .i64 a, .int .u64 b, .bool c] [.int .i64 a', .int .u64 b', .bool c'] = some (decide (a = a') && (decide (b = b') && ((c == c') && true))) := by kernel_rfl
theorem eqs_dty (a b a' b' : Int) (c c' : Bool) : eqS Try.prog 36 [.int .i64 a, .int .u64 b, .bool c] [.int .i64 a', .int .u64 b', .bool c'] = some (decide ((⟨a, b, c⟩ : Dty) = ⟨a', b', c'⟩)) := by
  rw [eqs_dty0]
  congr 1
  rw [Bool.eq_iff_iff]
  simp
theorem dty_eta (x : Dty) : (⟨x.at_, x.v, x.fl⟩ : Dty) = x := rfl
theorem dty_ext0 {a b : List Dty} (hl : a.length = b.length) (h : ∀ j < a.length, a.getD j default = b.getD j default) : a = b := by
  refine List.ext_getElem hl fun j h1 h2 => ?_
  have := h j h1
  simpa [List.getD, h1, h2] using this
theorem dev_ne {a b : Dev} (h : a.left ≠ b.left ∨ a.down ≠ b.down ∨ a.img ≠ b.img ∨ a.dirty ≠ b.dirty) : decide (a = b) = false := decide_eq_false fun e => by subst e; simp at h
theorem dev_eq {a b : Dev} (h1 : a.left = b.left) (h2 : a.down = b.down) (h3 : a.img = b.img) (h4 : a.dirty = b.dirty) : decide (a = b) = true := decide_eq_true (by cases a; cases b; simp_all)
namespace X4e6913d
def XX := (And.intro (And.intro @getD_dty (And.intro @tdiv8 @tmod8)) (And.intro (And.intro @takeAll @takeDropAll) (And.intro @toNatAdd @toNatSub)))
def XN := @Nat.zero_add
def XR := (And.intro @rDev.eq_1 @dtyD.eq_1)
def XH := @Nat.zero_add
def XG := @Nat.zero_add
end X4e6913d
set_option maxHeartbeats 4000000 in
set_option maxRecDepth 10000 in
open X4e6913d in
theorem k_ref03_Same (a b : Dev) (ha : a.img.length ≤ 1000000) (hb : b.img.length ≤ 1000000) (ha2 : a.dirty.length ≤ 1000000) (hb2 : b.dirty.length ≤ 1000000) : Con Try.prog 20 [devA a, devA b] [rB (decide (a = b))] := by
  refine con_of_awp hmix Try.func20 s20 rfl (by rw [n20]; simp) r20 n20 ?_
  simp only [Eng.start, startFr, inX, sN, vN, List.map_cons, List.map_nil, devA, devC, dtyD, sD, c20]
  (have XH := (And.intro @eqs_dty @dty_eta); (repeat' (first
    | (refine aCallF 23 ?_; apply aE3; exact k_ref02_Same _ _ (by omega) (by omega); exact flatA; refine aPost ?_)
    | refine aOp ?_
    | refine aOff1 ?_
    | refine aOff2 ?_
    | (refine aSplit ?_ ?_ <;> intro hsp)
    | (refine RegA.done ‹_› ?_)
    | refine awp_seq fun K hK => ?_
    | refine Awp.reg ?_
    | (refine aNcall (f := 23) ?_; apply aE6; exact k_ref02_Same _ _ (by omega) (by omega); (refine aNr (by simp only [unV', unX, unXs, unC, unL, rN, rB, List.append_nil, List.nil_append, rDev, dtyD]; rfl) rfl rfl); (first | exact .inl rfl | exact .inr flatA); refine aNpost ?_)
    | refine aNop ?_
    | refine aNoff1 ?_
    | refine aNoff2 ?_
    | (refine aNsplit ?_ ?_ <;> intro hsp)
    | refine aNnil ?_
    | refine aDrawN 10 [[], [0], [], [1, 2], [3], [], [5], [], [6, 7], [8], [4, 9]] [[], [0], [], [1, 2, 0], [3, 1, 2, 0], [], [5], [], [6, 7, 5], [8, 6, 7, 5], [4, 9, 3, 1, 2, 0, 8, 6, 7, 5]] ?_
    | refine Awp.skip ?_
    | refine Awp.block ?_
    | refine Awp.scope ?_
    | refine aCt ?_
    | refine aCf ?_
    | (refine aCond ?_ ?_ <;> intro hsp)
    | (refine Awp.exit ?_; simp only [blockQ, thenQ, scopeQ, ↓reduceIte, Nat.reduceEqDiff])
    | (refine viaK ‹_› ?_)
    | simp only [thenQ_normal, blockQ_normal])); all_goals (clear XH))
  · have e : decide (a = b) = false := dev_ne (.inl ‹_›)
    (refine Awp.ret ?_; refine aRet ?_; (simp [-List.getD_eq_getElem?_getD, laxR, laxX, laxC, laxCs, rB, rN, rO, rDev, dtyD, e] <;> (intros; omega)))
  · have e : decide (a = b) = false := dev_ne (.inr (.inl (by simpa using ‹(a.down == b.down) = false›)))
    (refine Awp.ret ?_; refine aRet ?_; (simp [-List.getD_eq_getElem?_getD, laxR, laxX, laxC, laxCs, rB, rN, rO, rDev, dtyD, e] <;> (intros; omega)))
  · have e : decide (a = b) = false := dev_ne (.inr (.inr (.inl ‹_›)))
    (refine Awp.ret ?_; refine aRet ?_; (simp [-List.getD_eq_getElem?_getD, laxR, laxX, laxC, laxCs, rB, rN, rO, rDev, dtyD, e] <;> (intros; omega)))
  · have e : decide (a = b) = false := dev_ne (.inr (.inr (.inr fun h => by have := congrArg List.length h; omega)))
    (refine Awp.ret ?_; refine aRet ?_; (simp [-List.getD_eq_getElem?_getD, laxR, laxX, laxC, laxCs, rB, rN, rO, rDev, dtyD, e] <;> (intros; omega)))
  · have hdn : a.down = b.down := by simpa using ‹(a.down == b.down) = true›
    refine Awp.loopK (α := {i : Nat // i ≤ a.dirty.length ∧ ∀ j < i, a.dirty.getD j default = b.dirty.getD j default}) (fun x => [(5, vv (.int .i64 (x.1 : Int)))]) (fun x => []) [2, 3] [0, 1] (fun x => a.dirty.length - x.1) ⟨0, by omega, by simp⟩ [] (by simp only [List.filterMap_cons, List.filterMap_nil, lk_nil, lk_cons, ↓reduceIte, Nat.reduceEqDiff, Option.map_some, Option.map_none]; rfl) (by simp only [List.filterMap_cons, List.filterMap_nil, lk_nil, lk_cons, ↓reduceIte, Nat.reduceEqDiff, Option.map_some, Option.map_none]; rfl) rfl rfl ?_ ?_
    · simp only [Wk, frIn, hpIn, lk_nil, lk_cons, renV, renX, renC, belV, belX, belC, belL, belB, List.cons_append, List.nil_append, ↓reduceIte, Nat.reduceEqDiff, and_self, and_true, true_and] <;> simp [-List.getD_eq_getElem?_getD, vv, one, renV, renX, renC, belV, belX, belC, belL, belB, rho, renO, belO, lk_nil, lk_cons]
    · rintro ⟨i, hi, hj⟩
      simp only [vv, one, List.cons_append, List.nil_append]
      (have XH := (And.intro @eqs_dty @dty_eta); (repeat' (first
        | refine aOp ?_
        | refine aOff1 ?_
        | refine aOff2 ?_
        | (refine aSplit ?_ ?_ <;> intro hsp)
        | (refine RegA.done ‹_› ?_)
        | refine awp_seq fun K hK => ?_
        | refine Awp.reg ?_
        | refine aNop ?_
        | refine aNoff1 ?_
        | refine aNoff2 ?_
        | (refine aNsplit ?_ ?_ <;> intro hsp)
        | refine aNnil ?_
        | refine aDrawN 10 [[], [0], [], [1, 2], [3], [], [5], [], [6, 7], [8], [4, 9]] [[], [0], [], [1, 2, 0], [3, 1, 2, 0], [], [5], [], [6, 7, 5], [8, 6, 7, 5], [4, 9, 3, 1, 2, 0, 8, 6, 7, 5]] ?_
        | refine Awp.skip ?_
        | refine Awp.block ?_
        | refine Awp.scope ?_
        | refine aCt ?_
        | refine aCf ?_
        | (refine aCond ?_ ?_ <;> intro hsp)
        | (refine Awp.exit ?_; simp only [blockQ, thenQ, scopeQ, ↓reduceIte, Nat.reduceEqDiff])
        | (refine viaK ‹_› ?_)
        | simp only [thenQ_normal, blockQ_normal])); all_goals (clear XH))
      · have e : decide (a = b) = false := dev_ne (.inr (.inr (.inr fun h => hsp (by rw [h]))))
        (refine Awp.ret ?_; refine aRet ?_; (simp [-List.getD_eq_getElem?_getD, laxR, laxX, laxC, laxCs, rB, rN, rO, rDev, dtyD, e] <;> (intros; omega)))
      · refine RegA.nil ⟨⟨i + 1, by omega, fun j hj' => by rcases Nat.lt_succ_iff_lt_or_eq.1 hj' with h | rfl; exact hj j h; exact hsp⟩, [], ?_, ?_⟩
        · simp only [Wk, frIn, hpIn, lk_nil, lk_cons, renV, renX, renC, belV, belX, belC, belL, belB, List.cons_append, List.nil_append, ↓reduceIte, Nat.reduceEqDiff, and_self, and_true, true_and] <;> simp [-List.getD_eq_getElem?_getD, vv, one, renV, renX, renC, belV, belX, belC, belL, belB, rho, renO, belO, lk_nil, lk_cons]
        · (simp only []; omega)
      · have e : decide (a = b) = true := dev_eq ‹a.left = b.left› hdn ‹a.img = b.img› (dty_ext0 (by omega) fun j hj' => hj j (by omega))
        (refine Awp.ret ?_; refine aRet ?_; (simp [-List.getD_eq_getElem?_getD, laxR, laxX, laxC, laxCs, rB, rN, rO, rDev, dtyD, e] <;> (intros; omega)))
end
end Go.Proofs.Ytijllihnheggbaa
