/-
  The contracts of the program's functions, data in, data out. Conditions: those in the statements.
-/
import Derived.Test.YtijllihnheggbaaK1
namespace Go.Proofs.Ytijllihnheggbaa
set_option linter.all false
open Go Go.Proofs.Ytijllihnheggbaa.Eng Go.RowKit
noncomputable section
theorem decLeT {a b : Int} (h : a ≤ b) : decide (a ≤ b) = true := decide_eq_true h
theorem decLeF {a b : Int} (h : b < a) : decide (a ≤ b) = false := decide_eq_false (by omega)
theorem decLtT {a b : Int} (h : a < b) : decide (a < b) = true := decide_eq_true h
theorem decLtF {a b : Int} (h : b ≤ a) : decide (a < b) = false := decide_eq_false (by omega)
theorem tdiv8 {a : Int} (h : 0 ≤ a) : a.tdiv 8 = a / 8 := Int.tdiv_eq_ediv_of_nonneg h
theorem tmod8 {a : Int} (h : 0 ≤ a) : a.tmod 8 = a % 8 := Int.tmod_eq_emod_of_nonneg h

structure Dty where
  at_ : Int
  v : Int
  fl : Bool
  deriving DecidableEq
instance : Inhabited Dty := ⟨⟨0, 0, false⟩⟩
structure Dev where
  img : List Int
  dirty : List Dty
  left : Int
  down : Bool
  deriving DecidableEq
def dtyD (x : Dty) : List D := [.v (.int .i64 x.at_), .v (.int .u64 x.v), .v (.bool x.fl)]
def devC (d : Dev) : List D := [.sl 1 (d.img.map (numD .u64)), .sl 3 (d.dirty.map dtyD), .v (.int .i64 d.left), .v (.bool d.down)]
def devA (d : Dev) : DA := .agg (devC d)
def rDev (d : Dev) : RX := .agg [.o 1 (d.img.map (numD .u64)), .o 3 (d.dirty.map dtyD), .c (.v (.int .i64 d.left)), .c (.v (.bool d.down))]
def sD (l : List Dty) : DA := .one (.sl 3 (l.map dtyD))
theorem getD_dty (l : List Dty) (i : Nat) (h : i < l.length) : (l.map dtyD).getD i [] = [.v (.int .i64 (l.getD i default).at_), .v (.int .u64 (l.getD i default).v), .v (.bool (l.getD i default).fl)] := getD_map dtyD l i default h
def incr (w : Int) : Int → List Dty → Bool
  | _, [] => true
  | last, x :: r => decide (last < x.at_) && decide (x.at_ < w) && incr w x.at_ r
def lastAt (l : List Dty) : Nat → Int
  | 0 => -1
  | k + 1 => (l.getD k default).at_
theorem drop_getD {α : Type} [Inhabited α] {l : List α} {i : Nat} (h : i < l.length) : l.drop i = l.getD i default :: l.drop (i + 1) := by
  rw [List.drop_eq_getElem_cons h]
  simp [List.getD, h]
theorem incr_step {w : Int} {l : List Dty} {i : Nat} (h : i < l.length) : incr w (lastAt l i) (l.drop i) = (decide (lastAt l i < (l.getD i default).at_) && decide ((l.getD i default).at_ < w) && incr w (lastAt l (i + 1)) (l.drop (i + 1))) := by
  rw [drop_getD h]; rfl
namespace X67c454f
def XX := (And.intro (And.intro @getD_dty (And.intro @tdiv8 @tmod8)) (And.intro (And.intro @takeAll @takeDropAll) (And.intro @toNatAdd @toNatSub)))
def XN := @Nat.zero_add
def XR := (And.intro @rDev.eq_1 @dtyD.eq_1)
def XH := @Nat.zero_add
def XG := @Nat.zero_add
end X67c454f
set_option maxHeartbeats 4000000 in
set_option maxRecDepth 10000 in
open X67c454f in
theorem k_cache_increase (l : List Dty) (w : Int) (hl : l.length ≤ 1000000) : Con Try.prog 42 [sD l, vN .i64 w] [rB (incr w (-1) l)] := by
  refine con_of_awp hmix Try.func42 s42 rfl (by rw [n42]; simp) r42 n42 ?_
  simp only [Eng.start, startFr, inX, sN, vN, List.map_cons, List.map_nil, devA, devC, dtyD, sD, c42]
  (repeat' (first
    | refine aOp ?_
    | refine aOff1 ?_
    | refine aOff2 ?_
    | (refine aSplit ?_ ?_ <;> intro hsp)
    | (refine RegA.done ‹_› ?_)
    | refine awp_seq fun K hK => ?_
    | refine Awp.reg ?_
    | refine Awp.skip ?_
    | refine Awp.block ?_
    | refine Awp.scope ?_
    | refine aCt ?_
    | refine aCf ?_
    | (refine aCond ?_ ?_ <;> intro hsp)
    | (refine Awp.exit ?_; simp only [blockQ, thenQ, scopeQ, ↓reduceIte, Nat.reduceEqDiff])
    | (refine viaK ‹_› ?_)
    | simp only [thenQ_normal, blockQ_normal]))
  refine Awp.loopK (α := {i : Nat // i ≤ l.length ∧ incr w (-1) l = incr w (lastAt l i) (l.drop i)}) (fun x => [(10, vv (.int .i64 (x.1 : Int))), (5, vv (.int .i64 (lastAt l x.1)))]) (fun x => []) [1, 8, 9] [] (fun x => l.length - x.1) ⟨0, by omega, by simp [lastAt]⟩ [] (by simp only [List.filterMap_cons, List.filterMap_nil, lk_nil, lk_cons, ↓reduceIte, Nat.reduceEqDiff, Option.map_some, Option.map_none]; rfl) (by simp only [List.filterMap_cons, List.filterMap_nil, lk_nil, lk_cons, ↓reduceIte, Nat.reduceEqDiff, Option.map_some, Option.map_none]; rfl) rfl rfl ?_ ?_
  · simp only [Wk, frIn, hpIn, lk_nil, lk_cons, renV, renX, renC, belV, belX, belC, belL, belB, List.cons_append, List.nil_append, ↓reduceIte, Nat.reduceEqDiff, and_self, and_true, true_and] <;> simp [-List.getD_eq_getElem?_getD, vv, one, renV, renX, renC, belV, belX, belC, belL, belB, rho, renO, belO, lk_nil, lk_cons, lastAt]
  · rintro ⟨i, hi, he⟩
    simp only [vv, one, List.cons_append, List.nil_append]
    (repeat' (first
      | refine aOp ?_
      | refine aOff1 ?_
      | refine aOff2 ?_
      | (refine aSplit ?_ ?_ <;> intro hsp)
      | (refine RegA.done ‹_› ?_)
      | refine awp_seq fun K hK => ?_
      | refine Awp.reg ?_
      | refine Awp.skip ?_
      | refine Awp.block ?_
      | refine Awp.scope ?_
      | refine aCt ?_
      | refine aCf ?_
      | (refine aCond ?_ ?_ <;> intro hsp)
      | (refine Awp.exit ?_; simp only [blockQ, thenQ, scopeQ, ↓reduceIte, Nat.reduceEqDiff])
      | (refine viaK ‹_› ?_)
      | simp only [thenQ_normal, blockQ_normal]))
    · have e : incr w (-1) l = false := by rw [he, incr_step (by omega)]; simp [-List.getD_eq_getElem?_getD]; omega
      (refine Awp.ret ?_; refine aRet ?_; (simp [-List.getD_eq_getElem?_getD, laxR, laxX, laxC, laxCs, rB, rN, rO, rDev, dtyD, e]))
    · have e : incr w (-1) l = false := by rw [he, incr_step (by omega)]; simp [-List.getD_eq_getElem?_getD]; omega
      (refine Awp.ret ?_; refine aRet ?_; (simp [-List.getD_eq_getElem?_getD, laxR, laxX, laxC, laxCs, rB, rN, rO, rDev, dtyD, e]))
    · refine RegA.nil ⟨⟨i + 1, by omega, by rw [he, incr_step (by omega)]; simp [-List.getD_eq_getElem?_getD]; omega⟩, [], ?_, ?_⟩
      · simp only [Wk, frIn, hpIn, lk_nil, lk_cons, renV, renX, renC, belV, belX, belC, belL, belB, List.cons_append, List.nil_append, ↓reduceIte, Nat.reduceEqDiff, and_self, and_true, true_and] <;> simp [-List.getD_eq_getElem?_getD, vv, one, renV, renX, renC, belV, belX, belC, belL, belB, rho, renO, belO, lk_nil, lk_cons, lastAt]
      · (simp only []; omega)
    · have e : incr w (-1) l = true := by rw [he, show i = l.length by omega]; simp [incr]
      (refine Awp.ret ?_; refine aRet ?_; (simp [-List.getD_eq_getElem?_getD, laxR, laxX, laxC, laxCs, rB, rN, rO, rDev, dtyD, e]))
end
end Go.Proofs.Ytijllihnheggbaa
