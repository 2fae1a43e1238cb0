/-
  Values seen as data: a part of the engine, of no one program. No condition.
-/
import Derived.Test.YtnmpdpijcehofaaE5
import Derived.Laws.StructEq
namespace Go.Proofs.Ytnmpdpijcehofaa.Eng
set_option linter.all false
noncomputable section
open Go.RowKit

/-! ### What an operation does -/
structure Eff where
  val : Option AV
  ups : List (Nat × Ob) := []
  cnt : Nat := 0
def one (c : AC) : AV := .x (.one c)
def vv (v : Value) : AV := one (.d (.v v))
def ok1 (x : AV) : Option Eff := some { val := some x }

def binV (op : BinOp) (x y : Value) : Option Value :=
  match x, y with
  | .int k a, .int k' b => if k = k' then
      match op with
      | .add => some (.int k (k.wrap (a + b)))
      | .sub => some (.int k (k.wrap (a - b)))
      | .mul => some (.int k (k.wrap (a * b)))
      | .quo => if b = 0 then none else some (.int k (k.wrap (a.tdiv b)))
      | .rem => if b = 0 then none else some (.int k (a.tmod b))
      | .and => some (.int k (bits .and k a b))
      | .or => some (.int k (bits .or k a b))
      | .xor => some (.int k (bits .xor k a b))
      | .andNot => some (.int k (bits .andNot k a b))
      | .shl => if 0 ≤ b then some (.int k (k.wrap (a * 2 ^ (min b.toNat k.bits)))) else none
      | .shr => if 0 ≤ b then some (.int k (a.fdiv (2 ^ (min b.toNat k.bits)))) else none
      | .eql => some (.bool (decide (a = b)))
      | .neq => some (.bool (!decide (a = b)))
      | .lss => some (.bool (decide (a < b)))
      | .leq => some (.bool (decide (a ≤ b)))
      | .gtr => some (.bool (decide (b < a)))
      | .geq => some (.bool (decide (b ≤ a)))
    else match op with
      | .shl => if 0 ≤ b then some (.int k (k.wrap (a * 2 ^ (min b.toNat k.bits)))) else none
      | .shr => if 0 ≤ b then some (.int k (a.fdiv (2 ^ (min b.toNat k.bits)))) else none
      | _ => none
  | _, _ => none
theorem binV_run {op : BinOp} {x y v : Value} (h : binV op x y = some v) (P : Program) (t : TypeId) (ox oy : Operand) (w : World) : (do eqGuard op t ox oy x y; binOp op t x y : Sem Value).run P w = .ok v w ∧ v.oneCell' = true := by
  unfold binV at h
  split at h
  · rename_i k a k' b
    have hg : eqGuard op t ox oy (.int k a) (.int k' b) = pure () := eqGuard_at_int op t ox oy (.int k' b) k a
    rw [hg]
    split at h
    · rename_i hk
      subst hk
      cases op <;> simp only [] at h
      case quo =>
        split at h
        · cases h
        · rename_i hb; cases h; simp [binOp_quo, Op.intDiv, hb, Value.oneCell']
      case rem =>
        split at h
        · cases h
        · rename_i hb; cases h; simp [binOp_rem, Op.intDiv, hb, Value.oneCell']
      case shl =>
        split at h
        · rename_i hb; cases h; simp [binOp_shl, Op.shift, Int.not_lt.2 hb, Value.oneCell']
        · cases h
      case shr =>
        split at h
        · rename_i hb; cases h; simp [binOp_shr, Op.shift, Int.not_lt.2 hb, Value.oneCell']
        · cases h
      all_goals (cases h; simp [binOp_add, binOp_sub, binOp_mul, binOp_and, binOp_or, binOp_xor, binOp_andNot, binOp_eql, binOp_neq, binOp_lss, binOp_leq, binOp_gtr, binOp_geq, Op.intArith, intBits_and, intBits_or, intBits_xor, intBits_andNot, Value.oneCell', bne, BEq.beq])
    · split at h
      · split at h
        · rename_i hb; cases h; simp [binOp_shl, Op.shift, Int.not_lt.2 hb, Value.oneCell']
        · cases h
      · split at h
        · rename_i hb; cases h; simp [binOp_shr, Op.shift, Int.not_lt.2 hb, Value.oneCell']
        · cases h
      · cases h
  · cases h
/-- .. and two booleans, compared. -/
def boolT (P : Program) (t : TypeId) : Bool :=
  match P.underlying t with
  | some .bool => true
  | _ => false
/-- .. and two structs of numbers and booleans, compared. -/
def eqF (P : Program) (xs ys : List Value) : List Field → Option Bool
  | [] => some true
  | f :: fs => if f.name = "_" then none else
    match P.underlying f.type, xs[f.offset]?, ys[f.offset]? with
    | some (.int _), some (.int k a), some (.int k' b) => if k = k' then (eqF P xs ys fs).map fun r => decide (a = b) && r else none
    | some .bool, some (.bool a), some (.bool b) => (eqF P xs ys fs).map fun r => (a == b) && r
    | _, _, _ => none
def eqS (P : Program) (t : TypeId) (xs ys : List Value) : Option Bool :=
  match P.underlying t with
  | some (.struct fs) => if P.eqGuardType P.depth t = false ∧ P.stoodInHeld t = false then eqF P xs ys fs.toList else none
  | _ => none
theorem eqF_run {P : Program} (w : World) {xs ys : Array Value} : ∀ {fs : List Field} {r : Bool}, eqF P xs.toList ys.toList fs = some r → (Op.eqFields 9999 xs ys fs).run P w = .ok r w
  | [], r, h => by simp only [eqF, Option.some.injEq] at h; subst h; simp [Op.eqFields]
  | f :: fs, r, h => by
    simp only [eqF] at h
    split at h
    · cases h
    · rename_i hn
      split at h
      · rename_i k0 k a k' b hu hx hy
        split at h
        · rename_i hk
          subst hk
          obtain ⟨r', hr', rfl⟩ := Option.map_eq_some_iff.1 h
          have hp : ∀ (zs : Array Value) (v : Value), zs.toList[f.offset]? = some v → (part f.type zs f.offset).run P w = .ok v w := fun zs v hz => by
            have hz' : zs[f.offset]? = some v := by simpa using hz
            simp [part, isAgg, run_underlying hu, hz']
          have ih := eqF_run w hr'
          simp only [Op.eqFields, if_pos hn, Sem.run_bind, hp xs _ hx, hp ys _ hy, Result.andThen_ok, run_equalIn_int w 9998 f.type k k0 a b hu]
          by_cases hab : a = b
          · subst hab; simp [ih]
          · simp [hab]
        · cases h
      · rename_i a b hu hx hy
        obtain ⟨r', hr', rfl⟩ := Option.map_eq_some_iff.1 h
        have hp : ∀ (zs : Array Value) (v : Value), zs.toList[f.offset]? = some v → (part f.type zs f.offset).run P w = .ok v w := fun zs v hz => by
          have hz' : zs[f.offset]? = some v := by simpa using hz
          simp [part, isAgg, run_underlying hu, hz']
        have ih := eqF_run w hr'
        simp only [Op.eqFields, if_pos hn, Sem.run_bind, hp xs _ hx, hp ys _ hy, Result.andThen_ok, run_equalIn_bool' w 9998 f.type a b hu]
        cases hab : (a == b)
        · simp
        · simp [ih]
      · cases h
def binX (P : Program) (op : BinOp) (t : TypeId) (x y : Value) : Option Value :=
  match x, y with
  | .bool a, .bool b => if boolT P t = true then (match op with
      | .eql => some (.bool (a == b))
      | .neq => some (.bool (!(a == b)))
      | _ => none) else none
  | .agg xs, .agg ys => (match op with
      | .eql => (eqS P t xs.toList ys.toList).map fun b => .bool b
      | .neq => (eqS P t xs.toList ys.toList).map fun b => .bool (!b)
      | _ => none)
  | x, y => binV op x y
theorem binX_run {P : Program} {op : BinOp} {t : TypeId} {x y v : Value} (h : binX P op t x y = some v) (ox oy : Operand) (w : World) : (do eqGuard op t ox oy x y; binOp op t x y : Sem Value).run P w = .ok v w ∧ v.oneCell' = true := by
  unfold binX at h
  split at h
  · rename_i a b
    split at h
    · rename_i hb
      have ht : P.underlying t = some .bool := by
        unfold boolT at hb
        split at hb
        · assumption
        · cases hb
      have hg : eqGuard op t ox oy (.bool a) (.bool b) = pure () := eqGuard_at_bool op t ox oy (.bool b) a
      rw [hg]
      split at h
      · cases h
        refine ⟨?_, rfl⟩
        simp only [Sem.run_bind, Sem.run_pure, Result.andThen_ok]
        exact run_eql_bool w t a b ht
      · cases h
        refine ⟨?_, rfl⟩
        simp only [Sem.run_bind, Sem.run_pure, Result.andThen_ok]
        exact run_neq_bool w t a b ht
      · cases h
    · cases h
  · rename_i xs ys
    have key : ∀ {b : Bool}, eqS P t xs.toList ys.toList = some b → (eqGuard op t ox oy (.agg xs) (.agg ys)).run P w = .ok () w ∧ (Op.equalIn 10000 t (.agg xs) (.agg ys)).run P w = .ok b w := fun {b} hb => by
      unfold eqS at hb
      split at hb
      · rename_i fs hu
        split at hb
        · rename_i hc
          have hf : P.underlying t = some (.struct (P.fieldsOf t)) := by simp [Program.fieldsOf, hu]
          have he : (P.fieldsOf t) = fs := by simp [Program.fieldsOf, hu]
          refine ⟨run_eqGuard_agg w op t ox oy xs ys hc.1, ?_⟩
          rw [run_equalIn_struct w 9999 t xs ys hf hc.2, he]
          exact eqF_run w hb
        · cases hb
      · cases hb
    split at h
    · obtain ⟨b, hb, rfl⟩ := Option.map_eq_some_iff.1 h
      obtain ⟨h1, h2⟩ := key hb
      refine ⟨?_, rfl⟩
      simp only [Sem.run_bind, h1, Result.andThen_ok, run_eql_struct, h2]
    · obtain ⟨b, hb, rfl⟩ := Option.map_eq_some_iff.1 h
      obtain ⟨h1, h2⟩ := key hb
      refine ⟨?_, rfl⟩
      simp only [Sem.run_bind, h1, Result.andThen_ok, run_neq_struct, h2]
    · cases h
  · exact binV_run h P t ox oy w
def unV (op : UnOp) (x : Value) : Option Value :=
  match op, x with
  | .neg, .int k n => some (.int k (k.wrap (0 - n)))
  | .xor, .int k n => some (.int k (bits .xor k (if k.signed then -1 else k.max) n))
  | .not, .bool b => some (.bool !b)
  | _, _ => none
theorem unV_run {op : UnOp} {x v : Value} (h : unV op x = some v) (P : Program) (w : World) : (Op.unary op x).run P w = .ok v w ∧ v.oneCell' = true := by
  unfold unV at h
  split at h
  · cases h; simp [Op.unary, Op.intArith, Value.oneCell']
  · cases h; simp [Op.unary, intBits_xor, Value.oneCell']
  · cases h; simp [Op.unary, Value.oneCell']
  · cases h
def cvV (P : Program) (src dst : TypeId) (x : Value) : Option Value :=
  match x, ti P src, ti P dst with
  | .int _ n, some _, some ⟨.int k, _, _, _⟩ => some (.int k (k.wrap n))
  | _, _, _ => none
theorem cvV_run {P : Program} {src dst : TypeId} {x v : Value} (h : cvV P src dst x = some v) (w : World) : (convert src dst x).run P w = .ok v w ∧ v.oneCell' = true := by
  unfold cvV at h
  split at h
  · rename_i k0 n x1 k s b z h1 h2
    cases h
    obtain ⟨_, d1, _, _, e1, _⟩ := ti_info h1
    obtain ⟨_, d2, _, _, e2, _, _, hx, _⟩ := ti_info h2
    have hd : d2 = .int k := by
      simp only [TI.mk.injEq] at hx
      cases d2 <;> simp [tk] at hx
      rw [hx.1]
    subst hd
    have := run_convert_int (P := P) w src dst k0 n (by simp [e1]) (by simp [Program.intKind, e2])
    simpa [Program.intKind, e2, Value.oneCell'] using this
  · cases h

/-- A value's cells, as they lie in a variable. -/
def cellsOf : AV → Option (List AC)
  | .x (.one c) => some [c]
  | .x (.agg cs) => some cs
  | .tup _ => none
theorem cellsOf_rep {E : Env} {x : Value} {a : AV} {cs : List AC} (h : RepV E x a) (hc : cellsOf a = some cs) : All2 (RepC E) x.cells.toList cs ∧ ∀ v ∈ x.cells.toList, v.oneCell' = true := by
  have key : ∀ {xs : List Value} {cs : List AC}, All2 (RepC E) xs cs → ∀ v ∈ xs, v.oneCell' = true := fun {xs cs} h => by
    induction h with
    | nil => simp
    | cons h _ ih => intro v hv; rcases List.mem_cons.1 hv with rfl | hv; exact h.one; exact ih v hv
  cases a with
  | x a => cases a with
    | one c =>
      simp only [cellsOf, Option.some.injEq] at hc
      subst hc
      have h1 : x.oneCell' = true := RepC.one h
      have hx : x.cells = #[x] := by cases x <;> first | rfl | (simp [Value.oneCell'] at h1)
      rw [hx]
      exact ⟨.cons h .nil, by simpa using h1⟩
    | agg l =>
      simp only [cellsOf, Option.some.injEq] at hc
      subst hc
      obtain ⟨arr, rfl, ha⟩ := h
      exact ⟨ha, key ha⟩
  | tup _ => simp [cellsOf] at hc
/-- Cells read as a value of a type. -/
def asVal (agg : Bool) (cs : List AC) : Option AV :=
  if agg then some (.x (.agg cs)) else match cs with | [c] => some (one c) | _ => none
end
end Go.Proofs.Ytnmpdpijcehofaa.Eng
