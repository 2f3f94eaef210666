/-
  Chapter 5: SameNodes, both sides.
-/
import Derived.Test.YtoggkcgldckekaaNodeM
import Derived.Test.YtoggkcgldckekaaRows
import Derived.Laws.StructEq
namespace Go.Proofs.Ytoggkcgldckekaa
open Go.RowKit
set_option linter.unusedVariables false

theorem baList (a b : ByteArray) : a.toList = b.toList ↔ a = b := by
  rw [ByteArray.toList_eq, ByteArray.toList_eq]
  obtain ⟨⟨x⟩⟩ := a
  obtain ⟨⟨y⟩⟩ := b
  simp

instance : DecidableEq Nd := fun a b => if h : a.k = b.k ∧ a.c = b.c ∧ a.s = b.s ∧ a.l = b.l ∧ a.r = b.r then .isTrue (by cases a; cases b; simp_all) else .isFalse (by intro e; subst e; simp at h)

theorem ndEq_iff (a b : Nd) : a = b ↔ a.k = b.k ∧ a.c = b.c ∧ a.s = b.s ∧ a.l = b.l ∧ a.r = b.r := by cases a; cases b; simp

/-- Go's '!=' at nodes. -/
theorem neqNode (x y : Nd) (w : World) :
    (binOp .neq 127 (.agg #[.int .i64 x.k, .int .i64 x.c, .string x.s, .int .i64 x.l, .int .i64 x.r]) (.agg #[.int .i64 y.k, .int .i64 y.c, .string y.s, .int .i64 y.l, .int .i64 y.r])).run Try.prog w = .ok (.bool (!decide (x = y))) w := by
  have u3 := Try.underlying2
  have a3 := Try.isAgg2
  have z3 := Try.sizeOf2
  have u9 := Try.underlying9
  have a9 := Try.isAgg9
  have z9 := Try.sizeOf9
  have hS : Try.prog.underlying 127 = some (.struct (Try.prog.fieldsOf 127)) := by kernel_rfl
  have hp : Try.prog.stoodInHeld 127 = false := by kernel_rfl
  rw [run_neq_struct, show (10000 : Nat) = 9999 + 1 from rfl, run_equalIn_agg w 9999 127 _ _ hS hp]
  simp only [Program.fieldsOf, Try.underlying127]
  go_simp
  by_cases h1 : x.k = y.k <;> by_cases h2 : x.c = y.c <;> by_cases h3 : x.s = y.s <;> by_cases h4 : x.l = y.l <;> by_cases h5 : x.r = y.r <;> simp [h1, h2, h3, h4, h5, ndEq_iff, baList]

theorem guardNode (op : BinOp) (a b : Operand) (x y : Array Value) (w : World) : (eqGuard op 127 a b (.agg x) (.agg y)).run Try.prog w = .ok () w := run_eqGuard_agg w op 127 a b x y (by kernel_rfl)

theorem same_end {xs ys : List Nd} {n : Nat} (h1 : xs.length = n) (h2 : ys.length = n) (h : xs.take n = ys.take n) : xs = ys := by
  rwa [List.take_of_length_le (by omega), List.take_of_length_le (by omega)] at h
theorem same_succ {xs ys : List Nd} {k : Nat} {x : Nd} (h1 : xs[k]? = some x) (h2 : ys[k]? = some x) (h : xs.take k = ys.take k) : xs.take (k + 1) = ys.take (k + 1) := by
  rw [List.take_add_one, List.take_add_one, h1, h2, h]
theorem same_no {xs ys : List Nd} {k : Nat} {x y : Nd} (h1 : xs[k]? = some x) (h2 : ys[k]? = some y) (h : x ≠ y) : xs ≠ ys := by
  rintro rfl
  rw [h1] at h2
  exact h (by simpa using h2)

/-- The first k are alike. -/
def Alike (xs ys : List Nd) (k : Nat) : Prop := xs.take k = ys.take k

end Go.Proofs.Ytoggkcgldckekaa