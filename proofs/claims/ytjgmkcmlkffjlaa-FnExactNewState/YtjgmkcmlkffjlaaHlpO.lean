/-
  Helpers of the exact laws of chapter 10: layouts, spots, and cells that begin within a block.
-/
import Derived.Test.YtjgmkcmlkffjlaaRow2
import Derived.Test.YtjgmkcmlkffjlaaHlpCA
import Derived.Test.YtjgmkcmlkffjlaaHlp1
namespace Go.Proofs.Ytjgmkcmlkffjlaa
open Go.RowKit
set_option linter.unusedVariables false
set_option linter.unusedSimpArgs false

set_option maxHeartbeats 400000 in
theorem toLayout_any (W S : Int) (C : Bool) (w : World) :
    Calls Try.prog 19 #[.agg #[.int .i64 W, .bool C, .int .i64 S]] w fun e w' => e = .returned (.agg #[.int .i64 W, .bool C, .int .i64 S]) ∧ Below w.heap.size w w' := by
  go_enter Try.func19, Try.ntmps19
  go_wp2
  exact bodyPost_ret (v := .agg #[.int .i64 W, .bool C, .int .i64 S]) (by simp [results, Try.results19, go_sem]) rfl ⟨rfl, (((Below.refl _ _).alloc (Nat.le_refl _) _).alloc (by simp) _).alloc (by simp; omega) _⟩

set_option maxHeartbeats 400000 in
theorem toSpot_any (L R : Int) (w : World) :
    Calls Try.prog 20 #[.agg #[.int .i64 L, .int .i64 R]] w fun e w' => e = .returned (.agg #[.int .i64 L, .int .i64 R]) ∧ Below w.heap.size w w' := by
  go_enter Try.func20, Try.ntmps20
  go_wp2
  exact bodyPost_ret (v := .agg #[.int .i64 L, .int .i64 R]) (by simp [results, Try.results20, go_sem]) rfl ⟨rfl, (((Below.refl _ _).alloc (Nat.le_refl _) _).alloc (by simp) _).alloc (by simp; omega) _⟩

set_option maxHeartbeats 400000 in
theorem eqSpot_yes (L R : Int) (w : World) :
    Calls Try.prog 56 #[.agg #[.int .i64 L, .int .i64 R], .agg #[.int .i64 L, .int .i64 R]] w fun e w' => e = .returned (.bool true) ∧ Below w.heap.size w w' := by
  have B2 : ∀ o1 o2, Below w.heap.size w ((w.alloc o1).alloc o2) := fun o1 o2 => ((Below.refl _ _).alloc (Nat.le_refl _) o1).alloc (by simp) o2
  go_enter Try.func56, Try.ntmps56
  go_wp2
  go_ret
  exact ⟨rfl, B2 _ _⟩

set_option maxHeartbeats 400000 in
theorem eqSpotResult_yes (c L R : Int) (w : World) :
    Calls Try.prog 23 #[.agg #[.int .i64 c, .int .i64 L, .int .i64 R], .agg #[.int .i64 c, .int .i64 L, .int .i64 R]] w fun e w' => e = .returned (.bool true) ∧ Below w.heap.size w w' := by
  have B2 : ∀ o1 o2, Below w.heap.size w ((w.alloc o1).alloc o2) := fun o1 o2 => ((Below.refl _ _).alloc (Nat.le_refl _) o1).alloc (by simp) o2
  go_enter Try.func23, Try.ntmps23
  go_wp2_with fail
  refine (eqSpot_yes L R _).mono ?_
  rintro e w1 ⟨rfl, hb⟩
  go_wp2
  go_ret
  exact ⟨rfl, (B2 _ _).trans (hb.mono (by simp; omega))⟩

theorem take_set_part {α : Type} (XS : List α) (k n j : Nat) (y : α) (hj : j < n) : ((XS.set (k + j) y).drop k).take n = ((XS.drop k).take n).set j y := by
  rw [List.drop_set, if_neg (by omega), List.take_set, show k + j - k = j by omega]

end Go.Proofs.Ytjgmkcmlkffjlaa