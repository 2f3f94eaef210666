/-
  Contracts of small functions: copies of bytes, the fault of a file.
-/
import Derived.Test.YtjgmkcmlkffjlaaDoorHlp1
import Derived.Test.YtjgmkcmlkffjlaaDoorChg
import Derived.Test.YtjgmkcmlkffjlaaDoorFilesM
import Derived.Test.YtjgmkcmlkffjlaaDoorAppend
namespace Go.Proofs.YtjgmkcmlkffjlaaDoor
open Go.RowKit
set_option linter.unusedVariables false

theorem l2Fault_any (b : Nat) (a : Option Addr) (n ca : Nat) (w : World) (hc : w.cell? ⟨b, 0, none⟩ = some (.slice a n ca)) (hn : n ≤ 1073741824) :
    Calls Tryd.prog 49 #[.pointer (some ⟨b, 0, none⟩)] w fun e w' => e = .returned (.int .i64 (fFault n)) ∧ w' = w := by
  go_enter Tryd.func49, Tryd.ntmps49
  go_wp2
  all_goals go_ret
  all_goals refine ⟨ret_int ?_, rfl⟩
  all_goals (unfold fFault; split <;> omega)

theorem implFileFault_any (a : Option Addr) (n ca : Nat) (w : World) (hn : n ≤ 1073741824) :
    Calls Tryd.prog 42 #[.agg #[.slice a n ca]] w fun e w' => e = .returned (.int .i64 (fFault n)) ∧ Below w.heap.size w w' := by
  go_enter Tryd.func42, Tryd.ntmps42
  go_wp2
  all_goals go_ret
  all_goals refine ⟨ret_int ?_, (Below.refl _ _).alloc (Nat.le_refl _) _⟩
  all_goals (unfold fFault; split <;> omega)

theorem l1In_any (x y z : Int) (w : World) :
    Calls Tryd.prog 20 #[.int .i64 x, .int .i64 y, .int .i64 z] w fun e w' => e = .returned (.bool (decide (y ≤ x ∧ x ≤ z))) ∧ w' = w := by
  go_enter Tryd.func20, Tryd.ntmps20
  go_wp2
  all_goals go_ret
  all_goals refine ⟨ret_bool ?_, rfl⟩
  all_goals (rw [Bool.eq_iff_iff]; simp; try omega)

theorem own_empty (w : World) (base : Nat) (hb : base ≤ w.heap.size) : Own .u8 5 (w.alloc (.cells #[] 5)) base (.slice (some ⟨w.heap.size, 0, none⟩) 0 0) 0 [] :=
  own_lit (k := .u8) w #[] 0 base [] rfl rfl hb (by simp [maxLen])

set_option maxHeartbeats 400000 in
theorem l1Copy_any (a : Option Addr) (n ca : Nat) (xs : List Int) (w : World) (ha : Rd .u8 w a n xs) (h1 : n ≤ 1073741824) :
    Calls Tryd.prog 52 #[.slice a n ca] w fun e w' => ∃ v, e = .returned v ∧ RowI .u8 5 w' w.heap.size w'.heap.size v n xs ∧ Below w.heap.size w w' := by
  obtain ⟨i0, hi, hz0, hz1, hz2⟩ := info_parts info8
  have ho := own_empty w w.heap.size (Nat.le_refl _)
  have hb := (Below.refl w.heap.size w).alloc (Nat.le_refl _) (.cells #[] 5)
  go_enter Tryd.func52, Tryd.ntmps52
  go_wp2_with (at_builtin; refine wpList_append_rd rfl _ _ 22 rfl .u8 w.heap.size 5 i0 1 Tryd.underlying22 hi hz0 hz1 hz2 _ 0 [] rfl ho a n ca xs rfl (ha.below hb) (by unfold maxLen; omega) (by omega) (by simp) ?_)
  intro v w1 ho1 hg1
  go_wp2
  go_ret
  exact ⟨_, rfl, RowI.of ho1, hb.grown hg1 (by simp) (by simp [Value.ownBlock])⟩

theorem splice_all (n : Nat) (xs : List Int) (h : xs.length = n) : splice (List.replicate n (0 : Int)) 0 xs = xs := by
  simp [splice, h]

theorem splice_two (n m : Nat) (xs ys : List Int) (h : xs.length = n) (h2 : ys.length = m) : splice (splice (List.replicate (n + m) (0 : Int)) 0 xs) n ys = xs ++ ys := by
  have e1 : splice (List.replicate (n + m) (0 : Int)) 0 xs = xs ++ List.replicate m 0 := by
    unfold splice
    simp only [List.take_zero, List.nil_append, Nat.zero_add, List.drop_replicate, h]
    rw [show n + m - n = m by omega]
  rw [e1]
  unfold splice
  rw [List.take_append_of_le_length (by omega), List.take_of_length_le (by omega), List.drop_of_length_le (by simp; omega), List.append_nil]

end Go.Proofs.YtjgmkcmlkffjlaaDoor