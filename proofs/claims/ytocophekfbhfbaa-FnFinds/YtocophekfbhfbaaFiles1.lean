/-
  Contracts of small functions: copies of bytes, the fault of a file.
-/
import Derived.Test.YtocophekfbhfbaaHlp1
import Derived.Test.YtocophekfbhfbaaChg
import Derived.Test.YtocophekfbhfbaaFilesM
import Derived.Test.YtocophekfbhfbaaAppend
namespace Go.Proofs.Ytocophekfbhfbaa
open Go.RowKit
set_option linter.unusedVariables false

theorem l2Fault_any (b : Nat) (a : Option Addr) (n ca : Nat) (w : World) (hc : w.cell? ⟨b, 0, none⟩ = some (.slice a n ca)) (hn : n ≤ 1073741824) :
    Calls Try.prog 141 #[.pointer (some ⟨b, 0, none⟩)] w fun e w' => e = .returned (.int .i64 (fFault n)) ∧ w' = w := by
  go_enter Try.func141, Try.ntmps141
  go_wp2
  all_goals go_ret
  all_goals refine ⟨ret_int ?_, rfl⟩
  all_goals (unfold fFault; split <;> omega)

theorem implFileFault_any (a : Option Addr) (n ca : Nat) (w : World) (hn : n ≤ 1073741824) :
    Calls Try.prog 86 #[.agg #[.slice a n ca]] w fun e w' => e = .returned (.int .i64 (fFault n)) ∧ Below w.heap.size w w' := by
  go_enter Try.func86, Try.ntmps86
  go_wp2
  all_goals go_ret
  all_goals refine ⟨ret_int ?_, (Below.refl _ _).alloc (Nat.le_refl _) _⟩
  all_goals (unfold fFault; split <;> omega)

theorem l1In_any (x y z : Int) (w : World) :
    Calls Try.prog 77 #[.int .i64 x, .int .i64 y, .int .i64 z] w fun e w' => e = .returned (.bool (decide (y ≤ x ∧ x ≤ z))) ∧ w' = w := by
  go_enter Try.func77, Try.ntmps77
  go_wp2
  all_goals go_ret
  all_goals refine ⟨ret_bool ?_, rfl⟩
  all_goals (rw [Bool.eq_iff_iff]; simp; try omega)

theorem l1Min_any (x y : Int) (w : World) :
    Calls Try.prog 157 #[.int .i64 x, .int .i64 y] w fun e w' => e = .returned (.int .i64 (min x y)) ∧ w' = w := by
  go_enter Try.func157, Try.ntmps157
  go_wp2
  all_goals go_ret
  all_goals exact ⟨ret_int (by omega), rfl⟩

theorem own_empty (w : World) (base : Nat) (hb : base ≤ w.heap.size) : Own .u8 5 (w.alloc (.cells #[] 5)) base (.slice (some ⟨w.heap.size, 0, none⟩) 0 0) 0 [] :=
  own_lit (k := .u8) w #[] 0 base [] rfl rfl hb (by simp [maxLen])

set_option maxHeartbeats 400000 in
theorem l1Copy_any (a : Option Addr) (n ca : Nat) (xs : List Int) (w : World) (ha : Rd .u8 w a n xs) (h1 : n ≤ 1073741824) :
    Calls Try.prog 158 #[.slice a n ca] w fun e w' => ∃ v, e = .returned v ∧ RowI .u8 5 w' w.heap.size w'.heap.size v n xs ∧ Below w.heap.size w w' := by
  obtain ⟨i0, hi, hz0, hz1, hz2⟩ := info_parts info8
  have ho := own_empty w w.heap.size (Nat.le_refl _)
  have hb := (Below.refl w.heap.size w).alloc (Nat.le_refl _) (.cells #[] 5)
  go_enter Try.func158, Try.ntmps158
  go_wp2_with (at_builtin; refine wpList_append_rd rfl _ _ 22 rfl .u8 w.heap.size 5 i0 1 Try.underlying22 hi hz0 hz1 hz2 _ 0 [] rfl ho a n ca xs rfl (ha.below hb) (by unfold maxLen; omega) (by omega) (by simp) ?_)
  intro v w1 ho1 hg1
  go_wp2
  go_ret
  exact ⟨_, rfl, RowI.of ho1, hb.grown hg1 (by simp) (by simp [Value.ownBlock])⟩

theorem splice_all (n : Nat) (xs : List Int) (h : xs.length = n) : splice (List.replicate n (0 : Int)) 0 xs = xs := by
  simp [splice, h]

theorem splice_two (n m : Nat) (xs ys : List Int) (h : xs.length = n) (h2 : ys.length = m) : splice (splice (List.replicate (n + m) (0 : Int)) 0 xs) n ys = xs ++ ys := by
  have e1 : splice (List.replicate (n + m) (0 : Int)) 0 xs = xs ++ List.replicate m 0 := by
    unfold splice
    simp only [List.take_zero, List.nil_append, Nat.zero_add, List.drop_replicate, h]
    rw [show n + m - n = m by omega]
  rw [e1]
  unfold splice
  rw [List.take_append_of_le_length (by omega), List.take_of_length_le (by omega), List.drop_of_length_le (by simp; omega), List.append_nil]

set_option maxHeartbeats 400000 in
theorem copied_any (a : Option Addr) (n ca : Nat) (xs : List Int) (w : World) (ha : Rd .u8 w a n xs) (h1 : n ≤ 1073741824) :
    Calls Try.prog 87 #[.slice a n ca] w fun e w' => ∃ v, e = .returned v ∧ RowI .u8 5 w' w.heap.size w'.heap.size v n xs ∧ Below w.heap.size w w' := by
  obtain ⟨i0, hi, hz0, hz1, hz2⟩ := info_parts info8
  have hlen := ha.1
  go_enter Try.func87, Try.ntmps87
  go_wp2_with (at_make; refine wpList_make_full _ rfl _ _ 22 rfl w.heap.size 5 i0 (.int .u8 0) 1 Try.underlying22 hi hz0 hz1 _ _ _ _ n rfl rfl rfl rfl (by rw [hz2]; omega) (by unfold maxLen; omega) (Nat.le_refl _) ?_)
  intro w1 hown1 hgrow1
  have ho1 : Own .u8 5 w1 w.heap.size (.slice (some ⟨w.heap.size, 0, none⟩) n n) n (List.replicate n 0) := by
    unfold Own
    rw [List.map_replicate, ← toList_madeCells_one]
    exact hown1
  have hb1 : Below w.heap.size w w1 := (Below.refl _ _).grown hgrow1 (Nat.le_refl _) (by simp)
  clear hown1 hgrow1
  have hr1 := ha.below hb1
  go_wp2_with (refine wpList_copy_rd _ _ 22 22 .u8 5 Try.underlying22 (by rw [hi]; simp [hz1]) _ _ n n n ca rfl rfl w.heap.size w.heap.size n n 0 _ xs ho1 hr1 (Nat.le_refl _) (by omega) (fun _ => rfl) ?_)
  intro w2 ho2 hg2
  have ho3 : Own .u8 5 w2 w.heap.size (.slice (some ⟨w.heap.size, 0, none⟩) n n) n xs := by
    rw [← splice_all n xs hlen]
    exact ho2
  have hb2 := hb1.grown hg2 hb1.size (by simp)
  clear ho2 hg2
  go_wp2
  go_ret
  exact ⟨_, rfl, RowI.of ho3, hb2⟩
end Go.Proofs.Ytocophekfbhfbaa
