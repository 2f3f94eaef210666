/-
  Chapter 8: a new table.
-/
import Derived.Test.YtlemdjgpkmjihaaTab2
import Derived.Test.YtlemdjgpkmjihaaHlpX
import Derived.Test.YtlemdjgpkmjihaaProgA
namespace Go.Proofs.Ytlemdjgpkmjihaa
open Go.RowKit
set_option linter.unusedVariables false
set_option linter.unusedSimpArgs false

/-- What NewTable tells. -/
def ntCode (z : Int) : Int := if 1 ≤ z ∧ z ≤ 12 then 0 else 3
def ntSize (z : Int) : Int := if 1 ≤ z ∧ z ≤ 12 then z else 0
def ntVal : Int := 0
def ntRows : List St := []

set_option maxHeartbeats 800000 in
theorem l8Bad_any (c : Int) (w : World) : Calls Try.prog 67 #[.int .i64 c] w fun e w' => e = .returned (.agg #[.int .i64 c, .int .i64 0, .int .i64 0, .slice none 0 0]) ∧ Below w.heap.size w w' := by
  go_enter Try.func67, Try.ntmps67
  go_wp2
  refine bodyPost_ret (v := .agg #[.int .i64 c, .int .i64 0, .int .i64 0, .slice none 0 0]) (by simp [results, Try.results67, go_sem]) rfl ⟨rfl, ?_⟩
  exact (Below.refl _ _).alloc (Nat.le_refl _) _

set_option maxHeartbeats 800000 in
theorem specNewTable_any (z : Int) (w : World) : Calls Try.prog 32 #[.int .i64 z] w fun e w' => ∃ v, e = .returned (.agg #[.int .i64 (ntCode z), .int .i64 ntVal, .int .i64 (ntSize z), v]) ∧ TabR true w' w.heap.size w'.heap.size v ntRows.length ntRows ∧ Below w.heap.size w w' := by
  have b1 := fun o => (Below.refl w.heap.size w).alloc (Nat.le_refl _) o
  by_cases hz : 1 ≤ z ∧ z ≤ 12
  · rw [ntCode, ntSize, if_pos hz, if_pos hz]
    have CI : Hid _ := fun w' => in5_is z 1 12 true w' (by simpa using hz)
    go_enter Try.func32, Try.ntmps32
    go_wp2_with fail
    refine (CI.out _).mono ?_
    rintro e w2 ⟨rfl, rfl⟩
    go_wp2
    refine bodyPost_ret (v := .agg #[.int .i64 0, .int .i64 0, .int .i64 z, .slice none 0 0]) (by simp [results, Try.results32, go_sem]) rfl ⟨_, rfl, TabR.nil _ _ _ _, ?_⟩
    exact b1 _
  · rw [ntCode, ntSize, if_neg hz, if_neg hz]
    have CI : Hid _ := fun w' => in5_is z 1 12 false w' (by simpa using hz)
    go_enter Try.func32, Try.ntmps32
    go_wp2_with fail
    refine (CI.out _).mono ?_
    rintro e w2 ⟨rfl, rfl⟩
    go_wp2_with fail
    refine (l8Bad_any 3 _).mono ?_
    rintro e w3 ⟨rfl, hb3⟩
    have rb := (Blk.new w #[.int .i64 0, .int .i64 0, .int .i64 0, .slice none 0 0] 43).of hb3
    have hb03 := below_slot hb3
    have d0 := rb.cell 0
    have df0 := rb.frozen 0
    have d1 := rb.cell 1
    have df1 := rb.frozen 1
    have d2 := rb.cell 2
    have df2 := rb.frozen 2
    have d3 := rb.cell 3
    have df3 := rb.frozen 3
    simp only [List.getElem?_toArray, List.getElem?_cons_zero, List.getElem?_cons_succ] at d0 d1 d2 d3
    clear rb hb3
    go_wp2
    refine bodyPost_ret (v := .agg #[.int .i64 3, .int .i64 0, .int .i64 0, .slice none 0 0]) (by simp [results, Try.results32, go_sem, d0, d1, d2, d3]) rfl ⟨_, rfl, TabR.nil _ _ _ _, ?_⟩
    repeat first | exact hb03 | refine Below.setCell ?_ (by first | exact Nat.le_refl _ | omega | (simp; done)) _

set_option maxHeartbeats 800000 in
theorem implNewTable_any (z : Int) (w : World) : Calls Try.prog 31 #[.int .i64 z] w fun e w' => ∃ v, e = .returned (.agg #[.int .i64 (ntCode z), .int .i64 ntVal, .int .i64 (ntSize z), v]) ∧ TabR true w' w.heap.size w'.heap.size v ntRows.length ntRows ∧ Below w.heap.size w w' := by
  have b1 := fun o => (Below.refl w.heap.size w).alloc (Nat.le_refl _) o
  by_cases hz : 1 ≤ z ∧ z ≤ 12
  · rw [ntCode, ntSize, if_pos hz, if_pos hz]
    have CI : Hid _ := fun w' => tableSize_is z true w' (by simpa using hz)
    go_enter Try.func31, Try.ntmps31
    go_wp2_with fail
    refine (CI.out _).mono ?_
    rintro e w2 ⟨rfl, rfl⟩
    go_wp2
    refine bodyPost_ret (v := .agg #[.int .i64 0, .int .i64 0, .int .i64 z, .slice none 0 0]) (by simp [results, Try.results31, go_sem]) rfl ⟨_, rfl, TabR.nil _ _ _ _, ?_⟩
    exact b1 _
  · rw [ntCode, ntSize, if_neg hz, if_neg hz]
    have CI : Hid _ := fun w' => tableSize_is z false w' (by simpa using hz)
    go_enter Try.func31, Try.ntmps31
    go_wp2_with fail
    refine (CI.out _).mono ?_
    rintro e w2 ⟨rfl, rfl⟩
    go_wp2
    refine bodyPost_ret (v := .agg #[.int .i64 3, .int .i64 0, .int .i64 0, .slice none 0 0]) (by simp [results, Try.results31, go_sem]) rfl ⟨_, rfl, TabR.nil _ _ _ _, ?_⟩
    exact b1 _
end Go.Proofs.Ytlemdjgpkmjihaa
