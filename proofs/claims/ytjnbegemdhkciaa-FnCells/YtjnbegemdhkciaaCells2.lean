/-
  Contracts of CellsOf and WidthOf: the specification's.
-/
import Derived.Test.YtjnbegemdhkciaaCells1
namespace Go.Proofs.Ytjnbegemdhkciaa
open Go.RowKit
set_option linter.unusedVariables false

/-- What CellsOf tells. -/
def cellsCode (xs : List Int) : Int := if 400 < xs.length then 2 else 0
def cellsRes (xs : List Int) : List C3 := if 400 < xs.length then [] else cellsAll xs

set_option maxHeartbeats 400000 in
theorem specCellsOf_any (a : Option Addr) (n ca : Nat) (xs : List Int) (w : World) (ha : Rd .u8 w a n xs) (hB : Bytes xs) (h1 : n ≤ 1073741824) :
    Calls Try.prog 21 #[.slice a n ca] w fun e w' => ∃ v, e = .returned (.agg #[.int .i64 (cellsCode xs), v]) ∧ OwnR cellE 3 43 w' w.heap.size v (cellsRes xs).length (cellsRes xs) ∧ Below w.heap.size w w' := by
  have B1 : ∀ o1, Below w.heap.size w (w.alloc o1) := fun o1 => (Below.refl _ _).alloc (Nat.le_refl _) o1
  by_cases hn : n ≤ 400
  · have e1 : cellsCode xs = 0 := by unfold cellsCode; rw [ha.1, if_neg (by omega)]
    have e2 : cellsRes xs = cellsAll xs := by unfold cellsRes; rw [ha.1, if_neg (by omega)]
    rw [e1, e2]
    clear e1 e2
    go_enter Try.func21, Try.ntmps21
    go_wp2_with fail
    refine (l1Cells_any a n ca xs _ (ha.below (B1 _)) hB hn).mono ?_
    rintro e w1 ⟨v, rfl, ho, hb⟩
    obtain ⟨av, cap, hv, _⟩ := ho.rd cellE_len
    subst hv
    have hc0 : w1.cell? ⟨w.heap.size, 0, none⟩ = some (.int .i64 0) := (hb.cell (p := ⟨w.heap.size, 0, none⟩) (by simp)).trans (by simp)
    have hc1 : w1.cell? ⟨w.heap.size, 1, none⟩ = some (.slice none 0 0) := (hb.cell (p := ⟨w.heap.size, 1, none⟩) (by simp)).trans (by simp)
    have hf0 : w1.frozen? ⟨w.heap.size, 0, none⟩ = false := (hb.frozen (p := ⟨w.heap.size, 0, none⟩) (by simp)).trans (by simp)
    have hf1 : w1.frozen? ⟨w.heap.size, 1, none⟩ = false := (hb.frozen (p := ⟨w.heap.size, 1, none⟩) (by simp)).trans (by simp)
    go_wp2
    refine bodyPost_ret (v := .agg #[.int .i64 0, .slice av (cellsAll xs).length cap]) (by simp [results, Try.results21, go_sem, hc0, hc1]) rfl ⟨_, rfl, ?_, ?_⟩
    · exact ((ho.setBelow (by simp) _).setBelow (by simp) _).up (by simp)
    · exact ((below_slot hb).setCell (Nat.le_refl _) _).setCell (Nat.le_refl _) _
  · have e1 : cellsCode xs = 2 := by unfold cellsCode; rw [ha.1, if_pos (by omega)]
    have e2 : cellsRes xs = [] := by unfold cellsRes; rw [ha.1, if_pos (by omega)]
    rw [e1, e2]
    clear e1 e2
    go_enter Try.func21, Try.ntmps21
    go_wp2
    exact bodyPost_ret (v := .agg #[.int .i64 2, .slice none 0 0]) (by simp [results, Try.results21, go_sem]) rfl ⟨_, rfl, OwnR.nil _ _ _ _ _, B1 _⟩

/-- What WidthOf tells. -/
def widthVal (xs : List Int) : Value := .agg #[.int .i64 (cellsCode xs), .int .i64 (cellsRes xs).length]

set_option maxHeartbeats 400000 in
theorem specWidthOf_any (a : Option Addr) (n ca : Nat) (xs : List Int) (w : World) (ha : Rd .u8 w a n xs) (hB : Bytes xs) (h1 : n ≤ 1073741824) :
    Calls Try.prog 37 #[.slice a n ca] w fun e w' => e = .returned (widthVal xs) ∧ Below w.heap.size w w' := by
  have B1 : ∀ o1, Below w.heap.size w (w.alloc o1) := fun o1 => (Below.refl _ _).alloc (Nat.le_refl _) o1
  unfold widthVal
  by_cases hn : n ≤ 400
  · have e1 : cellsCode xs = 0 := by unfold cellsCode; rw [ha.1, if_neg (by omega)]
    have e2 : cellsRes xs = cellsAll xs := by unfold cellsRes; rw [ha.1, if_neg (by omega)]
    rw [e1, e2]
    clear e1 e2
    go_enter Try.func37, Try.ntmps37
    go_wp2_with fail
    refine (l1Cells_any a n ca xs _ (ha.below (B1 _)) hB hn).mono ?_
    rintro e w1 ⟨v, rfl, ho, hb⟩
    obtain ⟨av, cap, hv, _⟩ := ho.rd cellE_len
    subst hv
    have hc0 : w1.cell? ⟨w.heap.size, 0, none⟩ = some (.int .i64 0) := (hb.cell (p := ⟨w.heap.size, 0, none⟩) (by simp)).trans (by simp)
    have hc1 : w1.cell? ⟨w.heap.size, 1, none⟩ = some (.int .i64 0) := (hb.cell (p := ⟨w.heap.size, 1, none⟩) (by simp)).trans (by simp)
    have hf0 : w1.frozen? ⟨w.heap.size, 0, none⟩ = false := (hb.frozen (p := ⟨w.heap.size, 0, none⟩) (by simp)).trans (by simp)
    have hf1 : w1.frozen? ⟨w.heap.size, 1, none⟩ = false := (hb.frozen (p := ⟨w.heap.size, 1, none⟩) (by simp)).trans (by simp)
    go_wp2
    refine bodyPost_ret (v := .agg #[.int .i64 0, .int .i64 (cellsAll xs).length]) (by simp [results, Try.results37, go_sem, hc0, hc1]) rfl ⟨rfl, ?_⟩
    exact ((below_slot hb).setCell (Nat.le_refl _) _).setCell (Nat.le_refl _) _
  · have e1 : cellsCode xs = 2 := by unfold cellsCode; rw [ha.1, if_pos (by omega)]
    have e2 : cellsRes xs = [] := by unfold cellsRes; rw [ha.1, if_pos (by omega)]
    rw [e1, e2]
    clear e1 e2
    go_enter Try.func37, Try.ntmps37
    go_wp2
    exact bodyPost_ret (v := .agg #[.int .i64 2, .int .i64 0]) (by simp [results, Try.results37, go_sem]) rfl ⟨rfl, B1 _⟩
end Go.Proofs.Ytjnbegemdhkciaa
