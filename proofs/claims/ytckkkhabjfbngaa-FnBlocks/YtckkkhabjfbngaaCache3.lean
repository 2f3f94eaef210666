/-
  NewCache, of the specification and of the program.
-/
import Derived.Test.YtckkkhabjfbngaaCache2
namespace Go.Proofs.Ytckkkhabjfbngaa
open Go.RowKit
set_option linter.unusedVariables false

def ncCode (u z : Int) : Int := if u < 1 ∨ 64 < u ∨ z < 1 ∨ 6 < z then 3 else 0
def ncU (u z : Int) : Int := if u < 1 ∨ 64 < u ∨ z < 1 ∨ 6 < z then 0 else u
def ncZ (u z : Int) : Int := if u < 1 ∨ 64 < u ∨ z < 1 ∨ 6 < z then 0 else z
def ncRs : List Int := []
def ncQs : List Bk := []

theorem nc_fault (u z : Int) : cacheFault u z [] = ncCode u z := by
  unfold cacheFault ncCode
  by_cases h : u < 1 ∨ 64 < u ∨ z < 1 ∨ 6 < z
  · rw [if_pos h, if_pos h]
  · rw [if_neg h, if_neg h, if_neg (by simp; omega)]
    rfl

theorem nc_bad {u z : Int} (h : u < 1 ∨ 64 < u ∨ z < 1 ∨ 6 < z) : ncCode u z = 3 ∧ ncU u z = 0 ∧ ncZ u z = 0 := by
  unfold ncCode ncU ncZ
  rw [if_pos h, if_pos h, if_pos h]
  exact ⟨rfl, rfl, rfl⟩

theorem nc_good {u z : Int} (h : ¬ (u < 1 ∨ 64 < u ∨ z < 1 ∨ 6 < z)) : ncCode u z = 0 ∧ ncU u z = u ∧ ncZ u z = z := by
  unfold ncCode ncU ncZ
  rw [if_neg h, if_neg h, if_neg h]
  exact ⟨rfl, rfl, rfl⟩

theorem l3Bad_res (c : Int) (w : World) :
    Calls Try.prog 54 #[.int .i64 c] w fun e w' => e = .returned (.agg #[.int .i64 c, .slice none 0 0, .int .i64 0, .int .i64 0, .slice none 0 0]) ∧ Below w.heap.size w w' := l3Bad_any c w

set_option maxHeartbeats 400000 in
theorem specNewCache_any (u z : Int) (w : World) :
    Calls Try.prog 32 #[.int .i64 u, .int .i64 z] w fun e w' => ∃ vb va, e = .returned (.agg #[.int .i64 (ncCode u z), vb, .int .i64 (ncU u z), .int .i64 (ncZ u z), va]) ∧
      RowI .u8 5 w' w.heap.size w'.heap.size vb ncRs.length ncRs ∧ RowB 93 5 w' w.heap.size w'.heap.size va ncQs.length ncQs ∧ Below w.heap.size w w' := by
  by_cases h : u < 1 ∨ 64 < u ∨ z < 1 ∨ 6 < z
  · obtain ⟨e1, e2, e3⟩ := nc_bad h
    rw [e1, e2, e3]
    by_cases hu : u < 1 ∨ 64 < u
    · go_enter Try.func32, Try.ntmps32
      go_wp2_with fail
      refine (l1In_is u 1 64 false _ (by simp; omega)).mono ?_
      rintro e w1 ⟨rfl, rfl⟩
      go_wp2_with fail
      refine (l3Bad_res 3 _).mono ?_
      rintro e w2 ⟨rfl, hb2⟩
      have d0 : w2.cell? ⟨w.heap.size, 0, none⟩ = some (.int .i64 0) := cell_later hb2 (by simp [go_sem])
      have d1 : w2.cell? ⟨w.heap.size, 1, none⟩ = some (.slice none 0 0) := cell_later hb2 (by simp [go_sem])
      have d2 : w2.cell? ⟨w.heap.size, 2, none⟩ = some (.int .i64 0) := cell_later hb2 (by simp [go_sem])
      have d3 : w2.cell? ⟨w.heap.size, 3, none⟩ = some (.int .i64 0) := cell_later hb2 (by simp [go_sem])
      have d4 : w2.cell? ⟨w.heap.size, 4, none⟩ = some (.slice none 0 0) := cell_later hb2 (by simp [go_sem])
      have f0 : ∀ j, w2.frozen? ⟨w.heap.size, j, none⟩ = false := fun j => (hb2.frozen (p := ⟨w.heap.size, j, none⟩) (by simp)).trans (by simp [go_sem])
      have g0 := f0 0
      have g1 := f0 1
      have g2 := f0 2
      have g3 := f0 3
      have g4 := f0 4
      go_wp2
      refine bodyPost_ret (v := .agg #[.int .i64 3, .slice none 0 0, .int .i64 0, .int .i64 0, .slice none 0 0]) (by simp [results, Try.results32, go_sem, d0, d1, d2, d3, d4]) rfl ⟨_, _, rfl, RowI.nil _ _ _ _ _, RowB.nil _ _ _ _ _, ?_⟩
      have hb := below_slot hb2
      exact ((((hb.setCell (Nat.le_refl _) _).setCell (Nat.le_refl _) _).setCell (Nat.le_refl _) _).setCell (Nat.le_refl _) _).setCell (Nat.le_refl _) _
    · go_enter Try.func32, Try.ntmps32
      go_wp2_with fail
      refine (l1In_is u 1 64 true _ (by simp; omega)).mono ?_
      rintro e w1 ⟨rfl, rfl⟩
      go_wp2_with fail
      refine (l1In_is z 1 6 false _ (by simp; omega)).mono ?_
      rintro e w1 ⟨rfl, rfl⟩
      go_wp2_with fail
      refine (l3Bad_res 3 _).mono ?_
      rintro e w2 ⟨rfl, hb2⟩
      have d0 : w2.cell? ⟨w.heap.size, 0, none⟩ = some (.int .i64 0) := cell_later hb2 (by simp [go_sem])
      have d1 : w2.cell? ⟨w.heap.size, 1, none⟩ = some (.slice none 0 0) := cell_later hb2 (by simp [go_sem])
      have d2 : w2.cell? ⟨w.heap.size, 2, none⟩ = some (.int .i64 0) := cell_later hb2 (by simp [go_sem])
      have d3 : w2.cell? ⟨w.heap.size, 3, none⟩ = some (.int .i64 0) := cell_later hb2 (by simp [go_sem])
      have d4 : w2.cell? ⟨w.heap.size, 4, none⟩ = some (.slice none 0 0) := cell_later hb2 (by simp [go_sem])
      have f0 : ∀ j, w2.frozen? ⟨w.heap.size, j, none⟩ = false := fun j => (hb2.frozen (p := ⟨w.heap.size, j, none⟩) (by simp)).trans (by simp [go_sem])
      have g0 := f0 0
      have g1 := f0 1
      have g2 := f0 2
      have g3 := f0 3
      have g4 := f0 4
      go_wp2
      refine bodyPost_ret (v := .agg #[.int .i64 3, .slice none 0 0, .int .i64 0, .int .i64 0, .slice none 0 0]) (by simp [results, Try.results32, go_sem, d0, d1, d2, d3, d4]) rfl ⟨_, _, rfl, RowI.nil _ _ _ _ _, RowB.nil _ _ _ _ _, ?_⟩
      have hb := below_slot hb2
      exact ((((hb.setCell (Nat.le_refl _) _).setCell (Nat.le_refl _) _).setCell (Nat.le_refl _) _).setCell (Nat.le_refl _) _).setCell (Nat.le_refl _) _
  · obtain ⟨e1, e2, e3⟩ := nc_good h
    rw [e1, e2, e3]
    go_enter Try.func32, Try.ntmps32
    go_wp2_with fail
    refine (l1In_is u 1 64 true _ (by simp; omega)).mono ?_
    rintro e w1 ⟨rfl, rfl⟩
    go_wp2_with fail
    refine (l1In_is z 1 6 true _ (by simp; omega)).mono ?_
    rintro e w1 ⟨rfl, rfl⟩
    go_wp2
    refine bodyPost_ret (v := .agg #[.int .i64 0, .slice none 0 0, .int .i64 u, .int .i64 z, .slice none 0 0]) (by simp [results, Try.results32, go_sem]) rfl ⟨_, _, rfl, RowI.nil _ _ _ _ _, RowB.nil _ _ _ _ _, ?_⟩
    exact (Below.refl _ _).alloc (Nat.le_refl _) _

set_option maxHeartbeats 400000 in
theorem implNewCache_any (u z : Int) (w : World) :
    Calls Try.prog 33 #[.int .i64 u, .int .i64 z] w fun e w' => ∃ vb va mid, e = .returned (.agg #[.int .i64 (ncCode u z), vb, .int .i64 (ncU u z), .int .i64 (ncZ u z), va]) ∧ w.heap.size ≤ mid ∧ mid ≤ w'.heap.size ∧
      RowI .u8 5 w' w.heap.size mid vb ncRs.length ncRs ∧ RowB 93 5 w' mid w'.heap.size va ncQs.length ncQs ∧ Below w.heap.size w w' := by
  have B2 : ∀ o1 o2, Below w.heap.size w ((w.alloc o1).alloc o2) := fun o1 o2 => ((Below.refl _ _).alloc (Nat.le_refl _) o1).alloc (by simp) o2
  have hf := nc_fault u z
  go_enter Try.func33, Try.ntmps33
  go_wp2_with fail
  refine (implCacheFault_any u z none 0 0 [] _ (RdB.nil _ _) (by simp [byB]) (Nat.le_refl _)).mono ?_
  rintro e w2 ⟨rfl, hb2⟩
  rw [hf]
  have hb := (B2 _ _).trans (hb2.mono (by simp; omega))
  have d0 : w2.cell? ⟨w.heap.size, 0, none⟩ = some (.int .i64 0) := cell_later hb2 (by simp [go_sem])
  have d1 : w2.cell? ⟨w.heap.size, 1, none⟩ = some (.slice none 0 0) := cell_later hb2 (by simp [go_sem])
  have d2 : w2.cell? ⟨w.heap.size, 2, none⟩ = some (.int .i64 0) := cell_later hb2 (by simp [go_sem])
  have d3 : w2.cell? ⟨w.heap.size, 3, none⟩ = some (.int .i64 0) := cell_later hb2 (by simp [go_sem])
  have d4 : w2.cell? ⟨w.heap.size, 4, none⟩ = some (.slice none 0 0) := cell_later hb2 (by simp [go_sem])
  have q0 : w2.cell? ⟨w.heap.size + 1, 0, none⟩ = some (.int .i64 u) := cell_later hb2 (by simp [go_sem])
  have q1 : w2.cell? ⟨w.heap.size + 1, 1, none⟩ = some (.int .i64 z) := cell_later hb2 (by simp [go_sem])
  have q2 : w2.cell? ⟨w.heap.size + 1, 2, none⟩ = some (.slice none 0 0) := cell_later hb2 (by simp [go_sem])
  have f0 : ∀ j, w2.frozen? ⟨w.heap.size, j, none⟩ = false := fun j => (hb2.frozen (p := ⟨w.heap.size, j, none⟩) (by simp; omega)).trans (by simp [go_sem])
  have g0 := f0 0
  have g1 := f0 1
  have g2 := f0 2
  have g3 := f0 3
  have g4 := f0 4
  by_cases h : u < 1 ∨ 64 < u ∨ z < 1 ∨ 6 < z
  · obtain ⟨e1, e2, e3⟩ := nc_bad h
    rw [e1]
    go_wp2
    refine bodyPost_ret (v := .agg #[.int .i64 3, .slice none 0 0, .int .i64 0, .int .i64 0, .slice none 0 0]) (by simp [results, Try.results33, go_sem, d0, d1, d2, d3, d4]) rfl ⟨_, _, w.heap.size, by rw [e1, e2, e3], Nat.le_refl _, ?_, RowI.nil _ _ _ _ _, RowB.nil _ _ _ _ _, ?_⟩
    · simpa using hb.size
    · exact ((((hb.setCell (Nat.le_refl _) _).setCell (Nat.le_refl _) _).setCell (Nat.le_refl _) _).setCell (Nat.le_refl _) _).setCell (Nat.le_refl _) _
  · obtain ⟨e1, e2, e3⟩ := nc_good h
    rw [e1]
    go_wp2
    refine bodyPost_ret (v := .agg #[.int .i64 0, .slice none 0 0, .int .i64 u, .int .i64 z, .slice none 0 0]) (by simp [results, Try.results33, go_sem, d0, d1, d2, d3, d4]) rfl ⟨_, _, w.heap.size, by rw [e1, e2, e3], Nat.le_refl _, ?_, RowI.nil _ _ _ _ _, RowB.nil _ _ _ _ _, ?_⟩
    · simpa using hb.size
    · exact ((((hb.setCell (Nat.le_refl _) _).setCell (Nat.le_refl _) _).setCell (Nat.le_refl _) _).setCell (Nat.le_refl _) _).setCell (Nat.le_refl _) _
end Go.Proofs.Ytckkkhabjfbngaa
