/-
  Chapter 11: NewState, both sides.
-/
import Derived.Test.YtjgmkcmlkffjlaaPag3
import Derived.Test.YtjgmkcmlkffjlaaMakeW
namespace Go.Proofs.Ytjgmkcmlkffjlaa
open Go.RowKit
set_option linter.unusedVariables false
set_option linter.unusedSimpArgs false

/-- may a screen be so high and so wide? -/
def nsOk (h d : Int) : Prop := 1 ≤ h ∧ h ≤ 12 ∧ 4 ≤ d ∧ d ≤ 40
instance (h d : Int) : Decidable (nsOk h d) := by unfold nsOk; infer_instance
def nsC (h d : Int) : Int := if nsOk h d then 0 else 3
def nsI (h d x : Int) : Int := if nsOk h d then x else 0
def nsR (h d : Int) : List L2 := if nsOk h d then [(0, 0), (0, 0), (0, 0), (0, 0)] else []

theorem infoSp : (Try.prog.info? 31).map (fun i => (i.zero, i.size, i.bytes)) = some (some (.agg #[.int .i64 0, .int .i64 0]), 2, 16) := by kernel_rfl

set_option maxRecDepth 20000 in
set_option maxHeartbeats 3200000 in
theorem specNewState_any (h d : Int) (w : World) :
    Calls Try.prog 28 #[.int .i64 h, .int .i64 d] w fun e w' => ∃ v, e = .returned (.agg #[.int .i64 (nsC h d), .int .i64 (nsI h d h), .int .i64 (nsI h d d), .bool false, .int .i64 0, .int .i64 0, .int .i64 0, .string ⟨#[]⟩, .string ⟨#[]⟩, v, .bool false]) ∧ RowP w' w.heap.size w'.heap.size v (nsR h d).length (nsR h d) ∧ Below w.heap.size w w' := by
  by_cases hk : nsOk h d
  · have e1 : nsC h d = 0 := if_pos hk
    have e2 : nsI h d h = h := if_pos hk
    have e3 : nsI h d d = d := if_pos hk
    have e4 : nsR h d = [(0, 0), (0, 0), (0, 0), (0, 0)] := if_pos hk
    rw [e1, e2, e3, e4]
    obtain ⟨h1, h2, h3, h4⟩ := hk
    clear e1 e2 e3 e4
    have I1 := fun w' => l1In_any h 1 12 w'
    have I2 := fun w' => l1In_any d 4 40 w'
    rw [decide_eq_true ⟨h1, h2⟩] at I1
    rw [decide_eq_true ⟨h3, h4⟩] at I2
    have HI1 : Hid _ := I1
    have HI2 : Hid _ := I2
    clear I1 I2
    obtain ⟨i0, hi, hz0, hz1, hz2⟩ := info_parts infoSp
    go_enter Try.func28, Try.ntmps28
    go_wp2_with fail
    refine (HI1.out _).mono ?_
    rintro e w1 ⟨rfl, rfl⟩
    go_wp2_with fail
    refine (HI2.out _).mono ?_
    rintro e w1 ⟨rfl, rfl⟩
    go_wp2_with (at_make; refine wpList_make_full _ rfl _ _ 56 rfl (w.heap.size + 1) 31 i0 (.agg #[.int .i64 0, .int .i64 0]) 2 Try.underlying56 hi hz0 hz1 _ _ _ _ 4 rfl rfl rfl rfl (by rw [hz2]; omega) (by unfold maxLen; omega) (by simp) ?_)
    intro w1 hown1 hgrow1
    have hb1 := (Below.refl (World.heap _).size _).grown hgrow1 (Nat.le_refl _) (by simp)
    have ho1 : OwnR lineE 2 31 w1 (w.heap.size + 1) (.slice (some ⟨w.heap.size + 1, 0, none⟩) 4 4) 4 [((0 : Int), (0 : Int)), (0, 0), (0, 0), (0, 0)] := by
      refine ⟨rfl, ?_⟩
      have e : (madeCells #[.int .i64 0, .int .i64 0] 8).toList = [((0 : Int), (0 : Int)), (0, 0), (0, 0), (0, 0)].flatMap lineE := by simp [madeCells, lineE, List.range, List.range.loop]
      rw [← e]
      exact hown1
    have hrow := RowP.of ho1
    have hz1' : w.heap.size + 1 < w1.heap.size := (ho1.lt (w.heap.size + 1) rfl).2
    have d0 : w1.cell? ⟨w.heap.size, 0, none⟩ = some (.int .i64 0) := cell_later hb1 (by simp [go_sem])
    have f0 : w1.frozen? ⟨w.heap.size, 0, none⟩ = false := (hb1.frozen (p := ⟨w.heap.size, 0, none⟩) (by simp)).trans (by simp [go_sem])
    have d1 : w1.cell? ⟨w.heap.size, 1, none⟩ = some (.int .i64 0) := cell_later hb1 (by simp [go_sem])
    have f1 : w1.frozen? ⟨w.heap.size, 1, none⟩ = false := (hb1.frozen (p := ⟨w.heap.size, 1, none⟩) (by simp)).trans (by simp [go_sem])
    have d2 : w1.cell? ⟨w.heap.size, 2, none⟩ = some (.int .i64 0) := cell_later hb1 (by simp [go_sem])
    have f2 : w1.frozen? ⟨w.heap.size, 2, none⟩ = false := (hb1.frozen (p := ⟨w.heap.size, 2, none⟩) (by simp)).trans (by simp [go_sem])
    have d3 : w1.cell? ⟨w.heap.size, 3, none⟩ = some (.bool false) := cell_later hb1 (by simp [go_sem])
    have f3 : w1.frozen? ⟨w.heap.size, 3, none⟩ = false := (hb1.frozen (p := ⟨w.heap.size, 3, none⟩) (by simp)).trans (by simp [go_sem])
    have d4 : w1.cell? ⟨w.heap.size, 4, none⟩ = some (.int .i64 0) := cell_later hb1 (by simp [go_sem])
    have f4 : w1.frozen? ⟨w.heap.size, 4, none⟩ = false := (hb1.frozen (p := ⟨w.heap.size, 4, none⟩) (by simp)).trans (by simp [go_sem])
    have d5 : w1.cell? ⟨w.heap.size, 5, none⟩ = some (.int .i64 0) := cell_later hb1 (by simp [go_sem])
    have f5 : w1.frozen? ⟨w.heap.size, 5, none⟩ = false := (hb1.frozen (p := ⟨w.heap.size, 5, none⟩) (by simp)).trans (by simp [go_sem])
    have d6 : w1.cell? ⟨w.heap.size, 6, none⟩ = some (.int .i64 0) := cell_later hb1 (by simp [go_sem])
    have f6 : w1.frozen? ⟨w.heap.size, 6, none⟩ = false := (hb1.frozen (p := ⟨w.heap.size, 6, none⟩) (by simp)).trans (by simp [go_sem])
    have d7 : w1.cell? ⟨w.heap.size, 7, none⟩ = some (.string ⟨#[]⟩) := cell_later hb1 (by simp [go_sem])
    have f7 : w1.frozen? ⟨w.heap.size, 7, none⟩ = false := (hb1.frozen (p := ⟨w.heap.size, 7, none⟩) (by simp)).trans (by simp [go_sem])
    have d8 : w1.cell? ⟨w.heap.size, 8, none⟩ = some (.string ⟨#[]⟩) := cell_later hb1 (by simp [go_sem])
    have f8 : w1.frozen? ⟨w.heap.size, 8, none⟩ = false := (hb1.frozen (p := ⟨w.heap.size, 8, none⟩) (by simp)).trans (by simp [go_sem])
    have d9 : w1.cell? ⟨w.heap.size, 9, none⟩ = some (.slice none 0 0) := cell_later hb1 (by simp [go_sem])
    have f9 : w1.frozen? ⟨w.heap.size, 9, none⟩ = false := (hb1.frozen (p := ⟨w.heap.size, 9, none⟩) (by simp)).trans (by simp [go_sem])
    have d10 : w1.cell? ⟨w.heap.size, 10, none⟩ = some (.bool false) := cell_later hb1 (by simp [go_sem])
    have f10 : w1.frozen? ⟨w.heap.size, 10, none⟩ = false := (hb1.frozen (p := ⟨w.heap.size, 10, none⟩) (by simp)).trans (by simp [go_sem])
    have hb0 : Below w.heap.size w w1 := ((Below.refl _ _).alloc (Nat.le_refl _) _).trans (hb1.mono (by simp))
    clear hb1 hgrow1 hown1 ho1 hi hz0 hz1 hz2
    go_wp2
    exact bodyPost_ret (v := .agg #[.int .i64 0, .int .i64 h, .int .i64 d, .bool false, .int .i64 0, .int .i64 0, .int .i64 0, .string ⟨#[]⟩, .string ⟨#[]⟩, .slice (some ⟨w.heap.size + 1, 0, none⟩) 4 4, .bool false]) (by simp [results, Try.results28, go_sem, d0, d1, d2, d3, d4, d5, d6, d7, d8, d9, d10]) rfl ⟨_, rfl, RowP.mono ((((((((((((hrow.setB (B := w.heap.size) (by omega) 0 (.int .i64 0)).setB (B := w.heap.size) (by omega) 1 (.int .i64 h)).setB (B := w.heap.size) (by omega) 2 (.int .i64 d)).setB (B := w.heap.size) (by omega) 3 (.bool false)).setB (B := w.heap.size) (by omega) 4 (.int .i64 0)).setB (B := w.heap.size) (by omega) 5 (.int .i64 0)).setB (B := w.heap.size) (by omega) 6 (.int .i64 0)).setB (B := w.heap.size) (by omega) 7 (.string ⟨#[]⟩)).setB (B := w.heap.size) (by omega) 8 (.string ⟨#[]⟩)).setB (B := w.heap.size) (by omega) 9 (.slice (some ⟨w.heap.size + 1, 0, none⟩) 4 4)).setB (B := w.heap.size) (by omega) 10 (.bool false))) (by omega) (by simp), (((((((((((hb0.setCell (by simp) _).setCell (by simp) _).setCell (by simp) _).setCell (by simp) _).setCell (by simp) _).setCell (by simp) _).setCell (by simp) _).setCell (by simp) _).setCell (by simp) _).setCell (by simp) _).setCell (by simp) _)⟩
  · have e1 : nsC h d = 3 := if_neg hk
    have e2 : nsI h d h = 0 := if_neg hk
    have e3 : nsI h d d = 0 := if_neg hk
    have e4 : nsR h d = [] := if_neg hk
    rw [e1, e2, e3, e4]
    clear e1 e2 e3 e4
    have I1 := fun w' => l1In_any h 1 12 w'
    have I2 := fun w' => l1In_any d 4 40 w'
    by_cases hh : 1 ≤ h ∧ h ≤ 12
    · have hd : ¬ (4 ≤ d ∧ d ≤ 40) := fun hd => hk ⟨hh.1, hh.2, hd.1, hd.2⟩
      rw [decide_eq_true hh] at I1
      rw [decide_eq_false hd] at I2
      have HI1 : Hid _ := I1
      have HI2 : Hid _ := I2
      clear I1 I2 hd hk hh
      go_enter Try.func28, Try.ntmps28
      go_wp2_with fail
      refine (HI1.out _).mono ?_
      rintro e w1 ⟨rfl, rfl⟩
      go_wp2_with fail
      refine (HI2.out _).mono ?_
      rintro e w1 ⟨rfl, rfl⟩
      go_wp2
      exact bodyPost_ret (v := .agg #[.int .i64 3, .int .i64 0, .int .i64 0, .bool false, .int .i64 0, .int .i64 0, .int .i64 0, .string ⟨#[]⟩, .string ⟨#[]⟩, .slice none 0 0, .bool false]) (by simp [results, Try.results28, go_sem]) rfl ⟨_, rfl, RowP.none _ _ _, (Below.refl _ _).alloc (Nat.le_refl _) _⟩
    · rw [decide_eq_false hh] at I1
      have HI1 : Hid _ := I1
      clear I1 I2 hk hh
      go_enter Try.func28, Try.ntmps28
      go_wp2_with fail
      refine (HI1.out _).mono ?_
      rintro e w1 ⟨rfl, rfl⟩
      go_wp2
      exact bodyPost_ret (v := .agg #[.int .i64 3, .int .i64 0, .int .i64 0, .bool false, .int .i64 0, .int .i64 0, .int .i64 0, .string ⟨#[]⟩, .string ⟨#[]⟩, .slice none 0 0, .bool false]) (by simp [results, Try.results28, go_sem]) rfl ⟨_, rfl, RowP.none _ _ _, (Below.refl _ _).alloc (Nat.le_refl _) _⟩

set_option maxRecDepth 20000 in
set_option maxHeartbeats 3200000 in
theorem implNewState_any (h d : Int) (w : World) :
    Calls Try.prog 29 #[.int .i64 h, .int .i64 d] w fun e w' => ∃ v, e = .returned (.agg #[.int .i64 (nsC h d), .int .i64 (nsI h d h), .int .i64 (nsI h d d), .bool false, .int .i64 0, .int .i64 0, .int .i64 0, .string ⟨#[]⟩, .string ⟨#[]⟩, v, .bool false]) ∧ RowP w' w.heap.size w'.heap.size v (nsR h d).length (nsR h d) ∧ Below w.heap.size w w' := by
  by_cases hk : nsOk h d
  · have e1 : nsC h d = 0 := if_pos hk
    have e2 : nsI h d h = h := if_pos hk
    have e3 : nsI h d d = d := if_pos hk
    have e4 : nsR h d = [(0, 0), (0, 0), (0, 0), (0, 0)] := if_pos hk
    rw [e1, e2, e3, e4]
    obtain ⟨h1, h2, h3, h4⟩ := hk
    clear e1 e2 e3 e4
    have I2 := fun w' => isWidth_any d w'
    rw [decide_eq_true ⟨h3, h4⟩] at I2
    have HI2 : Hid _ := I2
    clear I2
    go_enter Try.func29, Try.ntmps29
    go_wp2_with fail
    refine (HI2.out _).mono ?_
    rintro e w1 ⟨rfl, rfl⟩
    go_wp2_with fail
    refine (state_any h d 0 0 0 0 0 0 0 0 0 0 0 false false ⟨#[]⟩ ⟨#[]⟩ none 0 0 _).mono ?_
    rintro e w2 ⟨v, rfl, hr, hb1⟩
    obtain ⟨va, vc, rfl⟩ := hr.shape
    have hrow : RowP w2 (w.heap.size + 1) w2.heap.size (.slice va 4 vc) 4 [((0 : Int), (0 : Int)), (0, 0), (0, 0), (0, 0)] := hr.mono (by simp) (Nat.le_refl _)
    have hz1' : w.heap.size < w2.heap.size := by have := hb1.size; simp at this; omega
    have d0 : w2.cell? ⟨w.heap.size, 0, none⟩ = some (.int .i64 0) := cell_later hb1 (by simp [go_sem])
    have f0 : w2.frozen? ⟨w.heap.size, 0, none⟩ = false := (hb1.frozen (p := ⟨w.heap.size, 0, none⟩) (by simp)).trans (by simp [go_sem])
    have d1 : w2.cell? ⟨w.heap.size, 1, none⟩ = some (.int .i64 0) := cell_later hb1 (by simp [go_sem])
    have f1 : w2.frozen? ⟨w.heap.size, 1, none⟩ = false := (hb1.frozen (p := ⟨w.heap.size, 1, none⟩) (by simp)).trans (by simp [go_sem])
    have d2 : w2.cell? ⟨w.heap.size, 2, none⟩ = some (.int .i64 0) := cell_later hb1 (by simp [go_sem])
    have f2 : w2.frozen? ⟨w.heap.size, 2, none⟩ = false := (hb1.frozen (p := ⟨w.heap.size, 2, none⟩) (by simp)).trans (by simp [go_sem])
    have d3 : w2.cell? ⟨w.heap.size, 3, none⟩ = some (.bool false) := cell_later hb1 (by simp [go_sem])
    have f3 : w2.frozen? ⟨w.heap.size, 3, none⟩ = false := (hb1.frozen (p := ⟨w.heap.size, 3, none⟩) (by simp)).trans (by simp [go_sem])
    have d4 : w2.cell? ⟨w.heap.size, 4, none⟩ = some (.int .i64 0) := cell_later hb1 (by simp [go_sem])
    have f4 : w2.frozen? ⟨w.heap.size, 4, none⟩ = false := (hb1.frozen (p := ⟨w.heap.size, 4, none⟩) (by simp)).trans (by simp [go_sem])
    have d5 : w2.cell? ⟨w.heap.size, 5, none⟩ = some (.int .i64 0) := cell_later hb1 (by simp [go_sem])
    have f5 : w2.frozen? ⟨w.heap.size, 5, none⟩ = false := (hb1.frozen (p := ⟨w.heap.size, 5, none⟩) (by simp)).trans (by simp [go_sem])
    have d6 : w2.cell? ⟨w.heap.size, 6, none⟩ = some (.int .i64 0) := cell_later hb1 (by simp [go_sem])
    have f6 : w2.frozen? ⟨w.heap.size, 6, none⟩ = false := (hb1.frozen (p := ⟨w.heap.size, 6, none⟩) (by simp)).trans (by simp [go_sem])
    have d7 : w2.cell? ⟨w.heap.size, 7, none⟩ = some (.string ⟨#[]⟩) := cell_later hb1 (by simp [go_sem])
    have f7 : w2.frozen? ⟨w.heap.size, 7, none⟩ = false := (hb1.frozen (p := ⟨w.heap.size, 7, none⟩) (by simp)).trans (by simp [go_sem])
    have d8 : w2.cell? ⟨w.heap.size, 8, none⟩ = some (.string ⟨#[]⟩) := cell_later hb1 (by simp [go_sem])
    have f8 : w2.frozen? ⟨w.heap.size, 8, none⟩ = false := (hb1.frozen (p := ⟨w.heap.size, 8, none⟩) (by simp)).trans (by simp [go_sem])
    have d9 : w2.cell? ⟨w.heap.size, 9, none⟩ = some (.slice none 0 0) := cell_later hb1 (by simp [go_sem])
    have f9 : w2.frozen? ⟨w.heap.size, 9, none⟩ = false := (hb1.frozen (p := ⟨w.heap.size, 9, none⟩) (by simp)).trans (by simp [go_sem])
    have d10 : w2.cell? ⟨w.heap.size, 10, none⟩ = some (.bool false) := cell_later hb1 (by simp [go_sem])
    have f10 : w2.frozen? ⟨w.heap.size, 10, none⟩ = false := (hb1.frozen (p := ⟨w.heap.size, 10, none⟩) (by simp)).trans (by simp [go_sem])
    have hb0 := ((Below.refl w.heap.size w).alloc (Nat.le_refl _) _).trans (hb1.mono (by simp))
    clear hb1 hr
    go_wp2
    exact bodyPost_ret (v := .agg #[.int .i64 0, .int .i64 h, .int .i64 d, .bool false, .int .i64 0, .int .i64 0, .int .i64 0, .string ⟨#[]⟩, .string ⟨#[]⟩, .slice va 4 vc, .bool false]) (by simp [results, Try.results29, go_sem, d0, d1, d2, d3, d4, d5, d6, d7, d8, d9, d10]) rfl ⟨_, rfl, RowP.mono ((((((((((((hrow.setB (B := w.heap.size) (by omega) 0 (.int .i64 0)).setB (B := w.heap.size) (by omega) 1 (.int .i64 h)).setB (B := w.heap.size) (by omega) 2 (.int .i64 d)).setB (B := w.heap.size) (by omega) 3 (.bool false)).setB (B := w.heap.size) (by omega) 4 (.int .i64 0)).setB (B := w.heap.size) (by omega) 5 (.int .i64 0)).setB (B := w.heap.size) (by omega) 6 (.int .i64 0)).setB (B := w.heap.size) (by omega) 7 (.string ⟨#[]⟩)).setB (B := w.heap.size) (by omega) 8 (.string ⟨#[]⟩)).setB (B := w.heap.size) (by omega) 9 (.slice va 4 vc)).setB (B := w.heap.size) (by omega) 10 (.bool false))) (by omega) (by simp), (((((((((((hb0.setCell (by simp) _).setCell (by simp) _).setCell (by simp) _).setCell (by simp) _).setCell (by simp) _).setCell (by simp) _).setCell (by simp) _).setCell (by simp) _).setCell (by simp) _).setCell (by simp) _).setCell (by simp) _)⟩
  · have e1 : nsC h d = 3 := if_neg hk
    have e2 : nsI h d h = 0 := if_neg hk
    have e3 : nsI h d d = 0 := if_neg hk
    have e4 : nsR h d = [] := if_neg hk
    rw [e1, e2, e3, e4]
    clear e1 e2 e3 e4
    have I2 := fun w' => isWidth_any d w'
    by_cases h1 : h < 1
    · clear I2 hk
      go_enter Try.func29, Try.ntmps29
      go_wp2
      exact bodyPost_ret (v := .agg #[.int .i64 3, .int .i64 0, .int .i64 0, .bool false, .int .i64 0, .int .i64 0, .int .i64 0, .string ⟨#[]⟩, .string ⟨#[]⟩, .slice none 0 0, .bool false]) (by simp [results, Try.results29, go_sem]) rfl ⟨_, rfl, RowP.none _ _ _, (Below.refl _ _).alloc (Nat.le_refl _) _⟩
    · by_cases h2 : 12 < h
      · clear I2 hk
        go_enter Try.func29, Try.ntmps29
        go_wp2
        exact bodyPost_ret (v := .agg #[.int .i64 3, .int .i64 0, .int .i64 0, .bool false, .int .i64 0, .int .i64 0, .int .i64 0, .string ⟨#[]⟩, .string ⟨#[]⟩, .slice none 0 0, .bool false]) (by simp [results, Try.results29, go_sem]) rfl ⟨_, rfl, RowP.none _ _ _, (Below.refl _ _).alloc (Nat.le_refl _) _⟩
      · have hd : ¬ (4 ≤ d ∧ d ≤ 40) := fun hd => hk ⟨by omega, by omega, hd.1, hd.2⟩
        rw [decide_eq_false hd] at I2
        have HI2 : Hid _ := I2
        clear I2 hk hd
        go_enter Try.func29, Try.ntmps29
        go_wp2_with fail
        refine (HI2.out _).mono ?_
        rintro e w1 ⟨rfl, rfl⟩
        go_wp2
        exact bodyPost_ret (v := .agg #[.int .i64 3, .int .i64 0, .int .i64 0, .bool false, .int .i64 0, .int .i64 0, .int .i64 0, .string ⟨#[]⟩, .string ⟨#[]⟩, .slice none 0 0, .bool false]) (by simp [results, Try.results29, go_sem]) rfl ⟨_, rfl, RowP.none _ _ _, (Below.refl _ _).alloc (Nat.le_refl _) _⟩
end Go.Proofs.Ytjgmkcmlkffjlaa
