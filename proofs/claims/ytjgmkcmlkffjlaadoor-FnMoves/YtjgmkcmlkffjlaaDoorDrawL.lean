/-
  Draws of layouts: contracts.
-/
import Derived.Test.YtjgmkcmlkffjlaaDoorDraw6
import Derived.Test.YtjgmkcmlkffjlaaDoorChg
import Derived.Test.YtjgmkcmlkffjlaaDoorBox
namespace Go.Proofs.YtjgmkcmlkffjlaaDoor
open Go.RowKit
set_option linter.unusedVariables false
set_option linter.unusedSimpArgs false

theorem lit_at (W : World) (n : Nat) (zs : List Int) (m : Nat) (h : zs.length = m) (e : TypeId) (hn : W.heap.size = n) (hm : m ≤ maxLen) : Rd .i64 (W.alloc (.cells (zs.map (Value.int .i64)).toArray e)) (some ⟨n, 0, none⟩) m zs := by
  subst hn; exact lit_rd W zs m h hm

set_option maxRecDepth 4000 in
set_option maxHeartbeats 1600000 in
theorem l10Draw_any (B b T : Nat) (w : World) (hs : Src w B b T) (hT : T ≤ 100000) (hBw : B ≤ w.heap.size) :
    Calls Tryd.prog 48 #[.pointer (some ⟨b, 0, none⟩)] w fun e w' => ∃ (W : Int) (C : Bool) (S : Int), e = .returned (.agg #[.int .i64 W, .bool C, .int .i64 S]) ∧ Src w' B b (T + 3) ∧ w.grownBy w' (some b) := by
  have hbw := hs.lt
  have hBb := hs.1
  go_enter Tryd.func48, Tryd.ntmps48
  have hg : w.grownBy w (some b) := World.grownBy.refl _ _
  go_wp2_with fail
  refine Calls.mono (l1Pick_any B b _ _ 5 [4, 3, 6, 1, 40] _ ((hs.alloc _).alloc _) (by omega) rfl (by omega) (by omega) (by first | omega | (simp; omega)) (lit_at _ _ [4, 3, 6, 1, 40] 5 rfl 2 (by simp) (by simp [maxLen]))) ?_
  clear hs
  rintro e w1 ⟨W, rfl, hW, hs, hc⟩
  have s1 : w.heap.size + 2 ≤ w1.heap.size := by have := hc.size; simp at this; omega
  have gq : w.grownBy w1 (some b) := (grownBy_alloc_trans (grownBy_alloc_trans hc))
  have cR0 : w1.cell? ⟨w.heap.size, 0, none⟩ = some (.int .i64 0) := (Chg.one hc).at (by simp [go_sem]) (by first | (simp; done) | (simp; omega)) (by omega)
  have fR0 : w1.frozen? ⟨w.heap.size, 0, none⟩ = false := (Chg.one hc).fr (by simp [go_sem]) (by first | (simp; done) | (simp; omega)) (by omega)
  have cR1 : w1.cell? ⟨w.heap.size, 1, none⟩ = some (.bool false) := (Chg.one hc).at (by simp [go_sem]) (by first | (simp; done) | (simp; omega)) (by omega)
  have fR1 : w1.frozen? ⟨w.heap.size, 1, none⟩ = false := (Chg.one hc).fr (by simp [go_sem]) (by first | (simp; done) | (simp; omega)) (by omega)
  have cR2 : w1.cell? ⟨w.heap.size, 2, none⟩ = some (.int .i64 0) := (Chg.one hc).at (by simp [go_sem]) (by first | (simp; done) | (simp; omega)) (by omega)
  have fR2 : w1.frozen? ⟨w.heap.size, 2, none⟩ = false := (Chg.one hc).fr (by simp [go_sem]) (by first | (simp; done) | (simp; omega)) (by omega)
  have zR : w.heap.size < w1.heap.size := by omega
  have cP00 : w1.cell? ⟨w.heap.size + 1, 0, none⟩ = some (.int .i64 4) := (Chg.one hc).at (by simp [go_sem]) (by first | (simp; done) | (simp; omega)) (by omega)
  have cP01 : w1.cell? ⟨w.heap.size + 1, 1, none⟩ = some (.int .i64 3) := (Chg.one hc).at (by simp [go_sem]) (by first | (simp; done) | (simp; omega)) (by omega)
  have cP02 : w1.cell? ⟨w.heap.size + 1, 2, none⟩ = some (.int .i64 6) := (Chg.one hc).at (by simp [go_sem]) (by first | (simp; done) | (simp; omega)) (by omega)
  have cP03 : w1.cell? ⟨w.heap.size + 1, 3, none⟩ = some (.int .i64 1) := (Chg.one hc).at (by simp [go_sem]) (by first | (simp; done) | (simp; omega)) (by omega)
  have cP04 : w1.cell? ⟨w.heap.size + 1, 4, none⟩ = some (.int .i64 40) := (Chg.one hc).at (by simp [go_sem]) (by first | (simp; done) | (simp; omega)) (by omega)
  have zP0 : w.heap.size + 1 < w1.heap.size := by omega
  replace hg := grown_trans hg gq
  clear hc gq
  go_wp2_with fail
  refine Calls.mono (l1Chance_any B b _ 3 _ hs (by omega) (by omega)) ?_
  clear hs
  rintro e w2 ⟨C, rfl, hs, hc⟩
  have s2 : w1.heap.size ≤ w2.heap.size := hc.size
  have gq : w1.grownBy w2 (some b) := hc
  replace cR0 := (Chg.one gq).at cR0 zR (by omega)
  replace fR0 := (Chg.one gq).fr fR0 zR (by omega)
  replace cR1 := (Chg.one gq).at cR1 zR (by omega)
  replace fR1 := (Chg.one gq).fr fR1 zR (by omega)
  replace cR2 := (Chg.one gq).at cR2 zR (by omega)
  replace fR2 := (Chg.one gq).fr fR2 zR (by omega)
  replace zR := Nat.lt_of_lt_of_le zR gq.size
  replace cP00 := (Chg.one gq).at cP00 zP0 (by omega)
  replace cP01 := (Chg.one gq).at cP01 zP0 (by omega)
  replace cP02 := (Chg.one gq).at cP02 zP0 (by omega)
  replace cP03 := (Chg.one gq).at cP03 zP0 (by omega)
  replace cP04 := (Chg.one gq).at cP04 zP0 (by omega)
  replace zP0 := Nat.lt_of_lt_of_le zP0 gq.size
  replace hg := grown_trans hg gq
  clear hc gq
  cases C
  · skip
    go_wp2
    exact bodyPost_ret (v := .agg #[.int .i64 W, .bool false, .int .i64 0]) (by simp [results, Tryd.results48, go_sem, cR0, cR1, cR2, zR]) rfl ⟨W, false, 0, rfl, (((((hs.kept (setCell_grown _ _ _ _) (fun j hj => by cases hj; exact ⟨by omega, by omega⟩)).kept (setCell_grown _ _ _ _) (fun j hj => by cases hj; exact ⟨by omega, by omega⟩)).kept (setCell_grown _ _ _ _) (fun j hj => by cases hj; exact ⟨by omega, by omega⟩)).alloc _).more (by omega)), (grown_trans (grown_mix (grown_mix (grown_mix hg (setCell_grown _ _ _ _) (fun j hj => by cases hj; omega)) (setCell_grown _ _ _ _) (fun j hj => by cases hj; omega)) (setCell_grown _ _ _ _) (fun j hj => by cases hj; omega)) (grown_none (World.grownBy_alloc _ _ none)))⟩
  · skip
    go_wp2_with fail
    refine Calls.mono (l1Pick_any B b _ _ 3 [0, 2, 5] _ ((hs.alloc _).alloc _) (by omega) rfl (by omega) (by omega) (by first | omega | (simp; omega)) (lit_at _ _ [0, 2, 5] 3 rfl 2 (by simp) (by simp [maxLen]))) ?_
    clear hs
    rintro e w3 ⟨S, rfl, hS, hs, hc⟩
    have s3 : w2.heap.size + 2 ≤ w3.heap.size := by have := hc.size; simp at this; omega
    have gq : w2.grownBy w3 (some b) := (grownBy_alloc_trans (grownBy_alloc_trans hc))
    replace cR0 := (Chg.one gq).at cR0 zR (by omega)
    replace fR0 := (Chg.one gq).fr fR0 zR (by omega)
    replace cR1 := (Chg.one gq).at cR1 zR (by omega)
    replace fR1 := (Chg.one gq).fr fR1 zR (by omega)
    replace cR2 := (Chg.one gq).at cR2 zR (by omega)
    replace fR2 := (Chg.one gq).fr fR2 zR (by omega)
    replace zR := Nat.lt_of_lt_of_le zR gq.size
    replace cP00 := (Chg.one gq).at cP00 zP0 (by omega)
    replace cP01 := (Chg.one gq).at cP01 zP0 (by omega)
    replace cP02 := (Chg.one gq).at cP02 zP0 (by omega)
    replace cP03 := (Chg.one gq).at cP03 zP0 (by omega)
    replace cP04 := (Chg.one gq).at cP04 zP0 (by omega)
    replace zP0 := Nat.lt_of_lt_of_le zP0 gq.size
    have cL0 : w3.cell? ⟨w2.heap.size, 0, none⟩ = some (.int .i64 W) := (Chg.one hc).at (by simp [go_sem]) (by first | (simp; done) | (simp; omega)) (by omega)
    have fL0 : w3.frozen? ⟨w2.heap.size, 0, none⟩ = false := (Chg.one hc).fr (by simp [go_sem]) (by first | (simp; done) | (simp; omega)) (by omega)
    have cL1 : w3.cell? ⟨w2.heap.size, 1, none⟩ = some (.bool true) := (Chg.one hc).at (by simp [go_sem]) (by first | (simp; done) | (simp; omega)) (by omega)
    have fL1 : w3.frozen? ⟨w2.heap.size, 1, none⟩ = false := (Chg.one hc).fr (by simp [go_sem]) (by first | (simp; done) | (simp; omega)) (by omega)
    have cL2 : w3.cell? ⟨w2.heap.size, 2, none⟩ = some (.int .i64 0) := (Chg.one hc).at (by simp [go_sem]) (by first | (simp; done) | (simp; omega)) (by omega)
    have fL2 : w3.frozen? ⟨w2.heap.size, 2, none⟩ = false := (Chg.one hc).fr (by simp [go_sem]) (by first | (simp; done) | (simp; omega)) (by omega)
    have zL : w2.heap.size < w3.heap.size := by omega
    have cP20 : w3.cell? ⟨w2.heap.size + 1, 0, none⟩ = some (.int .i64 0) := (Chg.one hc).at (by simp [go_sem]) (by first | (simp; done) | (simp; omega)) (by omega)
    have cP21 : w3.cell? ⟨w2.heap.size + 1, 1, none⟩ = some (.int .i64 2) := (Chg.one hc).at (by simp [go_sem]) (by first | (simp; done) | (simp; omega)) (by omega)
    have cP22 : w3.cell? ⟨w2.heap.size + 1, 2, none⟩ = some (.int .i64 5) := (Chg.one hc).at (by simp [go_sem]) (by first | (simp; done) | (simp; omega)) (by omega)
    have zP2 : w2.heap.size + 1 < w3.heap.size := by omega
    replace hg := grown_trans hg gq
    clear hc gq
    go_wp2
    exact bodyPost_ret (v := .agg #[.int .i64 W, .bool true, .int .i64 S]) (by simp [results, Tryd.results48, go_sem, cL0, cL1, cL2, cR0, cR1, cR2, cL0, cL1, cL2]) rfl ⟨W, true, S, rfl, (((((hs.kept (setCell_grown _ _ _ _) (fun j hj => by cases hj; exact ⟨by omega, by omega⟩)).kept (setCell_grown _ _ _ _) (fun j hj => by cases hj; exact ⟨by omega, by omega⟩)).kept (setCell_grown _ _ _ _) (fun j hj => by cases hj; exact ⟨by omega, by omega⟩)).kept (setCell_grown _ _ _ _) (fun j hj => by cases hj; exact ⟨by omega, by omega⟩)).more (by omega)), (grown_mix (grown_mix (grown_mix (grown_mix hg (setCell_grown _ _ _ _) (fun j hj => by cases hj; omega)) (setCell_grown _ _ _ _) (fun j hj => by cases hj; omega)) (setCell_grown _ _ _ _) (fun j hj => by cases hj; omega)) (setCell_grown _ _ _ _) (fun j hj => by cases hj; omega))⟩

set_option maxRecDepth 4000 in
set_option maxHeartbeats 1600000 in
theorem l10Bent_any (B b T : Nat) (w : World) (hs : Src w B b T) (hT : T ≤ 10000) (hBw : B ≤ w.heap.size) :
    Calls Tryd.prog 31 #[.pointer (some ⟨b, 0, none⟩)] w fun e w' => ∃ (W : Int) (C : Bool) (S : Int), e = .returned (.agg #[.int .i64 W, .bool C, .int .i64 S]) ∧ Src w' B b (T + 5) ∧ w.grownBy w' (some b) := by
  have hbw := hs.lt
  have hBb := hs.1
  go_enter Tryd.func31, Tryd.ntmps31
  have hg : w.grownBy w (some b) := World.grownBy.refl _ _
  go_wp2_with fail
  refine Calls.mono (l10Draw_any B b _ _ (hs.alloc _) (by omega) (by simp; omega)) ?_
  clear hs
  rintro e w1 ⟨W, C, S, rfl, hs, hc⟩
  have s1 : w.heap.size + 1 ≤ w1.heap.size := by have := hc.size; simp at this; omega
  have gq : w.grownBy w1 (some b) := (grownBy_alloc_trans hc)
  have cR0 : w1.cell? ⟨w.heap.size, 0, none⟩ = some (.int .i64 0) := (Chg.one hc).at (by simp [go_sem]) (by first | (simp; done) | (simp; omega)) (by omega)
  have fR0 : w1.frozen? ⟨w.heap.size, 0, none⟩ = false := (Chg.one hc).fr (by simp [go_sem]) (by first | (simp; done) | (simp; omega)) (by omega)
  have cR1 : w1.cell? ⟨w.heap.size, 1, none⟩ = some (.bool false) := (Chg.one hc).at (by simp [go_sem]) (by first | (simp; done) | (simp; omega)) (by omega)
  have fR1 : w1.frozen? ⟨w.heap.size, 1, none⟩ = false := (Chg.one hc).fr (by simp [go_sem]) (by first | (simp; done) | (simp; omega)) (by omega)
  have cR2 : w1.cell? ⟨w.heap.size, 2, none⟩ = some (.int .i64 0) := (Chg.one hc).at (by simp [go_sem]) (by first | (simp; done) | (simp; omega)) (by omega)
  have fR2 : w1.frozen? ⟨w.heap.size, 2, none⟩ = false := (Chg.one hc).fr (by simp [go_sem]) (by first | (simp; done) | (simp; omega)) (by omega)
  have zR : w.heap.size < w1.heap.size := by omega
  replace hg := grown_trans hg gq
  clear hc gq
  go_wp2_with fail
  refine Calls.mono (l1Next_any B b _ 12 _ (hs.alloc _) (by omega) (by omega)) ?_
  clear hs
  rintro e w2 ⟨r, rfl, hr, hs, hc⟩
  have s2 : w1.heap.size + 1 ≤ w2.heap.size := by have := hc.size; simp at this; omega
  have gq : w1.grownBy w2 (some b) := (grownBy_alloc_trans hc)
  replace cR0 := (Chg.one gq).at cR0 zR (by omega)
  replace fR0 := (Chg.one gq).fr fR0 zR (by omega)
  replace cR1 := (Chg.one gq).at cR1 zR (by omega)
  replace fR1 := (Chg.one gq).fr fR1 zR (by omega)
  replace cR2 := (Chg.one gq).at cR2 zR (by omega)
  replace fR2 := (Chg.one gq).fr fR2 zR (by omega)
  replace zR := Nat.lt_of_lt_of_le zR gq.size
  have cL0 : w2.cell? ⟨w1.heap.size, 0, none⟩ = some (.int .i64 W) := (Chg.one hc).at (by simp [go_sem]) (by first | (simp; done) | (simp; omega)) (by omega)
  have fL0 : w2.frozen? ⟨w1.heap.size, 0, none⟩ = false := (Chg.one hc).fr (by simp [go_sem]) (by first | (simp; done) | (simp; omega)) (by omega)
  have cL1 : w2.cell? ⟨w1.heap.size, 1, none⟩ = some (.bool C) := (Chg.one hc).at (by simp [go_sem]) (by first | (simp; done) | (simp; omega)) (by omega)
  have fL1 : w2.frozen? ⟨w1.heap.size, 1, none⟩ = false := (Chg.one hc).fr (by simp [go_sem]) (by first | (simp; done) | (simp; omega)) (by omega)
  have cL2 : w2.cell? ⟨w1.heap.size, 2, none⟩ = some (.int .i64 S) := (Chg.one hc).at (by simp [go_sem]) (by first | (simp; done) | (simp; omega)) (by omega)
  have fL2 : w2.frozen? ⟨w1.heap.size, 2, none⟩ = false := (Chg.one hc).fr (by simp [go_sem]) (by first | (simp; done) | (simp; omega)) (by omega)
  have zL : w1.heap.size < w2.heap.size := by omega
  replace hg := grown_trans hg gq
  clear hc gq
  by_cases hr0 : r = 0
  · subst hr0
    clear hr
    go_wp2_with fail
    refine Calls.mono (l1Pick_any B b _ _ 2 [0, 41] _ (hs.alloc _) (by omega) rfl (by omega) (by omega) (by first | omega | (simp; omega)) (lit_at _ _ [0, 41] 2 rfl 2 (by simp) (by simp [maxLen]))) ?_
    clear hs
    rintro e w3 ⟨W2, rfl, hW2, hs, hc⟩
    have hWb : 0 ≤ W2 ∧ W2 ≤ 41 := by simp at hW2; omega
    have s3 : w2.heap.size + 1 ≤ w3.heap.size := by have := hc.size; simp at this; omega
    have gq : w2.grownBy w3 (some b) := (grownBy_alloc_trans hc)
    replace cR0 := (Chg.one gq).at cR0 zR (by omega)
    replace fR0 := (Chg.one gq).fr fR0 zR (by omega)
    replace cR1 := (Chg.one gq).at cR1 zR (by omega)
    replace fR1 := (Chg.one gq).fr fR1 zR (by omega)
    replace cR2 := (Chg.one gq).at cR2 zR (by omega)
    replace fR2 := (Chg.one gq).fr fR2 zR (by omega)
    replace zR := Nat.lt_of_lt_of_le zR gq.size
    replace cL0 := (Chg.one gq).at cL0 zL (by omega)
    replace fL0 := (Chg.one gq).fr fL0 zL (by omega)
    replace cL1 := (Chg.one gq).at cL1 zL (by omega)
    replace fL1 := (Chg.one gq).fr fL1 zL (by omega)
    replace cL2 := (Chg.one gq).at cL2 zL (by omega)
    replace fL2 := (Chg.one gq).fr fL2 zL (by omega)
    replace zL := Nat.lt_of_lt_of_le zL gq.size
    have cP20 : w3.cell? ⟨w2.heap.size, 0, none⟩ = some (.int .i64 0) := (Chg.one hc).at (by simp [go_sem]) (by first | (simp; done) | (simp; omega)) (by omega)
    have cP21 : w3.cell? ⟨w2.heap.size, 1, none⟩ = some (.int .i64 41) := (Chg.one hc).at (by simp [go_sem]) (by first | (simp; done) | (simp; omega)) (by omega)
    have zP2 : w2.heap.size < w3.heap.size := by omega
    replace hg := grown_trans hg gq
    clear hc gq
    go_wp2
    exact bodyPost_ret (v := .agg #[.int .i64 W2, .bool C, .int .i64 S]) (by simp [results, Tryd.results31, go_sem, cL0, cL1, cL2, cR0, cR1, cR2, cL0, cL1, cL2]) rfl ⟨W2, C, S, rfl, (((((hs.kept (setCell_grown _ _ _ _) (fun j hj => by cases hj; exact ⟨by omega, by omega⟩)).kept (setCell_grown _ _ _ _) (fun j hj => by cases hj; exact ⟨by omega, by omega⟩)).kept (setCell_grown _ _ _ _) (fun j hj => by cases hj; exact ⟨by omega, by omega⟩)).kept (setCell_grown _ _ _ _) (fun j hj => by cases hj; exact ⟨by omega, by omega⟩)).more (by omega)), (grown_mix (grown_mix (grown_mix (grown_mix hg (setCell_grown _ _ _ _) (fun j hj => by cases hj; omega)) (setCell_grown _ _ _ _) (fun j hj => by cases hj; omega)) (setCell_grown _ _ _ _) (fun j hj => by cases hj; omega)) (setCell_grown _ _ _ _) (fun j hj => by cases hj; omega))⟩
  · by_cases hr1 : r = 1
    · subst hr1
      clear hr hr0
      go_wp2_with fail
      refine Calls.mono (l1Pick_any B b _ _ 4 [-1, 400, 401, 3] _ (hs.alloc _) (by omega) rfl (by omega) (by omega) (by first | omega | (simp; omega)) (lit_at _ _ [-1, 400, 401, 3] 4 rfl 2 (by simp) (by simp [maxLen]))) ?_
      clear hs
      rintro e w3 ⟨S2, rfl, hS2, hs, hc⟩
      have hSb : -1 ≤ S2 ∧ S2 ≤ 401 := by simp at hS2; omega
      have s3 : w2.heap.size + 1 ≤ w3.heap.size := by have := hc.size; simp at this; omega
      have gq : w2.grownBy w3 (some b) := (grownBy_alloc_trans hc)
      replace cR0 := (Chg.one gq).at cR0 zR (by omega)
      replace fR0 := (Chg.one gq).fr fR0 zR (by omega)
      replace cR1 := (Chg.one gq).at cR1 zR (by omega)
      replace fR1 := (Chg.one gq).fr fR1 zR (by omega)
      replace cR2 := (Chg.one gq).at cR2 zR (by omega)
      replace fR2 := (Chg.one gq).fr fR2 zR (by omega)
      replace zR := Nat.lt_of_lt_of_le zR gq.size
      replace cL0 := (Chg.one gq).at cL0 zL (by omega)
      replace fL0 := (Chg.one gq).fr fL0 zL (by omega)
      replace cL1 := (Chg.one gq).at cL1 zL (by omega)
      replace fL1 := (Chg.one gq).fr fL1 zL (by omega)
      replace cL2 := (Chg.one gq).at cL2 zL (by omega)
      replace fL2 := (Chg.one gq).fr fL2 zL (by omega)
      replace zL := Nat.lt_of_lt_of_le zL gq.size
      have cP20 : w3.cell? ⟨w2.heap.size, 0, none⟩ = some (.int .i64 (-1)) := (Chg.one hc).at (by simp [go_sem]) (by first | (simp; done) | (simp; omega)) (by omega)
      have cP21 : w3.cell? ⟨w2.heap.size, 1, none⟩ = some (.int .i64 400) := (Chg.one hc).at (by simp [go_sem]) (by first | (simp; done) | (simp; omega)) (by omega)
      have cP22 : w3.cell? ⟨w2.heap.size, 2, none⟩ = some (.int .i64 401) := (Chg.one hc).at (by simp [go_sem]) (by first | (simp; done) | (simp; omega)) (by omega)
      have cP23 : w3.cell? ⟨w2.heap.size, 3, none⟩ = some (.int .i64 3) := (Chg.one hc).at (by simp [go_sem]) (by first | (simp; done) | (simp; omega)) (by omega)
      have zP2 : w2.heap.size < w3.heap.size := by omega
      replace hg := grown_trans hg gq
      clear hc gq
      go_wp2
      exact bodyPost_ret (v := .agg #[.int .i64 W, .bool C, .int .i64 S2]) (by simp [results, Tryd.results31, go_sem, cL0, cL1, cL2, cR0, cR1, cR2, cL0, cL1, cL2]) rfl ⟨W, C, S2, rfl, (((((hs.kept (setCell_grown _ _ _ _) (fun j hj => by cases hj; exact ⟨by omega, by omega⟩)).kept (setCell_grown _ _ _ _) (fun j hj => by cases hj; exact ⟨by omega, by omega⟩)).kept (setCell_grown _ _ _ _) (fun j hj => by cases hj; exact ⟨by omega, by omega⟩)).kept (setCell_grown _ _ _ _) (fun j hj => by cases hj; exact ⟨by omega, by omega⟩)).more (by omega)), (grown_mix (grown_mix (grown_mix (grown_mix hg (setCell_grown _ _ _ _) (fun j hj => by cases hj; omega)) (setCell_grown _ _ _ _) (fun j hj => by cases hj; omega)) (setCell_grown _ _ _ _) (fun j hj => by cases hj; omega)) (setCell_grown _ _ _ _) (fun j hj => by cases hj; omega))⟩
    · skip
      go_wp2
      exact bodyPost_ret (v := .agg #[.int .i64 W, .bool C, .int .i64 S]) (by simp [results, Tryd.results31, go_sem, cR0, cR1, cR2]) rfl ⟨W, C, S, rfl, ((((hs.kept (setCell_grown _ _ _ _) (fun j hj => by cases hj; exact ⟨by omega, by omega⟩)).kept (setCell_grown _ _ _ _) (fun j hj => by cases hj; exact ⟨by omega, by omega⟩)).kept (setCell_grown _ _ _ _) (fun j hj => by cases hj; exact ⟨by omega, by omega⟩)).more (by omega)), (grown_mix (grown_mix (grown_mix hg (setCell_grown _ _ _ _) (fun j hj => by cases hj; omega)) (setCell_grown _ _ _ _) (fun j hj => by cases hj; omega)) (setCell_grown _ _ _ _) (fun j hj => by cases hj; omega))⟩
end Go.Proofs.YtjgmkcmlkffjlaaDoor
