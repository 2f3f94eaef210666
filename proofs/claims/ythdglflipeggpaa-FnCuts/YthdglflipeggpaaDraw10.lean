/-
  Draws of an index: DrawIndexTrue, DrawCutIndex, DrawNewIndex.
-/
import Derived.Test.YthdglflipeggpaaDraw9
namespace Go.Proofs.Ythdglflipeggpaa
open Go.RowKit
set_option linter.unusedVariables false
set_option linter.unusedSimpArgs false

set_option maxHeartbeats 1600000 in
theorem DrawIndexTrue_any (a : Option Addr) (n ca : Nat) (xs : List Int) (w : World) (ha : Rd .u8 w a n xs) (hB : Bytes xs) (hn : n ≤ 1048576) :
    Calls Try.prog 10 #[.slice a n ca] w fun e w' => ∃ E L Z va ms vf ys, e = .returned (.tuple #[.agg #[.int .i64 E, va, .int .i64 L, .int .i64 Z], .agg #[vf]]) ∧ RowI .i64 2 w' w.heap.size w'.heap.size va ms.length ms ∧ ms.length ≤ 1000 ∧ RowI .u8 5 w' w.heap.size w'.heap.size vf ys.length ys ∧ ys.length ≤ 401 ∧ Bytes ys ∧ Below w.heap.size w w' := by
  have hbt : ∀ o1 o2, Below w.heap.size w ((w.alloc o1).alloc o2) := fun o1 o2 => ((Below.refl _ _).alloc (Nat.le_refl _) o1).alloc (by simp) o2
  go_enter Try.func10, Try.ntmps10
  go_wp2_with fail
  refine (l4With_any a n ca xs _ (ha.below (hbt _ _)) hB hn).mono ?_
  rintro e w1 ⟨E, L, Z, va, ms, vf, ys, rfl, ox, hl1, of, hl2, hby, hb1⟩
  have hb01 := (hbt _ _).trans (hb1.mono (by simp; omega))
  have c0 : w1.cell? ⟨w.heap.size, 0, none⟩ = some (.int .i64 0) := cell_later hb1 (by simp [go_sem])
  have cf0 : w1.frozen? ⟨w.heap.size, 0, none⟩ = false := (hb1.frozen (p := ⟨w.heap.size, 0, none⟩) (by first | (simp; done) | (simp; omega))).trans (by simp [go_sem])
  have c1 : w1.cell? ⟨w.heap.size, 1, none⟩ = some (.slice none 0 0) := cell_later hb1 (by simp [go_sem])
  have cf1 : w1.frozen? ⟨w.heap.size, 1, none⟩ = false := (hb1.frozen (p := ⟨w.heap.size, 1, none⟩) (by first | (simp; done) | (simp; omega))).trans (by simp [go_sem])
  have c2 : w1.cell? ⟨w.heap.size, 2, none⟩ = some (.int .i64 0) := cell_later hb1 (by simp [go_sem])
  have cf2 : w1.frozen? ⟨w.heap.size, 2, none⟩ = false := (hb1.frozen (p := ⟨w.heap.size, 2, none⟩) (by first | (simp; done) | (simp; omega))).trans (by simp [go_sem])
  have c3 : w1.cell? ⟨w.heap.size, 3, none⟩ = some (.int .i64 0) := cell_later hb1 (by simp [go_sem])
  have cf3 : w1.frozen? ⟨w.heap.size, 3, none⟩ = false := (hb1.frozen (p := ⟨w.heap.size, 3, none⟩) (by first | (simp; done) | (simp; omega))).trans (by simp [go_sem])
  have d0 : w1.cell? ⟨w.heap.size + 1, 0, none⟩ = some (.slice none 0 0) := cell_later hb1 (by simp [go_sem])
  have df0 : w1.frozen? ⟨w.heap.size + 1, 0, none⟩ = false := (hb1.frozen (p := ⟨w.heap.size + 1, 0, none⟩) (by first | (simp; done) | (simp; omega))).trans (by simp [go_sem])
  obtain ⟨ax, kx, rfl, -⟩ := ox.shape
  obtain ⟨af, kf, rfl, -⟩ := of.shape
  have OX := hid (Own.up (base' := w.heap.size + 2) ox.1 (by simp))
  have OF := hid (Own.up (base' := w.heap.size + 2) of.1 (by simp))
  clear ox of
  go_wp2
  refine bodyPost_ret (v := .tuple #[.agg #[.int .i64 E, .slice ax ms.length kx, .int .i64 L, .int .i64 Z], .agg #[.slice af ys.length kf]]) (by simp [results, Try.results10, go_sem, c0, c1, c2, c3, d0]) rfl ⟨E, L, Z, _, ms, _, ys, rfl, ?_, hl1, ?_, hl2, hby, ?_⟩
  · exact RowI.mono (RowI.of (Own.setBelow (Own.setBelow (Own.setBelow (Own.setBelow (Own.setBelow OX.out (by simp) _) (by simp) _) (by simp) _) (by simp) _) (by simp) _)) (by omega) (Nat.le_refl _)
  · exact RowI.mono (RowI.of (Own.setBelow (Own.setBelow (Own.setBelow (Own.setBelow (Own.setBelow OF.out (by simp) _) (by simp) _) (by simp) _) (by simp) _) (by simp) _)) (by omega) (Nat.le_refl _)
  · exact ((((hb01.setCell (by simp) _).setCell (by simp) _).setCell (by simp) _).setCell (by simp) _).setCell (by simp) _

set_option maxHeartbeats 400000 in
theorem l1Later_any (a : Option Addr) (n ca k : Nat) (xs : List Int) (B : Nat) (w : World) (ha : Rd .u8 w a n xs) (hB : Bytes xs) (hn : n ≤ 1048576) (hb : n = 0 ∨ ∃ b' off, a = some ⟨b', off, none⟩ ∧ b' < B) (hBw : B ≤ w.heap.size) (hk : k ≤ 100) :
    Calls Try.prog 37 #[.slice a n ca, .int .i64 k] w fun e w' => e = .returned (.pointer (some ⟨w.heap.size, 0, none⟩)) ∧ Src w' B w.heap.size (5 + 7 * k) ∧ Below w.heap.size w w' := by
  have hw1 : IntKind.i64.wrap (7 * (k : Int)) = 7 * k := by rw [IntKind.wrap_i64] <;> omega
  have hw2 : IntKind.i64.wrap (5 + 7 * (k : Int)) = 5 + 7 * k := by rw [IntKind.wrap_i64] <;> omega
  go_enter Try.func37, Try.ntmps37
  go_wp2
  go_ret
  have hbw : Below w.heap.size w (w.alloc (.cells #[.slice a n ca, .int .i64 (5 + 7 * (k : Int))] 89)) := (Below.refl _ _).alloc (Nat.le_refl _) _
  exact ⟨rfl, ⟨hBw, a, n, ca, xs, 5 + 7 * k, by simp, by simp, by simp, ha.below hbw, hB, hn, by omega, by omega, hb⟩, hbw⟩

set_option maxHeartbeats 800000 in
theorem DrawNewIndex_any (a : Option Addr) (n ca : Nat) (xs : List Int) (w : World) (ha : Rd .u8 w a n xs) (hB : Bytes xs) (hn : n ≤ 1048576) :
    Calls Try.prog 16 #[.slice a n ca] w fun e w' => ∃ t, e = .returned (.int .i64 t) ∧ Below w.heap.size w w' := by
  go_enter Try.func16, Try.ntmps16
  go_wp2_with fail
  refine (l1Source_any a n ca xs w.heap.size _ ha hB hn (src_below ha) (Nat.le_refl _)).mono ?_
  rintro e w1 ⟨rfl, hs1, hb1⟩
  have lit := lit_rd (k := .i64) (e := 2) w1 [1, 4, 9, 10, 0] 5 rfl (by simp [maxLen])
  have z1 := hs1.lt
  have hsa := hs1.alloc (.cells (([1, 4, 9, 10, 0] : List Int).map (Value.int .i64)).toArray 2)
  simp only [List.map_cons, List.map_nil] at lit hsa
  go_wp2_with fail
  refine (l1Pick_any w.heap.size w.heap.size _ w1.heap.size 5 [1, 4, 9, 10, 0] _ hsa (by omega) rfl (by omega) (by omega) (by omega) lit).mono ?_
  rintro e w2 ⟨t, rfl, -, hs2, hg2⟩
  have hb2 := below_src (hb1.alloc hb1.size _) hg2 (Nat.le_refl _)
  clear hs2 hsa hs1 lit hg2
  go_wp2
  go_ret
  exact ⟨t, rfl, hb2⟩

set_option maxRecDepth 20000 in
set_option maxHeartbeats 1600000 in
theorem DrawCutIndex_any (a : Option Addr) (n ca : Nat) (xs : List Int) (w : World) (ha : Rd .u8 w a n xs) (hB : Bytes xs) (hn : n ≤ 1048576) :
    Calls Try.prog 11 #[.slice a n ca] w fun e w' => ∃ E L Z va ms s, e = .returned (.tuple #[.agg #[.int .i64 E, va, .int .i64 L, .int .i64 Z], .int .i64 s]) ∧ RowI .i64 2 w' w.heap.size w'.heap.size va ms.length ms ∧ ms.length ≤ 1000 ∧ Below w.heap.size w w' := by
  have hbt : ∀ o1, Below w.heap.size w (w.alloc o1) := fun o1 => (Below.refl _ _).alloc (Nat.le_refl _) o1
  go_enter Try.func11, Try.ntmps11
  go_wp2_with fail
  refine (l4With_any a n ca xs _ (ha.below (hbt _)) hB hn).mono ?_
  rintro e w1 ⟨E, L, Z, va, ms, vf, ys, rfl, ox, hl1, of, hl2, hby, hb1⟩
  have hb01 := (hbt _).trans (hb1.mono (by simp))
  obtain ⟨ax, kx, rfl, -⟩ := ox.shape
  obtain ⟨af, kf, rfl, -⟩ := of.shape
  have OX := hid (Own.up (base' := w.heap.size + 1) ox.1 (by simp))
  have s1 : w.heap.size + 1 ≤ w1.heap.size := by have := hb1.size; simp at this; omega
  have rr : Blk w1 w.heap.size #[.int .i64 0, .slice none 0 0, .int .i64 0, .int .i64 0] 26 := (Blk.new w _ _).below hb1
  have hjl : ∀ j, (Value.slice ax ms.length kx).ownBlock = some j → j < w1.heap.size := fun j hj => ox.2 j hj
  have HJL := hid hjl
  clear ox of hb1 hjl
  have N2 : ∀ o1 o2, Below w1.heap.size w1 ((w1.alloc o1).alloc o2) := fun o1 o2 => ((Below.refl _ _).alloc (Nat.le_refl _) o1).alloc (by simp) o2
  go_wp2_with fail
  refine (l1Later_any a n ca 3 xs w.heap.size _ ((ha.below hb01).below (N2 _ _)) hB hn (src_below ha) (by simp; omega) (by omega)).mono ?_
  rintro e w2 ⟨rfl, hs2, hb2⟩
  have hb12 := (N2 _ _).trans (hb2.mono (by simp; omega))
  have bx := ((Blk.new w1 #[.int .i64 E, .slice ax ms.length kx, .int .i64 L, .int .i64 Z] 26).alloc (.cells #[.slice af ys.length kf] 28)).below hb2
  have bf := (Blk.new (w1.alloc (.cells #[.int .i64 E, .slice ax ms.length kx, .int .i64 L, .int .i64 Z] 26)) #[.slice af ys.length kf] 28).below hb2
  rw [World.size_alloc] at bf
  have hs2' : Src w2 w.heap.size (w1.heap.size + 2) (5 + 7 * 3) := by simpa using hs2
  rw [show ((w1.alloc (.cells #[.int .i64 E, .slice ax ms.length kx, .int .i64 L, .int .i64 Z] 26)).alloc (.cells #[.slice af ys.length kf] 28)).heap.size = w1.heap.size + 2 by simp]
  have hb02 := hb01.trans (hb12.mono hb01.size)
  have r2 := rr.below hb12
  have ox2 := OX.out.below hb12
  clear hs2 rr OX hb2 hb12 N2 hb01 hbt
  have x0 : w2.cell? ⟨w1.heap.size, 0, none⟩ = some (.int .i64 E) := bx.cell 0
  have x1 : w2.cell? ⟨w1.heap.size, 1, none⟩ = some (.slice ax ms.length kx) := bx.cell 1
  have x2 : w2.cell? ⟨w1.heap.size, 2, none⟩ = some (.int .i64 L) := bx.cell 2
  have x3 : w2.cell? ⟨w1.heap.size, 3, none⟩ = some (.int .i64 Z) := bx.cell 3
  have f0 : w2.cell? ⟨w1.heap.size + 1, 0, none⟩ = some (.slice af ys.length kf) := bf.cell 0
  have HR := hid r2
  have HO := hid ox2
  clear bx bf r2 ox2
  have hw3 : IntKind.i64.wrap ((ys.length : Int) + 3) = (ys.length : Int) + 3 := by rw [IntKind.wrap_i64] <;> omega
  generalize w1.heap.size = xb at *
  go_wp2
  refine wp_region_held_drew (S := fun w' => w'.cell? ⟨xb, 0, none⟩ = some (.int .i64 E) ∧ w'.cell? ⟨xb, 1, none⟩ = some (.slice ax ms.length kx) ∧ w'.cell? ⟨xb, 2, none⟩ = some (.int .i64 L) ∧ w'.cell? ⟨xb, 3, none⟩ = some (.int .i64 Z) ∧ w'.cell? ⟨xb + 1, 0, none⟩ = some (.slice af ys.length kf)) (by kernel_rfl) (by exact ⟨x0, x1, x2, x3, f0⟩) (fun hS => ?_)
  clear x0 x1 x2 x3 f0
  refine wpAnyH_take (i := 0) (v := (.agg #[.int .i64 E, .slice ax ms.length kx, .int .i64 L, .int .i64 Z])) rfl (by as_aux_lemma => kernel_rfl) (by as_aux_lemma => kernel_rfl) (by as_aux_lemma => kernel_rfl) (fun _ _ _ h => h) (Or.inl ⟨by kernel_rfl, ?_⟩) hS ?_
  · intro w hSw; (try dsimp only at hSw); go_simp
  simp only [Act.put, List.getElem_toArray, List.getElem_cons_zero, List.getElem_cons_succ, List.setIfInBounds_toArray, List.set_cons_zero, List.set_cons_succ]
  refine wpAnyH_take (i := 1) (v := (.pointer (some ⟨xb + 2, 0, none⟩))) rfl (by as_aux_lemma => kernel_rfl) (by as_aux_lemma => kernel_rfl) (by as_aux_lemma => kernel_rfl) (fun _ _ _ h => h) (Or.inl ⟨by kernel_rfl, ?_⟩) hS ?_
  · intro w hSw; (try dsimp only at hSw); go_simp
  simp only [Act.put, List.getElem_toArray, List.getElem_cons_zero, List.getElem_cons_succ, List.setIfInBounds_toArray, List.set_cons_zero, List.set_cons_succ]
  refine wpAnyH_take (i := 2) (v := (.pointer (some ⟨xb + 1, 0, none⟩))) rfl (by as_aux_lemma => kernel_rfl) (by as_aux_lemma => kernel_rfl) (by as_aux_lemma => kernel_rfl) (fun _ _ _ h => h) (Or.inl ⟨by kernel_rfl, ?_⟩) hS ?_
  · intro w hSw; (try dsimp only at hSw); go_simp
  simp only [Act.put, List.getElem_toArray, List.getElem_cons_zero, List.getElem_cons_succ, List.setIfInBounds_toArray, List.set_cons_zero, List.set_cons_succ]
  refine wpAnyH_take (i := 3) (v := (.slice af ys.length kf)) rfl (by as_aux_lemma => kernel_rfl) (by as_aux_lemma => kernel_rfl) (by as_aux_lemma => kernel_rfl) (fun _ _ _ h => h) (Or.inl ⟨by kernel_rfl, ?_⟩) hS ?_
  · intro w hSw; (try dsimp only at hSw); go_simp
  simp only [Act.put, List.getElem_toArray, List.getElem_cons_zero, List.getElem_cons_succ, List.setIfInBounds_toArray, List.set_cons_zero, List.set_cons_succ]
  refine wpAnyH_take (i := 4) (v := (.int .i64 (ys.length : Int))) rfl (by as_aux_lemma => kernel_rfl) (by as_aux_lemma => kernel_rfl) (by as_aux_lemma => kernel_rfl) (fun _ _ _ h => h) (Or.inl ⟨by kernel_rfl, ?_⟩) hS ?_
  · intro w hSw; (try dsimp only at hSw); go_simp
  simp only [Act.put, List.getElem_toArray, List.getElem_cons_zero, List.getElem_cons_succ, List.setIfInBounds_toArray, List.set_cons_zero, List.set_cons_succ]
  refine wpAnyH_take (i := 5) (v := (.int .i64 ((ys.length : Int) + 3))) rfl (by as_aux_lemma => kernel_rfl) (by as_aux_lemma => kernel_rfl) (by as_aux_lemma => kernel_rfl) (fun _ _ _ h => h) (Or.inl ⟨by kernel_rfl, ?_⟩) hS ?_
  · intro w hSw; (try dsimp only at hSw); go_simp
  simp only [Act.put, List.getElem_toArray, List.getElem_cons_zero, List.getElem_cons_succ, List.setIfInBounds_toArray, List.set_cons_zero, List.set_cons_succ]
  refine wpAnyH_ready (rs := [6]) (by as_aux_lemma => kernel_rfl) (by simp) ?_
  refine AllReadyH.cons rfl (fun K hK => ?_) AllReadyH.nil
  go_simp
  refine (l1Next_any w.heap.size (xb + 2) (5 + 7 * 3) ((ys.length : Int) + 3) w2.drew (hs2'.kept (w' := w2.drew) (row := none) ⟨rfl, rfl, rfl, Nat.le_refl _, fun _ _ _ => rfl⟩ (by simp)) (by omega) (by omega)).mono ?_
  rintro e w3 ⟨r, rfl, hr, hs3, hg3⟩
  obtain ⟨hr0, hr1⟩ := hr.2 (by omega)
  have hg3' : w2.grownBy w3 (some (xb + 2)) := ⟨hg3.os, hg3.tape, hg3.output, hg3.size, hg3.block⟩
  have hb03 := below_src hb02 hg3' (by omega)
  have rV := HR.out.kept hg3' (by simp; omega)
  have oV := Own.kept HO.out hg3' (fun j hj e => by have := HJL.out j hj; cases e; omega)
  refine hK.out _ _ ⟨grown_cell hg3 hS.1 (fun j hj => by cases hj; simp), grown_cell hg3 hS.2.1 (fun j hj => by cases hj; simp), grown_cell hg3 hS.2.2.1 (fun j hj => by cases hj; simp), grown_cell hg3 hS.2.2.2.1 (fun j hj => by cases hj; simp), grown_cell hg3 hS.2.2.2.2 (fun j hj => by cases hj; simp)⟩ (fun hS => ?_)
  clear hK K
  (try simp only [Act.put, List.getElem_toArray, List.getElem_cons_zero, List.getElem_cons_succ, List.setIfInBounds_toArray, List.set_cons_zero, List.set_cons_succ])
  have hw4 : IntKind.i64.wrap (r - 1) = r - 1 := by rw [IntKind.wrap_i64] <;> omega
  have y0 : w3.cell? ⟨w.heap.size, 0, none⟩ = some (.int .i64 0) := rV.cell 0
  have y1 : w3.cell? ⟨w.heap.size, 1, none⟩ = some (.slice none 0 0) := rV.cell 1
  have y2 : w3.cell? ⟨w.heap.size, 2, none⟩ = some (.int .i64 0) := rV.cell 2
  have y3 : w3.cell? ⟨w.heap.size, 3, none⟩ = some (.int .i64 0) := rV.cell 3
  have yf0 := rV.frozen 0
  have yf1 := rV.frozen 1
  have yf2 := rV.frozen 2
  have yf3 := rV.frozen 3
  have RV := hid rV
  have OV := hid oV
  clear rV oV hg3 hg3' hs3 hr hs2'
  refine wpAnyH_take (i := 7) (v := (.int .i64 (r - 1))) rfl (by as_aux_lemma => kernel_rfl) (by as_aux_lemma => kernel_rfl) (by as_aux_lemma => kernel_rfl) (fun _ _ _ h => h) (Or.inl ⟨by kernel_rfl, ?_⟩) hS ?_
  · intro w hSw; (try dsimp only at hSw); go_simp
  simp only [Act.put, List.getElem_toArray, List.getElem_cons_zero, List.getElem_cons_succ, List.setIfInBounds_toArray, List.set_cons_zero, List.set_cons_succ]
  refine wpAnyH_ready (rs := [8]) (by as_aux_lemma => kernel_rfl) (by simp) ?_
  refine AllReadyH.cons rfl (fun K hK => ?_) AllReadyH.nil
  go_simp
  have g4 : w3.grownBy ((((w3.setCell ⟨w.heap.size, 0, none⟩ (.int .i64 E)).setCell ⟨w.heap.size, 1, none⟩ (.slice ax ms.length kx)).setCell ⟨w.heap.size, 2, none⟩ (.int .i64 L)).setCell ⟨w.heap.size, 3, none⟩ (.int .i64 Z)) (some w.heap.size) := grownBy_trans (set_grown w3 w.heap.size 0 (.int .i64 E)) (grownBy_trans (set_grown _ w.heap.size 1 (.slice ax ms.length kx)) (grownBy_trans (set_grown _ w.heap.size 2 (.int .i64 L)) (set_grown _ w.heap.size 3 (.int .i64 Z))))
  refine hK.out _ _ ⟨grown_cell g4 hS.1 (fun j hj => by cases hj; simp; omega), grown_cell g4 hS.2.1 (fun j hj => by cases hj; simp; omega), grown_cell g4 hS.2.2.1 (fun j hj => by cases hj; simp; omega), grown_cell g4 hS.2.2.2.1 (fun j hj => by cases hj; simp; omega), grown_cell g4 hS.2.2.2.2 (fun j hj => by cases hj; simp; omega)⟩ (fun hS => ?_)
  clear hK K
  have rB := (((RV.out.set (i := 0) (.int .i64 E)).set (i := 1) (.slice ax ms.length kx)).set (i := 2) (.int .i64 L)).set (i := 3) (.int .i64 Z)
  have oB := Own.setBelow (a := ⟨w.heap.size, 3, none⟩) (Own.setBelow (a := ⟨w.heap.size, 2, none⟩) (Own.setBelow (a := ⟨w.heap.size, 1, none⟩) (Own.setBelow (a := ⟨w.heap.size, 0, none⟩) OV.out (by simp) (.int .i64 E)) (by simp) (.slice ax ms.length kx)) (by simp) (.int .i64 L)) (by simp) (.int .i64 Z)
  have bB : Below w.heap.size w ((((w3.setCell ⟨w.heap.size, 0, none⟩ (.int .i64 E)).setCell ⟨w.heap.size, 1, none⟩ (.slice ax ms.length kx)).setCell ⟨w.heap.size, 2, none⟩ (.int .i64 L)).setCell ⟨w.heap.size, 3, none⟩ (.int .i64 Z)) := hb03.grown g4 hb03.size (fun j hj => by cases hj; exact Nat.le_refl _)
  simp only [List.setIfInBounds_toArray, List.set_cons_zero, List.set_cons_succ] at rB
  clear g4 y0 y1 y2 y3 yf0 yf1 yf2 yf3 RV OV
  generalize ((((w3.setCell ⟨w.heap.size, 0, none⟩ (.int .i64 E)).setCell ⟨w.heap.size, 1, none⟩ (.slice ax ms.length kx)).setCell ⟨w.heap.size, 2, none⟩ (.int .i64 L)).setCell ⟨w.heap.size, 3, none⟩ (.int .i64 Z)) = V at *
  refine wpAnyH_take (i := 9) (v := (.int .i64 (r - 1))) rfl (by as_aux_lemma => kernel_rfl) (by as_aux_lemma => kernel_rfl) (by as_aux_lemma => kernel_rfl) (fun _ _ _ h => h) (Or.inl ⟨by kernel_rfl, ?_⟩) hS ?_
  · intro w hSw; (try dsimp only at hSw); go_simp
  simp only [Act.put, List.getElem_toArray, List.getElem_cons_zero, List.getElem_cons_succ, List.setIfInBounds_toArray, List.set_cons_zero, List.set_cons_succ]
  refine wpAnyH_done (by kernel_rfl) ?_ _
  clear hS
  have y0 : V.cell? ⟨w.heap.size, 0, none⟩ = some (.int .i64 E) := rB.cell 0
  have y1 : V.cell? ⟨w.heap.size, 1, none⟩ = some (.slice ax ms.length kx) := rB.cell 1
  have y2 : V.cell? ⟨w.heap.size, 2, none⟩ = some (.int .i64 L) := rB.cell 2
  have y3 : V.cell? ⟨w.heap.size, 3, none⟩ = some (.int .i64 Z) := rB.cell 3
  have OB := hid oB
  clear rB oB
  go_wp2
  exact bodyPost_ret (v := .tuple #[.agg #[.int .i64 E, .slice ax ms.length kx, .int .i64 L, .int .i64 Z], .int .i64 (r - 1)]) (by simp [results, Try.results11, go_sem, y0, y1, y2, y3]) rfl ⟨E, L, Z, _, ms, _, rfl, RowI.mono (RowI.of OB.out) (by omega) (Nat.le_refl _), hl1, bB⟩
end Go.Proofs.Ythdglflipeggpaa
