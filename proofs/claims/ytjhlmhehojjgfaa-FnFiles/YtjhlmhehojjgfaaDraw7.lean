/-
  Draws of files: contracts of DrawCutFile and DrawReadPart.
-/
import Derived.Test.YtjhlmhehojjgfaaDraw6
import Derived.Deep.RegionWith
import Derived.Deep.RegionHeld3
namespace Go.Proofs.Ytjhlmhehojjgfaa
open Go.RowKit
set_option linter.unusedVariables false
set_option linter.unusedSimpArgs false

set_option maxRecDepth 10000 in
set_option maxHeartbeats 6400000 in
theorem DrawCutFile_any (a : Option Addr) (n ca : Nat) (xs : List Int) (w : World) (ha : Rd .u8 w a n xs) (hB : Bytes xs) (hn : n ≤ 1048576) :
    Calls Try.prog 21 #[.slice a n ca] w fun e w' => ∃ v ys I, e = .returned (.tuple #[.agg #[v], .int .i64 I]) ∧ RowI .u8 5 w' w.heap.size w'.heap.size v ys.length ys ∧ ys.length ≤ 401 ∧ Bytes ys ∧ Below w.heap.size w w' := by
  have hbt : ∀ o, Below w.heap.size w (w.alloc o) := fun o => (Below.refl _ _).alloc (Nat.le_refl _) o
  go_enter Try.func21, Try.ntmps21
  go_wp2_with fail
  refine (l1Source_any a n ca xs w.heap.size _ (ha.below (hbt _)) hB hn (src_below ha) (by simp)).mono ?_
  rintro e w1 ⟨rfl, hs1, hb1⟩
  rw [World.size_alloc] at hs1
  have c1 : w1.cell? ⟨w.heap.size, 0, none⟩ = some (.slice none 0 0) := cell_later hb1 (by simp [go_sem])
  have f1 : w1.frozen? ⟨w.heap.size, 0, none⟩ = false := (hb1.frozen (p := ⟨w.heap.size, 0, none⟩) (by simp)).trans (by simp [go_sem])
  have hb01 := (hbt _).trans (hb1.mono (by simp))
  have z1 := hs1.lt
  clear hb1 hbt
  go_wp2_with fail
  refine (l2Bent_any w.heap.size (w.heap.size + 1) 0 _ hs1 (by omega)).mono ?_
  rintro e w2 ⟨v2, ys, rfl, o2, hyl, hyb, hs2, hg2⟩
  have hC2 := Chg.one hg2
  have c2 := hC2.at c1 (by omega) (by omega)
  have f2 := hC2.fr f1 (by omega) (by omega)
  have z2 := hg2.size
  have hb02 := below_src hb01 hg2 (by omega)
  obtain ⟨a2, k2, rfl, _⟩ := o2.shape
  have bd : Below w2.heap.size w2 (w2.alloc (.cells #[.slice a2 ys.length k2] 25)).drew := ((Below.refl _ _).alloc (Nat.le_refl _) _).drew
  have hs3 : Src (w2.alloc (.cells #[.slice a2 ys.length k2] 25)).drew w.heap.size (w.heap.size + 1) (0 + 1100) := hs2.kept (grownBy_of_below bd) (by simp)
  have cb := cell_later bd c2
  have fb : (w2.alloc (.cells #[.slice a2 ys.length k2] 25)).drew.frozen? ⟨w.heap.size, 0, none⟩ = false := (bd.frozen (p := ⟨w.heap.size, 0, none⟩) (by simp; omega)).trans f2
  have gb : (w2.alloc (.cells #[.slice a2 ys.length k2] 25)).drew.cell? ⟨w2.heap.size, 0, none⟩ = some (.slice a2 ys.length k2) := by simp [go_sem]
  have ob := o2.below bd
  have hb0b := hb02.trans (bd.mono hb02.size)
  have sb : (w2.alloc (.cells #[.slice a2 ys.length k2] 25)).drew.heap.size = w2.heap.size + 1 := by simp [World.drew]
  clear hC2 hg2 c1 f1 hs1 hs2 bd c2 f2 hb01 hb02 o2
  go_wp2_with fail
  refine wp_region_held_drew (S := fun w' => w'.cell? ⟨w2.heap.size, 0, none⟩ = some (.slice a2 ys.length k2) ∧ (∃ u, w'.cell? ⟨w.heap.size, 0, none⟩ = some u) ∧ w'.frozen? ⟨w.heap.size, 0, none⟩ = false) (by kernel_rfl) ⟨gb, ⟨_, cb⟩, fb⟩ (fun hS => ?_)
  clear gb cb fb
  generalize (w2.alloc (.cells #[.slice a2 ys.length k2] 25)).drew = w3 at *
  have zw3 : w2.heap.size + 1 ≤ w3.heap.size := by omega
  have hw1 : IntKind.i64.wrap ((ys.length : Int) + 3) = (ys.length : Int) + 3 := by rw [IntKind.wrap_i64]; omega
  refine wpAnyH_take (i := 0) (v := (.agg #[.slice a2 ys.length k2])) rfl (by kernel_rfl) (by kernel_rfl) (by kernel_rfl) (fun _ _ _ h => h) (Or.inl ⟨by rfl, ?_⟩) hS ?_
  · intro w hSw; (try dsimp only at hSw); go_simp
  simp only [Act.put, List.getElem_toArray, List.getElem_cons_zero, List.getElem_cons_succ, List.setIfInBounds_toArray, List.set_cons_zero, List.set_cons_succ]
  refine wpAnyH_take (i := 1) (v := (.pointer (some ⟨w.heap.size + 1, 0, none⟩))) rfl (by kernel_rfl) (by kernel_rfl) (by kernel_rfl) (fun _ _ _ h => h) (Or.inl ⟨by rfl, ?_⟩) hS ?_
  · intro w hSw; (try dsimp only at hSw); go_simp
  simp only [Act.put, List.getElem_toArray, List.getElem_cons_zero, List.getElem_cons_succ, List.setIfInBounds_toArray, List.set_cons_zero, List.set_cons_succ]
  refine wpAnyH_take (i := 2) (v := (.pointer (some ⟨w2.heap.size, 0, none⟩))) rfl (by kernel_rfl) (by kernel_rfl) (by kernel_rfl) (fun _ _ _ h => h) (Or.inl ⟨by rfl, ?_⟩) hS ?_
  · intro w hSw; (try dsimp only at hSw); go_simp
  simp only [Act.put, List.getElem_toArray, List.getElem_cons_zero, List.getElem_cons_succ, List.setIfInBounds_toArray, List.set_cons_zero, List.set_cons_succ]
  refine wpAnyH_take (i := 3) (v := (.slice a2 ys.length k2)) rfl (by kernel_rfl) (by kernel_rfl) (by kernel_rfl) (fun _ _ _ h => h) (Or.inl ⟨by rfl, ?_⟩) hS ?_
  · intro w hSw; (try dsimp only at hSw); go_simp
  simp only [Act.put, List.getElem_toArray, List.getElem_cons_zero, List.getElem_cons_succ, List.setIfInBounds_toArray, List.set_cons_zero, List.set_cons_succ]
  refine wpAnyH_take (i := 4) (v := (.int .i64 (ys.length : Int))) rfl (by kernel_rfl) (by kernel_rfl) (by kernel_rfl) (fun _ _ _ h => h) (Or.inl ⟨by rfl, ?_⟩) hS ?_
  · intro w hSw; (try dsimp only at hSw); go_simp
  simp only [Act.put, List.getElem_toArray, List.getElem_cons_zero, List.getElem_cons_succ, List.setIfInBounds_toArray, List.set_cons_zero, List.set_cons_succ]
  refine wpAnyH_take (i := 5) (v := (.int .i64 ((ys.length : Int) + 3))) rfl (by kernel_rfl) (by kernel_rfl) (by kernel_rfl) (fun _ _ _ h => h) (Or.inl ⟨by rfl, ?_⟩) hS ?_
  · intro w hSw; (try dsimp only at hSw); go_simp
  simp only [Act.put, List.getElem_toArray, List.getElem_cons_zero, List.getElem_cons_succ, List.setIfInBounds_toArray, List.set_cons_zero, List.set_cons_succ]
  refine wpAnyH_ready (rs := [6]) (by kernel_rfl) (by simp) ?_
  refine AllReadyH.cons rfl (fun K hK => ?_) AllReadyH.nil
  go_simp
  refine Calls.mono (l1Next_any w.heap.size (w.heap.size + 1) _ _ _ hs3 (by omega) (by omega)) ?_
  rintro e w4 ⟨x, rfl, hx, hsw4, hgw4⟩
  obtain ⟨x1, x2⟩ := hx.2 (by omega)
  have hw2 : IntKind.i64.wrap (x - 1) = x - 1 := by rw [IntKind.wrap_i64]; omega
  have hC := Chg.one hgw4
  have zw4 := hgw4.size
  refine hK.out _ _ ⟨hC.at hS.1 (by omega) (by omega), ⟨_, hC.at hS.2.1.choose_spec (by omega) (by omega)⟩, hC.fr hS.2.2 (by omega) (by omega)⟩ (fun hS => ?_)
  clear hK K
  replace ob := ob.chg hC (by omega)
  replace hb0b := below_src hb0b hgw4 (by omega)
  clear hC hgw4
  refine wpAnyH_take (i := 7) (v := (.int .i64 (x - 1))) rfl (by kernel_rfl) (by kernel_rfl) (by kernel_rfl) (fun _ _ _ h => h) (Or.inl ⟨by rfl, ?_⟩) hS ?_
  · intro w hSw; (try dsimp only at hSw); go_simp
  simp only [Act.put, List.getElem_toArray, List.getElem_cons_zero, List.getElem_cons_succ, List.setIfInBounds_toArray, List.set_cons_zero, List.set_cons_succ]
  obtain ⟨u, hu⟩ := hS.2.1
  have hfu := hS.2.2
  refine wpAnyH_ready (rs := [8]) (by kernel_rfl) (by simp) ?_
  refine AllReadyH.cons rfl (fun K hK => ?_) AllReadyH.nil
  go_simp
  refine hK.out _ _ ⟨(World.cell?_of_block (w := w4) (a := ⟨w2.heap.size, 0, none⟩) (Below.heap_setCell _ ⟨w.heap.size, 0, none⟩ _ w2.heap.size (by simp; omega))).trans hS.1, ⟨_, World.cell?_setCell_same' _ _ _ (by rw [hu]; rfl)⟩, (by rw [World.frozen?_setCell]; exact hfu)⟩ (fun hS => ?_)
  clear hK K
  refine wpAnyH_take (i := 9) (v := (.int .i64 (x - 1))) rfl (by kernel_rfl) (by kernel_rfl) (by kernel_rfl) (fun _ _ _ h => h) (Or.inl ⟨by rfl, ?_⟩) hS ?_
  · intro w hSw; (try dsimp only at hSw); go_simp
  simp only [Act.put, List.getElem_toArray, List.getElem_cons_zero, List.getElem_cons_succ, List.setIfInBounds_toArray, List.set_cons_zero, List.set_cons_succ]
  refine wpAnyH_done (by kernel_rfl) ?_ _
  clear hS
  go_wp2
  exact bodyPost_ret (v := .tuple #[.agg #[.slice a2 ys.length k2], .int .i64 (x - 1)]) (by simp [results, Try.results21, go_sem, hu]) rfl ⟨_, ys, _, rfl, RowI.mono (RowI.of (ob.1.setBelow (by simp; omega) _)) (by omega) (Nat.le_refl _), by omega, hyb, hb0b.setCell (by simp) _⟩

set_option maxRecDepth 10000 in
set_option maxHeartbeats 6400000 in
theorem DrawReadPart_any (a : Option Addr) (n ca : Nat) (xs : List Int) (w : World) (ha : Rd .u8 w a n xs) (hB : Bytes xs) (hn : n ≤ 1048576) :
    Calls Try.prog 20 #[.slice a n ca] w fun e w' => ∃ v ys A N M, e = .returned (.tuple #[.agg #[v], .int .i64 A, .int .i64 N, .int .i64 M]) ∧ RowI .u8 5 w' w.heap.size w'.heap.size v ys.length ys ∧ ys.length ≤ 401 ∧ Bytes ys ∧ Below w.heap.size w w' := by
  have hbt : ∀ o, Below w.heap.size w (w.alloc o) := fun o => (Below.refl _ _).alloc (Nat.le_refl _) o
  go_enter Try.func20, Try.ntmps20
  go_wp2_with fail
  refine (l1Source_any a n ca xs w.heap.size _ (ha.below (hbt _)) hB hn (src_below ha) (by simp)).mono ?_
  rintro e w1 ⟨rfl, hs1, hb1⟩
  rw [World.size_alloc] at hs1
  have c1 : w1.cell? ⟨w.heap.size, 0, none⟩ = some (.slice none 0 0) := cell_later hb1 (by simp [go_sem])
  have f1 : w1.frozen? ⟨w.heap.size, 0, none⟩ = false := (hb1.frozen (p := ⟨w.heap.size, 0, none⟩) (by simp)).trans (by simp [go_sem])
  have hb01 := (hbt _).trans (hb1.mono (by simp))
  have z1 := hs1.lt
  clear hb1 hbt
  go_wp2_with fail
  refine (l2Bent_any w.heap.size (w.heap.size + 1) 0 _ hs1 (by omega)).mono ?_
  rintro e w2 ⟨v2, ys, rfl, o2, hyl, hyb, hs2, hg2⟩
  have hC2 := Chg.one hg2
  have c2 := hC2.at c1 (by omega) (by omega)
  have f2 := hC2.fr f1 (by omega) (by omega)
  have z2 := hg2.size
  have hb02 := below_src hb01 hg2 (by omega)
  obtain ⟨a2, k2, rfl, _⟩ := o2.shape
  have bd : Below w2.heap.size w2 (w2.alloc (.cells #[.slice a2 ys.length k2] 25)).drew := ((Below.refl _ _).alloc (Nat.le_refl _) _).drew
  have hs3 : Src (w2.alloc (.cells #[.slice a2 ys.length k2] 25)).drew w.heap.size (w.heap.size + 1) (0 + 1100) := hs2.kept (grownBy_of_below bd) (by simp)
  have cb := cell_later bd c2
  have fb : (w2.alloc (.cells #[.slice a2 ys.length k2] 25)).drew.frozen? ⟨w.heap.size, 0, none⟩ = false := (bd.frozen (p := ⟨w.heap.size, 0, none⟩) (by simp; omega)).trans f2
  have gb : (w2.alloc (.cells #[.slice a2 ys.length k2] 25)).drew.cell? ⟨w2.heap.size, 0, none⟩ = some (.slice a2 ys.length k2) := by simp [go_sem]
  have ob := o2.below bd
  have hb0b := hb02.trans (bd.mono hb02.size)
  have sb : (w2.alloc (.cells #[.slice a2 ys.length k2] 25)).drew.heap.size = w2.heap.size + 1 := by simp [World.drew]
  clear hC2 hg2 c1 f1 hs1 hs2 bd c2 f2 hb01 hb02 o2
  go_wp2_with fail
  refine wp_region_held_drew (S := fun w' => w'.cell? ⟨w2.heap.size, 0, none⟩ = some (.slice a2 ys.length k2) ∧ (∃ u, w'.cell? ⟨w.heap.size, 0, none⟩ = some u) ∧ w'.frozen? ⟨w.heap.size, 0, none⟩ = false) (by kernel_rfl) ⟨gb, ⟨_, cb⟩, fb⟩ (fun hS => ?_)
  clear gb cb fb
  generalize (w2.alloc (.cells #[.slice a2 ys.length k2] 25)).drew = w3 at *
  have zw3 : w2.heap.size + 1 ≤ w3.heap.size := by omega
  have hw1 : IntKind.i64.wrap ((ys.length : Int) + 5) = (ys.length : Int) + 5 := by rw [IntKind.wrap_i64]; omega
  refine wpAnyH_take (i := 0) (v := (.agg #[.slice a2 ys.length k2])) rfl (by kernel_rfl) (by kernel_rfl) (by kernel_rfl) (fun _ _ _ h => h) (Or.inl ⟨by rfl, ?_⟩) hS ?_
  · intro w hSw; (try dsimp only at hSw); go_simp
  simp only [Act.put, List.getElem_toArray, List.getElem_cons_zero, List.getElem_cons_succ, List.setIfInBounds_toArray, List.set_cons_zero, List.set_cons_succ]
  refine wpAnyH_take (i := 1) (v := (.pointer (some ⟨w.heap.size + 1, 0, none⟩))) rfl (by kernel_rfl) (by kernel_rfl) (by kernel_rfl) (fun _ _ _ h => h) (Or.inl ⟨by rfl, ?_⟩) hS ?_
  · intro w hSw; (try dsimp only at hSw); go_simp
  simp only [Act.put, List.getElem_toArray, List.getElem_cons_zero, List.getElem_cons_succ, List.setIfInBounds_toArray, List.set_cons_zero, List.set_cons_succ]
  refine wpAnyH_take (i := 2) (v := (.pointer (some ⟨w2.heap.size, 0, none⟩))) rfl (by kernel_rfl) (by kernel_rfl) (by kernel_rfl) (fun _ _ _ h => h) (Or.inl ⟨by rfl, ?_⟩) hS ?_
  · intro w hSw; (try dsimp only at hSw); go_simp
  simp only [Act.put, List.getElem_toArray, List.getElem_cons_zero, List.getElem_cons_succ, List.setIfInBounds_toArray, List.set_cons_zero, List.set_cons_succ]
  refine wpAnyH_take (i := 3) (v := (.slice a2 ys.length k2)) rfl (by kernel_rfl) (by kernel_rfl) (by kernel_rfl) (fun _ _ _ h => h) (Or.inl ⟨by rfl, ?_⟩) hS ?_
  · intro w hSw; (try dsimp only at hSw); go_simp
  simp only [Act.put, List.getElem_toArray, List.getElem_cons_zero, List.getElem_cons_succ, List.setIfInBounds_toArray, List.set_cons_zero, List.set_cons_succ]
  refine wpAnyH_take (i := 4) (v := (.int .i64 (ys.length : Int))) rfl (by kernel_rfl) (by kernel_rfl) (by kernel_rfl) (fun _ _ _ h => h) (Or.inl ⟨by rfl, ?_⟩) hS ?_
  · intro w hSw; (try dsimp only at hSw); go_simp
  simp only [Act.put, List.getElem_toArray, List.getElem_cons_zero, List.getElem_cons_succ, List.setIfInBounds_toArray, List.set_cons_zero, List.set_cons_succ]
  refine wpAnyH_take (i := 5) (v := (.int .i64 ((ys.length : Int) + 5))) rfl (by kernel_rfl) (by kernel_rfl) (by kernel_rfl) (fun _ _ _ h => h) (Or.inl ⟨by rfl, ?_⟩) hS ?_
  · intro w hSw; (try dsimp only at hSw); go_simp
  simp only [Act.put, List.getElem_toArray, List.getElem_cons_zero, List.getElem_cons_succ, List.setIfInBounds_toArray, List.set_cons_zero, List.set_cons_succ]
  refine wpAnyH_take (i := 8) (v := (.pointer (some ⟨w.heap.size + 1, 0, none⟩))) rfl (by kernel_rfl) (by kernel_rfl) (by kernel_rfl) (fun _ _ _ h => h) (Or.inl ⟨by rfl, ?_⟩) hS ?_
  · intro w hSw; (try dsimp only at hSw); go_simp
  simp only [Act.put, List.getElem_toArray, List.getElem_cons_zero, List.getElem_cons_succ, List.setIfInBounds_toArray, List.set_cons_zero, List.set_cons_succ]
  refine wpAnyH_take (i := 9) (v := (.pointer (some ⟨w.heap.size + 1, 0, none⟩))) rfl (by kernel_rfl) (by kernel_rfl) (by kernel_rfl) (fun _ _ _ h => h) (Or.inl ⟨by rfl, ?_⟩) hS ?_
  · intro w hSw; (try dsimp only at hSw); go_simp
  simp only [Act.put, List.getElem_toArray, List.getElem_cons_zero, List.getElem_cons_succ, List.setIfInBounds_toArray, List.set_cons_zero, List.set_cons_succ]
  refine wpAnyH_take (i := 11) (v := (.pointer (some ⟨w.heap.size + 1, 0, none⟩))) rfl (by kernel_rfl) (by kernel_rfl) (by kernel_rfl) (fun _ _ _ h => h) (Or.inl ⟨by rfl, ?_⟩) hS ?_
  · intro w hSw; (try dsimp only at hSw); go_simp
  simp only [Act.put, List.getElem_toArray, List.getElem_cons_zero, List.getElem_cons_succ, List.setIfInBounds_toArray, List.set_cons_zero, List.set_cons_succ]
  refine wpAnyH_take (i := 15) (v := (.pointer (some ⟨w.heap.size + 1, 0, none⟩))) rfl (by kernel_rfl) (by kernel_rfl) (by kernel_rfl) (fun _ _ _ h => h) (Or.inl ⟨by rfl, ?_⟩) hS ?_
  · intro w hSw; (try dsimp only at hSw); go_simp
  simp only [Act.put, List.getElem_toArray, List.getElem_cons_zero, List.getElem_cons_succ, List.setIfInBounds_toArray, List.set_cons_zero, List.set_cons_succ]
  refine wpAnyH_take (i := 16) (v := (.pointer (some ⟨w.heap.size + 1, 0, none⟩))) rfl (by kernel_rfl) (by kernel_rfl) (by kernel_rfl) (fun _ _ _ h => h) (Or.inl ⟨by rfl, ?_⟩) hS ?_
  · intro w hSw; (try dsimp only at hSw); go_simp
  simp only [Act.put, List.getElem_toArray, List.getElem_cons_zero, List.getElem_cons_succ, List.setIfInBounds_toArray, List.set_cons_zero, List.set_cons_succ]
  refine wpAnyH_ready (rs := [6]) (by kernel_rfl) (by simp) ?_
  refine AllReadyH.cons rfl (fun K hK => ?_) AllReadyH.nil
  go_simp
  refine Calls.mono (l1Next_any w.heap.size (w.heap.size + 1) _ _ _ hs3 (by omega) (by omega)) ?_
  rintro e w4 ⟨x, rfl, hx, hsw4, hgw4⟩
  obtain ⟨x1, x2⟩ := hx.2 (by omega)
  have hw2 : IntKind.i64.wrap (x - 1) = x - 1 := by rw [IntKind.wrap_i64]; omega
  have hC := Chg.one hgw4
  have zw4 := hgw4.size
  refine hK.out _ _ ⟨hC.at hS.1 (by omega) (by omega), ⟨_, hC.at hS.2.1.choose_spec (by omega) (by omega)⟩, hC.fr hS.2.2 (by omega) (by omega)⟩ (fun hS => ?_)
  clear hK K
  replace ob := ob.chg hC (by omega)
  replace hb0b := below_src hb0b hgw4 (by omega)
  clear hC hgw4
  refine wpAnyH_take (i := 7) (v := (.int .i64 (x - 1))) rfl (by kernel_rfl) (by kernel_rfl) (by kernel_rfl) (fun _ _ _ h => h) (Or.inl ⟨by rfl, ?_⟩) hS ?_
  · intro w hSw; (try dsimp only at hSw); go_simp
  simp only [Act.put, List.getElem_toArray, List.getElem_cons_zero, List.getElem_cons_succ, List.setIfInBounds_toArray, List.set_cons_zero, List.set_cons_succ]
  refine wpAnyH_ready (rs := [10]) (by kernel_rfl) (by simp) ?_
  refine AllReadyH.cons rfl (fun K hK => ?_) AllReadyH.nil
  go_simp
  refine Calls.mono (l1Next_any w.heap.size (w.heap.size + 1) _ 20 _ hsw4 (by omega) (by omega)) ?_
  rintro e w5 ⟨p, rfl, hp, hsw5, hgw5⟩
  obtain ⟨p1, p2⟩ := hp.2 (by omega)
  have hC := Chg.one hgw5
  have zw5 := hgw5.size
  refine hK.out _ _ ⟨hC.at hS.1 (by omega) (by omega), ⟨_, hC.at hS.2.1.choose_spec (by omega) (by omega)⟩, hC.fr hS.2.2 (by omega) (by omega)⟩ (fun hS => ?_)
  clear hK K
  replace ob := ob.chg hC (by omega)
  replace hb0b := below_src hb0b hgw5 (by omega)
  clear hC hgw5
  refine wpAnyH_ready (rs := [12]) (by kernel_rfl) (by simp) ?_
  refine AllReadyH.cons rfl (fun K hK => ?_) AllReadyH.nil
  go_simp
  refine Calls.mono (l1Next_any w.heap.size (w.heap.size + 1) _ 20 _ hsw5 (by omega) (by omega)) ?_
  rintro e w6 ⟨q, rfl, hq, hsw6, hgw6⟩
  obtain ⟨q1, q2⟩ := hq.2 (by omega)
  have hC := Chg.one hgw6
  have zw6 := hgw6.size
  refine hK.out _ _ ⟨hC.at hS.1 (by omega) (by omega), ⟨_, hC.at hS.2.1.choose_spec (by omega) (by omega)⟩, hC.fr hS.2.2 (by omega) (by omega)⟩ (fun hS => ?_)
  clear hK K
  replace ob := ob.chg hC (by omega)
  replace hb0b := below_src hb0b hgw6 (by omega)
  clear hC hgw6
  refine wpAnyH_ready (rs := [13]) (by kernel_rfl) (by simp) ?_
  refine AllReadyH.cons rfl (fun K hK => ?_) AllReadyH.nil
  go_simp
  have bA : Below w6.heap.size w6 (w6.alloc (.cells #[.int .i64 p, .int .i64 q, .int .i64 400, .int .i64 401, .int .i64 (-1)] 2)) := (Below.refl _ _).alloc (Nat.le_refl _) _
  have rA : Rd .i64 (w6.alloc (.cells #[.int .i64 p, .int .i64 q, .int .i64 400, .int .i64 401, .int .i64 (-1)] 2)) (some ⟨w6.heap.size, 0, none⟩) 5 [p, q, 400, 401, -1] := lit_rd w6 [p, q, 400, 401, -1] 5 rfl (by simp [maxLen])
  have hsA := hsw6.kept (grownBy_of_below bA) (by simp)
  have zAw7 : (w6.alloc (.cells #[.int .i64 p, .int .i64 q, .int .i64 400, .int .i64 401, .int .i64 (-1)] 2)).heap.size = w6.heap.size + 1 := by simp
  refine hK.out _ _ ⟨cell_later bA hS.1, ⟨_, cell_later bA hS.2.1.choose_spec⟩, (bA.frozen (p := ⟨w.heap.size, 0, none⟩) (by simp; omega)).trans hS.2.2⟩ (fun hS => ?_)
  clear hK K
  replace ob := ob.below bA
  replace hb0b := hb0b.trans (bA.mono hb0b.size)
  clear bA
  generalize (w6.alloc (.cells #[.int .i64 p, .int .i64 q, .int .i64 400, .int .i64 401, .int .i64 (-1)] 2)) = w7 at *
  refine wpAnyH_ready (rs := [14]) (by kernel_rfl) (by simp) ?_
  refine AllReadyH.cons rfl (fun K hK => ?_) AllReadyH.nil
  go_simp
  refine Calls.mono (l1Pick_any w.heap.size (w.heap.size + 1) _ w6.heap.size 5 _ _ hsA (by omega) rfl (by omega) (by omega) (by omega) rA) ?_
  rintro e w8 ⟨N, rfl, hN, hsw8, hgw8⟩
  clear hN hsA rA
  have hC := Chg.one hgw8
  have zw8 := hgw8.size
  refine hK.out _ _ ⟨hC.at hS.1 (by omega) (by omega), ⟨_, hC.at hS.2.1.choose_spec (by omega) (by omega)⟩, hC.fr hS.2.2 (by omega) (by omega)⟩ (fun hS => ?_)
  clear hK K
  replace ob := ob.chg hC (by omega)
  replace hb0b := below_src hb0b hgw8 (by omega)
  clear hC hgw8
  refine wpAnyH_ready (rs := [17]) (by kernel_rfl) (by simp) ?_
  refine AllReadyH.cons rfl (fun K hK => ?_) AllReadyH.nil
  go_simp
  refine Calls.mono (l1Next_any w.heap.size (w.heap.size + 1) _ 9 _ hsw8 (by omega) (by omega)) ?_
  rintro e w9 ⟨t, rfl, ht, hsw9, hgw9⟩
  obtain ⟨t1, t2⟩ := ht.2 (by omega)
  have hw3 : IntKind.i64.wrap (1 + t) = 1 + t := by rw [IntKind.wrap_i64]; omega
  have hC := Chg.one hgw9
  have zw9 := hgw9.size
  refine hK.out _ _ ⟨hC.at hS.1 (by omega) (by omega), ⟨_, hC.at hS.2.1.choose_spec (by omega) (by omega)⟩, hC.fr hS.2.2 (by omega) (by omega)⟩ (fun hS => ?_)
  clear hK K
  replace ob := ob.chg hC (by omega)
  replace hb0b := below_src hb0b hgw9 (by omega)
  clear hC hgw9
  refine wpAnyH_take (i := 18) (v := (.int .i64 (1 + t))) rfl (by kernel_rfl) (by kernel_rfl) (by kernel_rfl) (fun _ _ _ h => h) (Or.inl ⟨by rfl, ?_⟩) hS ?_
  · intro w hSw; (try dsimp only at hSw); go_simp
  simp only [Act.put, List.getElem_toArray, List.getElem_cons_zero, List.getElem_cons_succ, List.setIfInBounds_toArray, List.set_cons_zero, List.set_cons_succ]
  refine wpAnyH_ready (rs := [19]) (by kernel_rfl) (by simp) ?_
  refine AllReadyH.cons rfl (fun K hK => ?_) AllReadyH.nil
  go_simp
  have bA : Below w9.heap.size w9 (w9.alloc (.cells #[.int .i64 (1 + t), .int .i64 400, .int .i64 0] 2)) := (Below.refl _ _).alloc (Nat.le_refl _) _
  have rA : Rd .i64 (w9.alloc (.cells #[.int .i64 (1 + t), .int .i64 400, .int .i64 0] 2)) (some ⟨w9.heap.size, 0, none⟩) 3 [1 + t, 400, 0] := lit_rd w9 [1 + t, 400, 0] 3 rfl (by simp [maxLen])
  have hsA := hsw9.kept (grownBy_of_below bA) (by simp)
  have zAw10 : (w9.alloc (.cells #[.int .i64 (1 + t), .int .i64 400, .int .i64 0] 2)).heap.size = w9.heap.size + 1 := by simp
  refine hK.out _ _ ⟨cell_later bA hS.1, ⟨_, cell_later bA hS.2.1.choose_spec⟩, (bA.frozen (p := ⟨w.heap.size, 0, none⟩) (by simp; omega)).trans hS.2.2⟩ (fun hS => ?_)
  clear hK K
  replace ob := ob.below bA
  replace hb0b := hb0b.trans (bA.mono hb0b.size)
  clear bA
  generalize (w9.alloc (.cells #[.int .i64 (1 + t), .int .i64 400, .int .i64 0] 2)) = w10 at *
  refine wpAnyH_ready (rs := [20]) (by kernel_rfl) (by simp) ?_
  refine AllReadyH.cons rfl (fun K hK => ?_) AllReadyH.nil
  go_simp
  refine Calls.mono (l1Pick_any w.heap.size (w.heap.size + 1) _ w9.heap.size 3 _ _ hsA (by omega) rfl (by omega) (by omega) (by omega) rA) ?_
  rintro e w11 ⟨M, rfl, hM, hsw11, hgw11⟩
  clear hM hsA rA
  have hC := Chg.one hgw11
  have zw11 := hgw11.size
  refine hK.out _ _ ⟨hC.at hS.1 (by omega) (by omega), ⟨_, hC.at hS.2.1.choose_spec (by omega) (by omega)⟩, hC.fr hS.2.2 (by omega) (by omega)⟩ (fun hS => ?_)
  clear hK K
  replace ob := ob.chg hC (by omega)
  replace hb0b := below_src hb0b hgw11 (by omega)
  clear hC hgw11
  obtain ⟨u, hu⟩ := hS.2.1
  have hfu := hS.2.2
  refine wpAnyH_ready (rs := [21]) (by kernel_rfl) (by simp) ?_
  refine AllReadyH.cons rfl (fun K hK => ?_) AllReadyH.nil
  go_simp
  refine hK.out _ _ ⟨(World.cell?_of_block (w := w11) (a := ⟨w2.heap.size, 0, none⟩) (Below.heap_setCell _ ⟨w.heap.size, 0, none⟩ _ w2.heap.size (by simp; omega))).trans hS.1, ⟨_, World.cell?_setCell_same' _ _ _ (by rw [hu]; rfl)⟩, (by rw [World.frozen?_setCell]; exact hfu)⟩ (fun hS => ?_)
  clear hK K
  refine wpAnyH_take (i := 22) (v := (.int .i64 (x - 1))) rfl (by kernel_rfl) (by kernel_rfl) (by kernel_rfl) (fun _ _ _ h => h) (Or.inl ⟨by rfl, ?_⟩) hS ?_
  · intro w hSw; (try dsimp only at hSw); go_simp
  simp only [Act.put, List.getElem_toArray, List.getElem_cons_zero, List.getElem_cons_succ, List.setIfInBounds_toArray, List.set_cons_zero, List.set_cons_succ]
  refine wpAnyH_take (i := 23) (v := (.int .i64 N)) rfl (by kernel_rfl) (by kernel_rfl) (by kernel_rfl) (fun _ _ _ h => h) (Or.inl ⟨by rfl, ?_⟩) hS ?_
  · intro w hSw; (try dsimp only at hSw); go_simp
  simp only [Act.put, List.getElem_toArray, List.getElem_cons_zero, List.getElem_cons_succ, List.setIfInBounds_toArray, List.set_cons_zero, List.set_cons_succ]
  refine wpAnyH_take (i := 24) (v := (.int .i64 M)) rfl (by kernel_rfl) (by kernel_rfl) (by kernel_rfl) (fun _ _ _ h => h) (Or.inl ⟨by rfl, ?_⟩) hS ?_
  · intro w hSw; (try dsimp only at hSw); go_simp
  simp only [Act.put, List.getElem_toArray, List.getElem_cons_zero, List.getElem_cons_succ, List.setIfInBounds_toArray, List.set_cons_zero, List.set_cons_succ]
  refine wpAnyH_done (by kernel_rfl) ?_ _
  clear hS
  go_wp2
  exact bodyPost_ret (v := .tuple #[.agg #[.slice a2 ys.length k2], .int .i64 (x - 1), .int .i64 N, .int .i64 M]) (by simp [results, Try.results20, go_sem, hu]) rfl ⟨_, ys, _, _, _, rfl, RowI.mono (RowI.of (ob.1.setBelow (by simp; omega) _)) (by omega) (Nat.le_refl _), by omega, hyb, hb0b.setCell (by simp) _⟩
end Go.Proofs.Ytjhlmhehojjgfaa
