/-
  Draws of files: contracts of l2Bent and of the draws that hang on it.
-/
import Derived.Test.YtocophekfbhfbaaDraw5
namespace Go.Proofs.Ytocophekfbhfbaa
open Go.RowKit
set_option linter.unusedVariables false

set_option maxHeartbeats 3200000 in
theorem l2Bent_any (B b T : Nat) (w : World) (hs : Src w B b T) (hT : T ≤ 4000) :
    Calls Try.prog 134 #[.pointer (some ⟨b, 0, none⟩)] w fun e w' => ∃ v ys, e = .returned (.agg #[v]) ∧ RowI .u8 5 w' w.heap.size w'.heap.size v ys.length ys ∧ ys.length ≤ 401 ∧ Bytes ys ∧ Src w' B b (T + 1100) ∧ w.grownBy w' (some b) := by
  obtain ⟨i0, hi, hz0, hz1, hz2⟩ := info_parts info8d
  have hlt := hs.lt
  have hBb := hs.1
  go_enter Try.func134, Try.ntmps134
  go_wp2_with fail
  refine (l1Chance_any B b T 20 _ (hs.alloc _) (by omega) (by omega)).mono ?_
  rintro e w1 ⟨q, rfl, hs1, hg1⟩
  have hC1 := Chg.one hg1
  have z1 : w.heap.size + 1 ≤ w1.heap.size := by have := hg1.size; simp at this; omega
  have hg01 : w.grownBy w1 (some b) := grownBy_alloc_trans hg1
  have c0 : w1.cell? ⟨w.heap.size, 0, none⟩ = some (.slice none 0 0) := hC1.at (by simp [go_sem]) (by simp) (by omega)
  have f0 : w1.frozen? ⟨w.heap.size, 0, none⟩ = false := hC1.fr (by simp [go_sem]) (by simp) (by omega)
  clear hg1 hC1
  cases q
  · go_wp2_with fail
    refine (l2Draw_any B b _ _ hs1 (by omega)).mono ?_
    rintro e w2 ⟨v2, ys, rfl, o2, hyl, hyb, hs2, hg2⟩
    have hC2 := Chg.one hg2
    have c2 := hC2.at c0 (by omega) (by omega)
    have f2 := hC2.fr f0 (by omega) (by omega)
    have hgr2 := grown_trans hg01 hg2
    have z2 := hg2.size
    obtain ⟨a2, k2, rfl, _⟩ := o2.shape
    clear hC2 hg2 c0 f0 hg01
    go_wp2
    refine bodyPost_ret (v := .agg #[.slice a2 ys.length k2]) (by simp [results, Try.results134, go_sem, c2]) rfl ⟨_, ys, rfl, RowI.mono (RowI.of (o2.1.setBelow (by simp; omega) _)) (by omega) (Nat.le_refl _), by omega, hyb, (hs2.kept (set_grown _ w.heap.size 0 _) (fun j hj => by simp at hj; omega)).more (by omega), grown_mix hgr2 (set_grown _ w.heap.size 0 _) (fun j hj => by simp at hj; omega)⟩
  · go_wp2_with fail
    refine (l1Pick_any B b _ w1.heap.size 2 [400, 401] _ (hs1.alloc _) (by omega) rfl (by omega) (by omega) (by omega) (lit_rd w1 [400, 401] 2 rfl (by simp [maxLen]))).mono ?_
    rintro e w2 ⟨x, rfl, hx, hs2, hg2⟩
    have hxb : 400 ≤ x ∧ x ≤ 401 := by simp at hx; omega
    obtain ⟨x1, x2⟩ := hxb
    obtain ⟨n, rfl⟩ := Int.eq_ofNat_of_zero_le (show 0 ≤ x by omega)
    have hg2' := grownBy_alloc_trans hg2
    have hC2 := Chg.one hg2'
    have c2 := hC2.at c0 (by omega) (by omega)
    have f2 := hC2.fr f0 (by omega) (by omega)
    have hgr2 := grown_trans hg01 hg2'
    have z2 := hg2'.size
    clear hx hg2 hg2' hC2 c0 f0 hg01 hs1
    go_wp2_with (at_make; refine wpList_make_full _ rfl _ _ 22 rfl w2.heap.size 5 i0 (.int .u8 0) 1 Try.underlying22 hi hz0 hz1 _ _ _ _ n rfl rfl rfl rfl (by rw [hz2]; omega) (by unfold maxLen; omega) (Nat.le_refl _) ?_)
    intro w3 hown1 hgrow1
    have ho1 : Own .u8 5 w3 w2.heap.size (.slice (some ⟨w2.heap.size, 0, none⟩) n n) n (List.replicate n 0) := by
      unfold Own
      rw [List.map_replicate, ← toList_madeCells_one]
      exact hown1
    have hb1 : Below w2.heap.size w2 w3 := (Below.refl _ _).grown hgrow1 (Nat.le_refl _) (by simp)
    have c3 := cell_later hb1 c2
    have f3 := (hb1.frozen (p := ⟨w.heap.size, 0, none⟩) (by simp; omega)).trans f2
    have hs3 := hs2.kept (grownBy_of_below hb1) (by simp)
    have hgr3 := grown_trans hgr2 (grown_none (grownBy_of_below hb1))
    have z3 := hb1.size
    clear hown1 hgrow1 hb1 c2 f2 hs2 hgr2
    go_wp2
    refine bodyPost_ret (v := .agg #[.slice (some ⟨w2.heap.size, 0, none⟩) n n]) (by simp [results, Try.results134, go_sem, c3]) rfl ⟨_, List.replicate n 0, rfl, RowI.mono (RowI.of (by simpa using ho1.setBelow (a := ⟨w.heap.size, 0, none⟩) (by simp; omega) _)) (by omega) (Nat.le_refl _), by simp; omega, fun z hz => by have := List.eq_of_mem_replicate hz; omega, (hs3.kept (set_grown _ w.heap.size 0 _) (fun j hj => by simp at hj; omega)).more (by omega), grown_mix hgr3 (set_grown _ w.heap.size 0 _) (fun j hj => by simp at hj; omega)⟩

/-- What a draw leaves of what lay ahead of it. -/
theorem below_src {w w1 w2 : World} {b : Nat} (hb : Below w.heap.size w w1) (hg : w1.grownBy w2 (some b)) (h : w.heap.size ≤ b) : Below w.heap.size w w2 := hb.grown hg hb.size (fun j hj => by simp at hj; omega)

end Go.Proofs.Ytocophekfbhfbaa