/-
  CutIndex, of the specification and of the program: the model cuts.
-/
import Derived.Test.YthdglflipeggpaaIndex5a
namespace Go.Proofs.Ythdglflipeggpaa
open Go.RowKit
set_option linter.unusedVariables false
set_option linter.unusedSimpArgs false

set_option maxRecDepth 20000 in
set_option maxHeartbeats 12800000 in
theorem l4Cut_cut (E : Int) (a : Option Addr) (n ca : Nat) (ms : List Int) (L Z s : Int) (w : World) (ha : Rd .i64 w a n ms) (hE1 : 1 ≤ E) (hE2 : E ≤ 9) (hn : n ≤ 400) (hs : s < Z) :
    Calls Try.prog 43 #[.agg #[.int .i64 E, .slice a n ca, .int .i64 L, .int .i64 Z], .int .i64 s] w fun e w' => ∃ v, e = .returned (.agg #[.int .i64 E, v, .int .i64 ((keptN s ms : Int) * E), .int .i64 (aheadOf ms (keptN s ms))]) ∧ Own .i64 2 w' w.heap.size v (keptN s ms) (ms.take (keptN s ms)) ∧ Below w.heap.size w w' := by
  have hlen := ha.1
  have B2 : ∀ o1 o2, Below w.heap.size w ((w.alloc o1).alloc o2) := fun o1 o2 => ((Below.refl _ _).alloc (Nat.le_refl _) o1).alloc (by simp) o2
  obtain ⟨K, hK⟩ : ∃ K, K = keptN s ms := ⟨_, rfl⟩
  have hKle : K ≤ n := by rw [hK, ← hlen]; exact keptN_le s ms
  rw [← hK]
  have hKm := keptMul hE1 hE2 (show K ≤ 400 by omega)
  go_enter Try.func43, Try.ntmps43
  go_wp2_with fail
  refine (l4Copy_any E a n ca ms L Z _ (ha.below (B2 _ _)) (by omega)).mono ?_
  rintro e w1 ⟨v1, rfl, ho1, hb1⟩
  have hb01 := (B2 _ _).trans (hb1.mono (by simp; omega))
  have s1 : w.heap.size + 2 ≤ w1.heap.size := by have := hb1.size; simp at this; omega
  obtain ⟨a1, c1, rfl, -, hc1, -⟩ := ho1.rdc
  have e0 : ∀ o, (w1.alloc o).cell? ⟨w.heap.size, 0, none⟩ = some (.int .i64 E) := fun o => cell_later ((Below.refl _ _).alloc (Nat.le_refl _) o) (cell_later hb1 (by simp [go_sem]))
  have e1 : ∀ o, (w1.alloc o).cell? ⟨w.heap.size, 1, none⟩ = some (.slice a n ca) := fun o => cell_later ((Below.refl _ _).alloc (Nat.le_refl _) o) (cell_later hb1 (by simp [go_sem]))
  have e3 : ∀ o, (w1.alloc o).cell? ⟨w.heap.size, 3, none⟩ = some (.int .i64 Z) := fun o => cell_later ((Below.refl _ _).alloc (Nat.le_refl _) o) (cell_later hb1 (by simp [go_sem]))
  have g0 : w1.cell? ⟨w.heap.size + 1, 0, none⟩ = some (.int .i64 0) := cell_later hb1 (by simp [go_sem])
  have gf0 : w1.frozen? ⟨w.heap.size + 1, 0, none⟩ = false := (hb1.frozen (p := ⟨w.heap.size + 1, 0, none⟩) (by simp)).trans (by simp [go_sem])
  have g1 : w1.cell? ⟨w.heap.size + 1, 1, none⟩ = some (.slice none 0 0) := cell_later hb1 (by simp [go_sem])
  have gf1 : w1.frozen? ⟨w.heap.size + 1, 1, none⟩ = false := (hb1.frozen (p := ⟨w.heap.size + 1, 1, none⟩) (by simp)).trans (by simp [go_sem])
  have g2 : w1.cell? ⟨w.heap.size + 1, 2, none⟩ = some (.int .i64 0) := cell_later hb1 (by simp [go_sem])
  have gf2 : w1.frozen? ⟨w.heap.size + 1, 2, none⟩ = false := (hb1.frozen (p := ⟨w.heap.size + 1, 2, none⟩) (by simp)).trans (by simp [go_sem])
  have g3 : w1.cell? ⟨w.heap.size + 1, 3, none⟩ = some (.int .i64 0) := cell_later hb1 (by simp [go_sem])
  have gf3 : w1.frozen? ⟨w.heap.size + 1, 3, none⟩ = false := (hb1.frozen (p := ⟨w.heap.size + 1, 3, none⟩) (by simp)).trans (by simp [go_sem])
  have HO := hid (Own.first (Own.up (base' := w.heap.size + 2) ho1 (by simp)) hKle)
  have NB : ∀ o, Below w1.heap.size w1 (w1.alloc o) := fun o => (Below.refl _ _).alloc (Nat.le_refl _) o
  clear ho1
  have hs' : ¬ Z ≤ s := by omega
  go_wp2
  obtain ⟨w2, hw2⟩ : ∃ w2, w2 = w1.alloc (.cells #[.int .i64 E, .slice a1 n c1, .int .i64 L, .int .i64 Z] 26) := ⟨_, rfl⟩
  rw [← hw2]
  have NB2 : Below w1.heap.size w1 w2 := by rw [hw2]; exact NB _
  have hbl : Blk w2 w1.heap.size #[.int .i64 E, .slice a1 n c1, .int .i64 L, .int .i64 Z] 26 := by rw [hw2]; exact Blk.new _ _ _
  have ho2 : Own .i64 2 w2 (w.heap.size + 2) (.slice a1 K c1) K (ms.take K) := Own.below HO.out NB2
  have hb2 := hb01.trans (NB2.mono hb01.size)
  have r2 : ∀ i, w2.cell? ⟨w.heap.size + 1, i, none⟩ = w1.cell? ⟨w.heap.size + 1, i, none⟩ := fun i => World.cell?_of_block (NB2.block (w.heap.size + 1) (by omega))
  have r3 : ∀ i, w2.frozen? ⟨w.heap.size + 1, i, none⟩ = w1.frozen? ⟨w.heap.size + 1, i, none⟩ := fun i => World.frozen?_of_block (NB2.block (w.heap.size + 1) (by omega))
  rw [← r2] at g0 g1 g2 g3
  rw [← r3] at gf0 gf1 gf2 gf3
  have e0 := e0 (.cells #[.int .i64 E, .slice a1 n c1, .int .i64 L, .int .i64 Z] 26)
  have e1 := e1 (.cells #[.int .i64 E, .slice a1 n c1, .int .i64 L, .int .i64 Z] 26)
  rw [← hw2] at e0 e1
  have hr := ha.below hb2
  have hnr := hbl.not_row (by decide) ho2
  have s2 : w.heap.size + 2 ≤ w1.heap.size := s1
  clear hw2 NB NB2 r2 r3 HO hb01 hb1 s1 e3
  generalize w1.heap.size = q at *
  have x0 := hbl.cell 0
  have x1 := hbl.cell 1
  have x2 := hbl.cell 2
  have x3 := hbl.cell 3
  have f1 := hbl.frozen 1
  have f2 := hbl.frozen 2
  have f3 := hbl.frozen 3
  simp at x0 x1 x2 x3
  have HBL := hid hbl
  have HO2 := hid ho2
  have HNR := hid hnr
  clear hbl ho2 hnr
  have hq1 : q ≠ w.heap.size + 1 := by omega
  have hq2 : w.heap.size + 1 ≠ q := by omega
  have hq3 : q ≠ w.heap.size := by omega
  have hq4 : w.heap.size ≠ q := by omega
  go_loop [6] (fun i => ∃ k : Nat, k ≤ n ∧ i = .int .i64 k ∧ K = k + keptN s (ms.drop k)) (fun i => n - (intOf i).toNat)
  case atStart => exact ⟨0, Nat.zero_le _, rfl, by simpa using hK⟩
  case round =>
    obtain ⟨k, hk, rfl, hKk⟩ := hrel
    by_cases hgo : k < n ∧ ms.getD k 0 ≤ s
    · obtain ⟨hlt, hle⟩ := hgo
      have hst := keptN_step (by omega) hle (hK.symm.trans hKk)
      obtain ⟨b1, o1, rfl, hc1'⟩ := hr.at hlt
      have hk1 := hc1' k hlt
      have hlt' : (k : Int) < (n : Int) := by omega
      clear hc1' hKk
      generalize ms.getD k 0 = m at *
      go_wp2
      go_round
      case rel => exact ⟨k + 1, by omega, by go_num, hK.trans hst⟩
      case measure => simp [intOf]; omega
    · have hkK : K = k := by
        by_cases hlt : k < n
        · exact hK.trans (keptN_stop (by omega) (fun h => hgo ⟨hlt, h⟩) (hK.symm.trans hKk))
        · exact hK.trans (keptN_end (by omega) (hK.symm.trans hKk))
      subst hkK
      have HKK := hid hK
      have hKc : K ≤ c1 := by omega
      have hKn' : (K : Int) ≤ (n : Int) := by omega
      have hKc' : (K : Int) ≤ (c1 : Int) := by omega
      clear hKk hK
      have fin : ∀ (u1 u2 u3 u4 : Value), Own .i64 2 ((((w2.setCell ⟨q, 1, none⟩ u1).setCell ⟨q, 2, none⟩ u2).setCell ⟨q, 3, none⟩ u3).setCell ⟨q, 3, none⟩ u4) (w.heap.size + 2) (.slice a1 K c1) K (ms.take K) := fun u1 u2 u3 u4 =>
        Own.kept HO2.out (grownBy_trans (setCell_grown _ q 1 u1) (grownBy_trans (setCell_grown _ q 2 u2) (grownBy_trans (setCell_grown _ q 3 u3) (setCell_grown _ q 3 u4)))) (fun j hj e => HNR.out (by rw [hj, e]))
      have fin0 : ∀ (u1 u2 u3 : Value), Own .i64 2 (((w2.setCell ⟨q, 1, none⟩ u1).setCell ⟨q, 2, none⟩ u2).setCell ⟨q, 3, none⟩ u3) (w.heap.size + 2) (.slice a1 K c1) K (ms.take K) := fun u1 u2 u3 =>
        Own.kept HO2.out (grownBy_trans (setCell_grown _ q 1 u1) (grownBy_trans (setCell_grown _ q 2 u2) (setCell_grown _ q 3 u3))) (fun j hj e => HNR.out (by rw [hj, e]))
      by_cases hk0 : K = 0
      · subst hk0
        have b2 : ∀ (u1 u2 u3 : Value), Below w.heap.size w (((w2.setCell ⟨q, 1, none⟩ u1).setCell ⟨q, 2, none⟩ u2).setCell ⟨q, 3, none⟩ u3) := fun u1 u2 u3 => ((hb2.setCell (by simp; omega) _).setCell (by simp; omega) _).setCell (by simp; omega) _
        clear hKm
        by_cases hlt : 0 < n
        · obtain ⟨b1, o1, rfl, hc1'⟩ := hr.at hlt
          have hk1 := hc1' 0 hlt
          rw [Nat.add_zero] at hk1
          have hno : ¬ ms.getD 0 0 ≤ s := fun h => hgo ⟨hlt, h⟩
          clear hc1' hgo
          generalize ms.getD 0 0 = m at *
          have hn0 : ¬ n = 0 := by omega
          go_wp2
          refine bodyPost_ret (v := .agg #[.int .i64 E, .slice a1 0 c1, .int .i64 0, .int .i64 0]) (by simp [results, Try.results43, go_sem, g0, g1, g2, g3, gf0, gf1, gf2, gf3, hq1, hq2]) rfl ⟨.slice a1 0 c1, by simp [aheadOf], ?_, ?_⟩
          · exact Own.up (Own.setBelow (Own.setBelow (Own.setBelow (Own.setBelow (fin0 _ _ _) (by simp) _) (by simp) _) (by simp) _) (by simp) _) (by omega)
          · exact ((((b2 _ _ _).setCell (by simp) _).setCell (by simp) _).setCell (by simp) _).setCell (by simp) _
        · have hn0 : n = 0 := by omega
          clear hgo
          go_wp2
          refine bodyPost_ret (v := .agg #[.int .i64 E, .slice a1 0 c1, .int .i64 0, .int .i64 0]) (by simp [results, Try.results43, go_sem, g0, g1, g2, g3, gf0, gf1, gf2, gf3, hq1, hq2]) rfl ⟨.slice a1 0 c1, by simp [aheadOf], ?_, ?_⟩
          · exact Own.up (Own.setBelow (Own.setBelow (Own.setBelow (Own.setBelow (fin0 _ _ _) (by simp) _) (by simp) _) (by simp) _) (by simp) _) (by omega)
          · exact ((((b2 _ _ _).setCell (by simp) _).setCell (by simp) _).setCell (by simp) _).setCell (by simp) _
      · obtain ⟨b1, o1, rfl, hcw⟩ := ha.at (show K - 1 < n by omega)
        have hbl1 := World.block_lt_of_cell? w _ (hcw (K - 1) (by omega))
        simp only at hbl1
        have hqb : q ≠ b1 := by omega
        have hqb' : b1 ≠ q := by omega
        obtain ⟨_, _, heq, hc1'⟩ := hr.at (show K - 1 < n by omega)
        cases heq
        clear hcw
        have b3 : ∀ (u1 u2 u3 u4 : Value), Below w.heap.size w ((((w2.setCell ⟨q, 1, none⟩ u1).setCell ⟨q, 2, none⟩ u2).setCell ⟨q, 3, none⟩ u3).setCell ⟨q, 3, none⟩ u4) := fun u1 u2 u3 u4 => (((hb2.setCell (by simp; omega) _).setCell (by simp; omega) _).setCell (by simp; omega) _).setCell (by simp; omega) _
        have hkm := hc1' (K - 1) (by omega)
        have haK : aheadOf ms K = ms.getD (K - 1) 0 := by simp [aheadOf, hk0]
        have p1 : 0 < K := by omega
        have p2 : (0 : Int) < (K : Int) := by omega
        have p3 : (K : Int) - 1 = ((K - 1 : Nat) : Int) := by omega
        have p4 : IntKind.i64.wrap ((K - 1 : Nat) : Int) = ((K - 1 : Nat) : Int) := by rw [IntKind.wrap_i64] <;> omega
        have p5 : ((K - 1 : Nat) : Int) < (n : Int) := by omega
        have p6 : K - 1 < n := by omega
        generalize ms.getD (K - 1) 0 = mk at *
        have HAK := hid haK
        clear haK
        have h43 : ((((w2.setCell ⟨q, 1, none⟩ (.slice a1 K c1)).setCell ⟨q, 2, none⟩ (.int .i64 ((K : Int) * E))).setCell ⟨q, 3, none⟩ (.int .i64 0)).setCell ⟨q, 3, none⟩ (.int .i64 mk)).cell? ⟨q, 3, none⟩ = some (.int .i64 mk) := ((((HBL.out.set (i := 1) (.slice a1 K c1)).set (i := 2) (.int .i64 ((K : Int) * E))).set (i := 3) (.int .i64 0)).set (i := 3) (.int .i64 mk)).cell 3
        by_cases hlt : K < n
        · have hk1 := hc1' K hlt
          have hno : ¬ ms.getD K 0 ≤ s := fun h => hgo ⟨hlt, h⟩
          have hlt' : (K : Int) < (n : Int) := by omega
          clear hc1' hgo
          generalize ms.getD K 0 = m at *
          go_wp2
          refine bodyPost_ret (v := .agg #[.int .i64 E, .slice a1 K c1, .int .i64 ((K : Int) * E), .int .i64 mk]) (by simp [results, Try.results43, go_sem, g0, g1, g2, g3, gf0, gf1, gf2, gf3, hq1, hq2]) rfl ⟨.slice a1 K c1, by rw [HAK.out], ?_, ?_⟩
          · exact Own.up (Own.setBelow (Own.setBelow (Own.setBelow (Own.setBelow (fin _ _ _ _) (by simp) _) (by simp) _) (by simp) _) (by simp) _) (by omega)
          · exact ((((b3 _ _ _ _).setCell (by simp) _).setCell (by simp) _).setCell (by simp) _).setCell (by simp) _
        · have hlt' : ¬ (K : Int) < (n : Int) := by omega
          clear hc1' hgo
          go_wp2
          refine bodyPost_ret (v := .agg #[.int .i64 E, .slice a1 K c1, .int .i64 ((K : Int) * E), .int .i64 mk]) (by simp [results, Try.results43, go_sem, g0, g1, g2, g3, gf0, gf1, gf2, gf3, hq1, hq2]) rfl ⟨.slice a1 K c1, by rw [HAK.out], ?_, ?_⟩
          · exact Own.up (Own.setBelow (Own.setBelow (Own.setBelow (Own.setBelow (fin _ _ _ _) (by simp) _) (by simp) _) (by simp) _) (by simp) _) (by omega)
          · exact ((((b3 _ _ _ _).setCell (by simp) _).setCell (by simp) _).setCell (by simp) _).setCell (by simp) _

end Go.Proofs.Ythdglflipeggpaa
