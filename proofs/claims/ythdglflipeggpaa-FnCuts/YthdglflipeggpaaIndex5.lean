/-
  CutIndex, of the specification and of the program: the whole.
-/
import Derived.Test.YthdglflipeggpaaIndex5b
namespace Go.Proofs.Ythdglflipeggpaa
open Go.RowKit
set_option linter.unusedVariables false
set_option linter.unusedSimpArgs false

set_option maxHeartbeats 1600000 in
theorem specCutIndex_any (E : Int) (a : Option Addr) (n ca : Nat) (ms : List Int) (L Z s : Int) (w : World) (ha : Rd .i64 w a n ms) (h1 : n ≤ 1048576) (hca : n ≤ ca) (hcx : ca ≤ maxLen) :
    Calls Try.prog 13 #[.agg #[.int .i64 E, .slice a n ca, .int .i64 L, .int .i64 Z], .int .i64 s] w fun e w' => ∃ v, e = .returned (.agg #[.int .i64 (cuCode E ms L Z s), .int .i64 0, .int .i64 (cuE E ms L Z s), v, .int .i64 (cuL E ms L Z s), .int .i64 (cuZ E ms L Z s)]) ∧ RowI .i64 2 w' w.heap.size w'.heap.size v (cuM E ms L Z s).length (cuM E ms L Z s) ∧ Below w.heap.size w w' := by
  have HCX := hid hcx
  clear hcx
  have hlen := ha.1
  have B2 : ∀ o1 o2, Below w.heap.size w ((w.alloc o1).alloc o2) := fun o1 o2 => ((Below.refl _ _).alloc (Nat.le_refl _) o1).alloc (by simp) o2
  by_cases hf : indexFault E ms L Z = 0
  rotate_left
  · have hcu : cuCode E ms L Z s = indexFault E ms L Z := by unfold cuCode; rw [if_pos hf]
    have hne : ¬ cuCode E ms L Z s = 0 := by rw [hcu]; exact hf
    obtain ⟨e2, e3, e4, e5⟩ := cu_bad hne
    rw [hcu, e2, e3, e4, e5]
    clear hcu hne e2 e3 e4 e5
    generalize hcd : indexFault E ms L Z = cd at *
    have HCD := hid hcd
    clear hcd
    go_enter Try.func13, Try.ntmps13
    go_wp2_with fail
    refine (l4Fault_any w.heap.size E a n ca ms L Z _ (by simp [go_sem]) (by simp [go_sem]) (by simp [go_sem]) (by simp [go_sem]) (ha.below (B2 _ _)) (by omega)).mono ?_
    rintro e w1 ⟨rfl, hb1⟩
    have hb01 := (B2 _ _).trans (hb1.mono (by simp; omega))
    have s1 : w.heap.size + 1 < w1.heap.size := by have := hb1.size; simp at this; omega
    rw [HCD.out]
    have d0 : w1.cell? ⟨w.heap.size + 1, 0, none⟩ = some (.int .i64 0) := cell_later hb1 (by simp [go_sem])
    have df0 : w1.frozen? ⟨w.heap.size + 1, 0, none⟩ = false := (hb1.frozen (p := ⟨w.heap.size + 1, 0, none⟩) (by first | (simp; done) | (simp; omega))).trans (by simp [go_sem])
    have d1 : w1.cell? ⟨w.heap.size + 1, 1, none⟩ = some (.int .i64 0) := cell_later hb1 (by simp [go_sem])
    have df1 : w1.frozen? ⟨w.heap.size + 1, 1, none⟩ = false := (hb1.frozen (p := ⟨w.heap.size + 1, 1, none⟩) (by first | (simp; done) | (simp; omega))).trans (by simp [go_sem])
    have d2 : w1.cell? ⟨w.heap.size + 1, 2, none⟩ = some (.int .i64 0) := cell_later hb1 (by simp [go_sem])
    have df2 : w1.frozen? ⟨w.heap.size + 1, 2, none⟩ = false := (hb1.frozen (p := ⟨w.heap.size + 1, 2, none⟩) (by first | (simp; done) | (simp; omega))).trans (by simp [go_sem])
    have d3 : w1.cell? ⟨w.heap.size + 1, 3, none⟩ = some (.slice none 0 0) := cell_later hb1 (by simp [go_sem])
    have df3 : w1.frozen? ⟨w.heap.size + 1, 3, none⟩ = false := (hb1.frozen (p := ⟨w.heap.size + 1, 3, none⟩) (by first | (simp; done) | (simp; omega))).trans (by simp [go_sem])
    have d4 : w1.cell? ⟨w.heap.size + 1, 4, none⟩ = some (.int .i64 0) := cell_later hb1 (by simp [go_sem])
    have df4 : w1.frozen? ⟨w.heap.size + 1, 4, none⟩ = false := (hb1.frozen (p := ⟨w.heap.size + 1, 4, none⟩) (by first | (simp; done) | (simp; omega))).trans (by simp [go_sem])
    have d5 : w1.cell? ⟨w.heap.size + 1, 5, none⟩ = some (.int .i64 0) := cell_later hb1 (by simp [go_sem])
    have df5 : w1.frozen? ⟨w.heap.size + 1, 5, none⟩ = false := (hb1.frozen (p := ⟨w.heap.size + 1, 5, none⟩) (by first | (simp; done) | (simp; omega))).trans (by simp [go_sem])
    go_wp2_with fail
    refine (l4Bad_any cd _).mono ?_
    rintro e w2 ⟨rfl, hb2⟩
    have hb02 := hb01.trans (hb2.mono hb01.size)
    have y0 := cell_later hb2 d0
    have yf0 := (hb2.frozen (p := ⟨w.heap.size + 1, 0, none⟩) s1).trans df0
    have y1 := cell_later hb2 d1
    have yf1 := (hb2.frozen (p := ⟨w.heap.size + 1, 1, none⟩) s1).trans df1
    have y2 := cell_later hb2 d2
    have yf2 := (hb2.frozen (p := ⟨w.heap.size + 1, 2, none⟩) s1).trans df2
    have y3 := cell_later hb2 d3
    have yf3 := (hb2.frozen (p := ⟨w.heap.size + 1, 3, none⟩) s1).trans df3
    have y4 := cell_later hb2 d4
    have yf4 := (hb2.frozen (p := ⟨w.heap.size + 1, 4, none⟩) s1).trans df4
    have y5 := cell_later hb2 d5
    have yf5 := (hb2.frozen (p := ⟨w.heap.size + 1, 5, none⟩) s1).trans df5
    go_wp2
    refine bodyPost_ret (v := .agg #[.int .i64 cd, .int .i64 0, .int .i64 0, .slice none 0 0, .int .i64 0, .int .i64 0]) (by simp [results, Try.results13, go_sem, y0, y1, y2, y3, y4, y5]) rfl ⟨_, rfl, RowI.nil _ _ _ _ _, ?_⟩
    exact ((((((hb02.setCell (by simp) _).setCell (by simp) _).setCell (by simp) _).setCell (by simp) _).setCell (by simp) _).setCell (by simp) _)
  by_cases hs0 : s < 0
  · have hcu : cuCode E ms L Z s = 3 := by unfold cuCode; rw [if_neg (by simpa using hf), if_pos hs0]
    have hne : ¬ cuCode E ms L Z s = 0 := by rw [hcu]; simp
    obtain ⟨e2, e3, e4, e5⟩ := cu_bad hne
    rw [hcu, e2, e3, e4, e5]
    clear hcu hne e2 e3 e4 e5
    go_enter Try.func13, Try.ntmps13
    go_wp2_with fail
    refine (l4Fault_any w.heap.size E a n ca ms L Z _ (by simp [go_sem]) (by simp [go_sem]) (by simp [go_sem]) (by simp [go_sem]) (ha.below (B2 _ _)) (by omega)).mono ?_
    rintro e w1 ⟨rfl, hb1⟩
    have hb01 := (B2 _ _).trans (hb1.mono (by simp; omega))
    have s1 : w.heap.size + 1 < w1.heap.size := by have := hb1.size; simp at this; omega
    rw [hf]
    have d0 : w1.cell? ⟨w.heap.size + 1, 0, none⟩ = some (.int .i64 0) := cell_later hb1 (by simp [go_sem])
    have df0 : w1.frozen? ⟨w.heap.size + 1, 0, none⟩ = false := (hb1.frozen (p := ⟨w.heap.size + 1, 0, none⟩) (by first | (simp; done) | (simp; omega))).trans (by simp [go_sem])
    have d1 : w1.cell? ⟨w.heap.size + 1, 1, none⟩ = some (.int .i64 0) := cell_later hb1 (by simp [go_sem])
    have df1 : w1.frozen? ⟨w.heap.size + 1, 1, none⟩ = false := (hb1.frozen (p := ⟨w.heap.size + 1, 1, none⟩) (by first | (simp; done) | (simp; omega))).trans (by simp [go_sem])
    have d2 : w1.cell? ⟨w.heap.size + 1, 2, none⟩ = some (.int .i64 0) := cell_later hb1 (by simp [go_sem])
    have df2 : w1.frozen? ⟨w.heap.size + 1, 2, none⟩ = false := (hb1.frozen (p := ⟨w.heap.size + 1, 2, none⟩) (by first | (simp; done) | (simp; omega))).trans (by simp [go_sem])
    have d3 : w1.cell? ⟨w.heap.size + 1, 3, none⟩ = some (.slice none 0 0) := cell_later hb1 (by simp [go_sem])
    have df3 : w1.frozen? ⟨w.heap.size + 1, 3, none⟩ = false := (hb1.frozen (p := ⟨w.heap.size + 1, 3, none⟩) (by first | (simp; done) | (simp; omega))).trans (by simp [go_sem])
    have d4 : w1.cell? ⟨w.heap.size + 1, 4, none⟩ = some (.int .i64 0) := cell_later hb1 (by simp [go_sem])
    have df4 : w1.frozen? ⟨w.heap.size + 1, 4, none⟩ = false := (hb1.frozen (p := ⟨w.heap.size + 1, 4, none⟩) (by first | (simp; done) | (simp; omega))).trans (by simp [go_sem])
    have d5 : w1.cell? ⟨w.heap.size + 1, 5, none⟩ = some (.int .i64 0) := cell_later hb1 (by simp [go_sem])
    have df5 : w1.frozen? ⟨w.heap.size + 1, 5, none⟩ = false := (hb1.frozen (p := ⟨w.heap.size + 1, 5, none⟩) (by first | (simp; done) | (simp; omega))).trans (by simp [go_sem])
    go_wp2_with fail
    refine (l4Bad_any 3 _).mono ?_
    rintro e w2 ⟨rfl, hb2⟩
    have hb02 := hb01.trans (hb2.mono hb01.size)
    have y0 := cell_later hb2 d0
    have yf0 := (hb2.frozen (p := ⟨w.heap.size + 1, 0, none⟩) s1).trans df0
    have y1 := cell_later hb2 d1
    have yf1 := (hb2.frozen (p := ⟨w.heap.size + 1, 1, none⟩) s1).trans df1
    have y2 := cell_later hb2 d2
    have yf2 := (hb2.frozen (p := ⟨w.heap.size + 1, 2, none⟩) s1).trans df2
    have y3 := cell_later hb2 d3
    have yf3 := (hb2.frozen (p := ⟨w.heap.size + 1, 3, none⟩) s1).trans df3
    have y4 := cell_later hb2 d4
    have yf4 := (hb2.frozen (p := ⟨w.heap.size + 1, 4, none⟩) s1).trans df4
    have y5 := cell_later hb2 d5
    have yf5 := (hb2.frozen (p := ⟨w.heap.size + 1, 5, none⟩) s1).trans df5
    go_wp2
    refine bodyPost_ret (v := .agg #[.int .i64 3, .int .i64 0, .int .i64 0, .slice none 0 0, .int .i64 0, .int .i64 0]) (by simp [results, Try.results13, go_sem, y0, y1, y2, y3, y4, y5]) rfl ⟨_, rfl, RowI.nil _ _ _ _ _, ?_⟩
    exact ((((((hb02.setCell (by simp) _).setCell (by simp) _).setCell (by simp) _).setCell (by simp) _).setCell (by simp) _).setCell (by simp) _)
  have hcu : cuCode E ms L Z s = 0 := by unfold cuCode; rw [if_neg (by simpa using hf), if_neg hs0]
  obtain ⟨hE1, hE2, hZ1, hZ2, hL1, hL2, -, -, hms⟩ := index_ok hf
  by_cases hs : s < Z
  · obtain ⟨e2, e3, e4, e5⟩ := cu_cut hcu hs
    rw [hcu, e2, e3, e4, e5]
    clear hcu e2 e3 e4 e5
    have hkl : (ms.take (keptN s ms)).length = keptN s ms := by have := keptN_le s ms; simp; omega
    rw [hkl]
    go_enter Try.func13, Try.ntmps13
    go_wp2_with fail
    refine (l4Fault_any w.heap.size E a n ca ms L Z _ (by simp [go_sem]) (by simp [go_sem]) (by simp [go_sem]) (by simp [go_sem]) (ha.below (B2 _ _)) (by omega)).mono ?_
    rintro e w1 ⟨rfl, hb1⟩
    have hb01 := (B2 _ _).trans (hb1.mono (by simp; omega))
    have s1 : w.heap.size + 1 < w1.heap.size := by have := hb1.size; simp at this; omega
    rw [hf]
    have d0 : w1.cell? ⟨w.heap.size + 1, 0, none⟩ = some (.int .i64 0) := cell_later hb1 (by simp [go_sem])
    have df0 : w1.frozen? ⟨w.heap.size + 1, 0, none⟩ = false := (hb1.frozen (p := ⟨w.heap.size + 1, 0, none⟩) (by first | (simp; done) | (simp; omega))).trans (by simp [go_sem])
    have d1 : w1.cell? ⟨w.heap.size + 1, 1, none⟩ = some (.int .i64 0) := cell_later hb1 (by simp [go_sem])
    have df1 : w1.frozen? ⟨w.heap.size + 1, 1, none⟩ = false := (hb1.frozen (p := ⟨w.heap.size + 1, 1, none⟩) (by first | (simp; done) | (simp; omega))).trans (by simp [go_sem])
    have d2 : w1.cell? ⟨w.heap.size + 1, 2, none⟩ = some (.int .i64 0) := cell_later hb1 (by simp [go_sem])
    have df2 : w1.frozen? ⟨w.heap.size + 1, 2, none⟩ = false := (hb1.frozen (p := ⟨w.heap.size + 1, 2, none⟩) (by first | (simp; done) | (simp; omega))).trans (by simp [go_sem])
    have d3 : w1.cell? ⟨w.heap.size + 1, 3, none⟩ = some (.slice none 0 0) := cell_later hb1 (by simp [go_sem])
    have df3 : w1.frozen? ⟨w.heap.size + 1, 3, none⟩ = false := (hb1.frozen (p := ⟨w.heap.size + 1, 3, none⟩) (by first | (simp; done) | (simp; omega))).trans (by simp [go_sem])
    have d4 : w1.cell? ⟨w.heap.size + 1, 4, none⟩ = some (.int .i64 0) := cell_later hb1 (by simp [go_sem])
    have df4 : w1.frozen? ⟨w.heap.size + 1, 4, none⟩ = false := (hb1.frozen (p := ⟨w.heap.size + 1, 4, none⟩) (by first | (simp; done) | (simp; omega))).trans (by simp [go_sem])
    have d5 : w1.cell? ⟨w.heap.size + 1, 5, none⟩ = some (.int .i64 0) := cell_later hb1 (by simp [go_sem])
    have df5 : w1.frozen? ⟨w.heap.size + 1, 5, none⟩ = false := (hb1.frozen (p := ⟨w.heap.size + 1, 5, none⟩) (by first | (simp; done) | (simp; omega))).trans (by simp [go_sem])
    have x0 : w1.cell? ⟨w.heap.size, 0, none⟩ = some (.int .i64 E) := cell_later hb1 (by simp [go_sem])
    have xf0 : w1.frozen? ⟨w.heap.size, 0, none⟩ = false := (hb1.frozen (p := ⟨w.heap.size, 0, none⟩) (by first | (simp; done) | (simp; omega))).trans (by simp [go_sem])
    have x1 : w1.cell? ⟨w.heap.size, 1, none⟩ = some (.slice a n ca) := cell_later hb1 (by simp [go_sem])
    have xf1 : w1.frozen? ⟨w.heap.size, 1, none⟩ = false := (hb1.frozen (p := ⟨w.heap.size, 1, none⟩) (by first | (simp; done) | (simp; omega))).trans (by simp [go_sem])
    have x2 : w1.cell? ⟨w.heap.size, 2, none⟩ = some (.int .i64 L) := cell_later hb1 (by simp [go_sem])
    have xf2 : w1.frozen? ⟨w.heap.size, 2, none⟩ = false := (hb1.frozen (p := ⟨w.heap.size, 2, none⟩) (by first | (simp; done) | (simp; omega))).trans (by simp [go_sem])
    have x3 : w1.cell? ⟨w.heap.size, 3, none⟩ = some (.int .i64 Z) := cell_later hb1 (by simp [go_sem])
    have xf3 : w1.frozen? ⟨w.heap.size, 3, none⟩ = false := (hb1.frozen (p := ⟨w.heap.size, 3, none⟩) (by first | (simp; done) | (simp; omega))).trans (by simp [go_sem])
    go_wp2_with fail
    refine (l4Cut_cut E a n ca ms L Z s _ (ha.below hb01) hE1 hE2 (by omega) (by omega)).mono ?_
    rintro e w2 ⟨v2, rfl, ho2, hb2⟩
    have hb02 := hb01.trans (hb2.mono hb01.size)
    have y0 := cell_later hb2 d0
    have yf0 := (hb2.frozen (p := ⟨w.heap.size + 1, 0, none⟩) s1).trans df0
    have y1 := cell_later hb2 d1
    have yf1 := (hb2.frozen (p := ⟨w.heap.size + 1, 1, none⟩) s1).trans df1
    have y2 := cell_later hb2 d2
    have yf2 := (hb2.frozen (p := ⟨w.heap.size + 1, 2, none⟩) s1).trans df2
    have y3 := cell_later hb2 d3
    have yf3 := (hb2.frozen (p := ⟨w.heap.size + 1, 3, none⟩) s1).trans df3
    have y4 := cell_later hb2 d4
    have yf4 := (hb2.frozen (p := ⟨w.heap.size + 1, 4, none⟩) s1).trans df4
    have y5 := cell_later hb2 d5
    have yf5 := (hb2.frozen (p := ⟨w.heap.size + 1, 5, none⟩) s1).trans df5
    obtain ⟨a2, c2, rfl, -⟩ := ho2.rdc
    have HO2 := hid ho2
    clear ho2 hlen
    go_wp2
    refine bodyPost_ret (v := .agg #[.int .i64 0, .int .i64 0, .int .i64 E, .slice a2 (keptN s ms) c2, .int .i64 ((keptN s ms : Int) * E), .int .i64 (aheadOf ms (keptN s ms))]) (by simp [results, Try.results13, go_sem, y0, y1, y2, y3, y4, y5]) rfl ⟨_, rfl, ?_, ?_⟩
    · exact RowI.mono (RowI.of (Own.setBelow (Own.setBelow (Own.setBelow (Own.setBelow (Own.setBelow (Own.setBelow HO2.out (by simp; omega) _) (by simp; omega) _) (by simp; omega) _) (by simp; omega) _) (by simp; omega) _) (by simp; omega) _)) (by omega) (Nat.le_refl _)
    · exact ((((((hb02.setCell (by simp) _).setCell (by simp) _).setCell (by simp) _).setCell (by simp) _).setCell (by simp) _).setCell (by simp) _)
  · obtain ⟨e2, e3, e4, e5⟩ := cu_keep hcu hs
    rw [hcu, e2, e3, e4, e5]
    clear hcu e2 e3 e4 e5
    rw [hlen]
    have hs' : Z ≤ s := by omega
    go_enter Try.func13, Try.ntmps13
    go_wp2_with fail
    refine (l4Fault_any w.heap.size E a n ca ms L Z _ (by simp [go_sem]) (by simp [go_sem]) (by simp [go_sem]) (by simp [go_sem]) (ha.below (B2 _ _)) (by omega)).mono ?_
    rintro e w1 ⟨rfl, hb1⟩
    have hb01 := (B2 _ _).trans (hb1.mono (by simp; omega))
    have s1 : w.heap.size + 1 < w1.heap.size := by have := hb1.size; simp at this; omega
    rw [hf]
    have d0 : w1.cell? ⟨w.heap.size + 1, 0, none⟩ = some (.int .i64 0) := cell_later hb1 (by simp [go_sem])
    have df0 : w1.frozen? ⟨w.heap.size + 1, 0, none⟩ = false := (hb1.frozen (p := ⟨w.heap.size + 1, 0, none⟩) (by first | (simp; done) | (simp; omega))).trans (by simp [go_sem])
    have d1 : w1.cell? ⟨w.heap.size + 1, 1, none⟩ = some (.int .i64 0) := cell_later hb1 (by simp [go_sem])
    have df1 : w1.frozen? ⟨w.heap.size + 1, 1, none⟩ = false := (hb1.frozen (p := ⟨w.heap.size + 1, 1, none⟩) (by first | (simp; done) | (simp; omega))).trans (by simp [go_sem])
    have d2 : w1.cell? ⟨w.heap.size + 1, 2, none⟩ = some (.int .i64 0) := cell_later hb1 (by simp [go_sem])
    have df2 : w1.frozen? ⟨w.heap.size + 1, 2, none⟩ = false := (hb1.frozen (p := ⟨w.heap.size + 1, 2, none⟩) (by first | (simp; done) | (simp; omega))).trans (by simp [go_sem])
    have d3 : w1.cell? ⟨w.heap.size + 1, 3, none⟩ = some (.slice none 0 0) := cell_later hb1 (by simp [go_sem])
    have df3 : w1.frozen? ⟨w.heap.size + 1, 3, none⟩ = false := (hb1.frozen (p := ⟨w.heap.size + 1, 3, none⟩) (by first | (simp; done) | (simp; omega))).trans (by simp [go_sem])
    have d4 : w1.cell? ⟨w.heap.size + 1, 4, none⟩ = some (.int .i64 0) := cell_later hb1 (by simp [go_sem])
    have df4 : w1.frozen? ⟨w.heap.size + 1, 4, none⟩ = false := (hb1.frozen (p := ⟨w.heap.size + 1, 4, none⟩) (by first | (simp; done) | (simp; omega))).trans (by simp [go_sem])
    have d5 : w1.cell? ⟨w.heap.size + 1, 5, none⟩ = some (.int .i64 0) := cell_later hb1 (by simp [go_sem])
    have df5 : w1.frozen? ⟨w.heap.size + 1, 5, none⟩ = false := (hb1.frozen (p := ⟨w.heap.size + 1, 5, none⟩) (by first | (simp; done) | (simp; omega))).trans (by simp [go_sem])
    have x0 : w1.cell? ⟨w.heap.size, 0, none⟩ = some (.int .i64 E) := cell_later hb1 (by simp [go_sem])
    have xf0 : w1.frozen? ⟨w.heap.size, 0, none⟩ = false := (hb1.frozen (p := ⟨w.heap.size, 0, none⟩) (by first | (simp; done) | (simp; omega))).trans (by simp [go_sem])
    have x1 : w1.cell? ⟨w.heap.size, 1, none⟩ = some (.slice a n ca) := cell_later hb1 (by simp [go_sem])
    have xf1 : w1.frozen? ⟨w.heap.size, 1, none⟩ = false := (hb1.frozen (p := ⟨w.heap.size, 1, none⟩) (by first | (simp; done) | (simp; omega))).trans (by simp [go_sem])
    have x2 : w1.cell? ⟨w.heap.size, 2, none⟩ = some (.int .i64 L) := cell_later hb1 (by simp [go_sem])
    have xf2 : w1.frozen? ⟨w.heap.size, 2, none⟩ = false := (hb1.frozen (p := ⟨w.heap.size, 2, none⟩) (by first | (simp; done) | (simp; omega))).trans (by simp [go_sem])
    have x3 : w1.cell? ⟨w.heap.size, 3, none⟩ = some (.int .i64 Z) := cell_later hb1 (by simp [go_sem])
    have xf3 : w1.frozen? ⟨w.heap.size, 3, none⟩ = false := (hb1.frozen (p := ⟨w.heap.size, 3, none⟩) (by first | (simp; done) | (simp; omega))).trans (by simp [go_sem])
    go_wp2_with fail
    refine (l4Cut_keep E a n ca ms L Z s _ (ha.below hb01) hE1 hE2 (by omega) (by omega)).mono ?_
    rintro e w2 ⟨v2, rfl, ho2, hb2⟩
    have hb02 := hb01.trans (hb2.mono hb01.size)
    have y0 := cell_later hb2 d0
    have yf0 := (hb2.frozen (p := ⟨w.heap.size + 1, 0, none⟩) s1).trans df0
    have y1 := cell_later hb2 d1
    have yf1 := (hb2.frozen (p := ⟨w.heap.size + 1, 1, none⟩) s1).trans df1
    have y2 := cell_later hb2 d2
    have yf2 := (hb2.frozen (p := ⟨w.heap.size + 1, 2, none⟩) s1).trans df2
    have y3 := cell_later hb2 d3
    have yf3 := (hb2.frozen (p := ⟨w.heap.size + 1, 3, none⟩) s1).trans df3
    have y4 := cell_later hb2 d4
    have yf4 := (hb2.frozen (p := ⟨w.heap.size + 1, 4, none⟩) s1).trans df4
    have y5 := cell_later hb2 d5
    have yf5 := (hb2.frozen (p := ⟨w.heap.size + 1, 5, none⟩) s1).trans df5
    obtain ⟨a2, c2, rfl, -⟩ := ho2.rdc
    have HO2 := hid ho2
    clear ho2 hlen
    go_wp2
    refine bodyPost_ret (v := .agg #[.int .i64 0, .int .i64 0, .int .i64 E, .slice a2 n c2, .int .i64 L, .int .i64 Z]) (by simp [results, Try.results13, go_sem, y0, y1, y2, y3, y4, y5]) rfl ⟨_, rfl, ?_, ?_⟩
    · exact RowI.mono (RowI.of (Own.setBelow (Own.setBelow (Own.setBelow (Own.setBelow (Own.setBelow (Own.setBelow HO2.out (by simp; omega) _) (by simp; omega) _) (by simp; omega) _) (by simp; omega) _) (by simp; omega) _) (by simp; omega) _)) (by omega) (Nat.le_refl _)
    · exact ((((((hb02.setCell (by simp) _).setCell (by simp) _).setCell (by simp) _).setCell (by simp) _).setCell (by simp) _).setCell (by simp) _)

set_option maxHeartbeats 1600000 in
theorem implCutIndex_any (E : Int) (a : Option Addr) (n ca : Nat) (ms : List Int) (L Z s : Int) (w : World) (ha : Rd .i64 w a n ms) (h1 : n ≤ 1048576) (hca : n ≤ ca) (hcx : ca ≤ maxLen) :
    Calls Try.prog 12 #[.agg #[.int .i64 E, .slice a n ca, .int .i64 L, .int .i64 Z], .int .i64 s] w fun e w' => ∃ v, e = .returned (.agg #[.int .i64 (cuCode E ms L Z s), .int .i64 0, .int .i64 (cuE E ms L Z s), v, .int .i64 (cuL E ms L Z s), .int .i64 (cuZ E ms L Z s)]) ∧ RowI .i64 2 w' w.heap.size w'.heap.size v (cuM E ms L Z s).length (cuM E ms L Z s) ∧ Below w.heap.size w w' := by
  have HCX := hid hcx
  clear hcx
  have hlen := ha.1
  have B2 : ∀ o1 o2, Below w.heap.size w ((w.alloc o1).alloc o2) := fun o1 o2 => ((Below.refl _ _).alloc (Nat.le_refl _) o1).alloc (by simp) o2
  by_cases hf : indexFault E ms L Z = 0
  rotate_left
  · have hcu : cuCode E ms L Z s = indexFault E ms L Z := by unfold cuCode; rw [if_pos hf]
    have hne : ¬ cuCode E ms L Z s = 0 := by rw [hcu]; exact hf
    obtain ⟨e2, e3, e4, e5⟩ := cu_bad hne
    rw [hcu, e2, e3, e4, e5]
    clear hcu hne e2 e3 e4 e5
    generalize hcd : indexFault E ms L Z = cd at *
    have HCD := hid hcd
    clear hcd
    go_enter Try.func12, Try.ntmps12
    go_wp2_with fail
    refine (implIndexFault_any E a n ca ms L Z _ (ha.below (B2 _ _)) (by omega)).mono ?_
    rintro e w1 ⟨rfl, hb1⟩
    have hb01 := (B2 _ _).trans (hb1.mono (by simp; omega))
    have s1 : w.heap.size + 1 < w1.heap.size := by have := hb1.size; simp at this; omega
    rw [HCD.out]
    have d0 : w1.cell? ⟨w.heap.size + 1, 0, none⟩ = some (.int .i64 0) := cell_later hb1 (by simp [go_sem])
    have df0 : w1.frozen? ⟨w.heap.size + 1, 0, none⟩ = false := (hb1.frozen (p := ⟨w.heap.size + 1, 0, none⟩) (by first | (simp; done) | (simp; omega))).trans (by simp [go_sem])
    have d1 : w1.cell? ⟨w.heap.size + 1, 1, none⟩ = some (.int .i64 0) := cell_later hb1 (by simp [go_sem])
    have df1 : w1.frozen? ⟨w.heap.size + 1, 1, none⟩ = false := (hb1.frozen (p := ⟨w.heap.size + 1, 1, none⟩) (by first | (simp; done) | (simp; omega))).trans (by simp [go_sem])
    have d2 : w1.cell? ⟨w.heap.size + 1, 2, none⟩ = some (.int .i64 0) := cell_later hb1 (by simp [go_sem])
    have df2 : w1.frozen? ⟨w.heap.size + 1, 2, none⟩ = false := (hb1.frozen (p := ⟨w.heap.size + 1, 2, none⟩) (by first | (simp; done) | (simp; omega))).trans (by simp [go_sem])
    have d3 : w1.cell? ⟨w.heap.size + 1, 3, none⟩ = some (.slice none 0 0) := cell_later hb1 (by simp [go_sem])
    have df3 : w1.frozen? ⟨w.heap.size + 1, 3, none⟩ = false := (hb1.frozen (p := ⟨w.heap.size + 1, 3, none⟩) (by first | (simp; done) | (simp; omega))).trans (by simp [go_sem])
    have d4 : w1.cell? ⟨w.heap.size + 1, 4, none⟩ = some (.int .i64 0) := cell_later hb1 (by simp [go_sem])
    have df4 : w1.frozen? ⟨w.heap.size + 1, 4, none⟩ = false := (hb1.frozen (p := ⟨w.heap.size + 1, 4, none⟩) (by first | (simp; done) | (simp; omega))).trans (by simp [go_sem])
    have d5 : w1.cell? ⟨w.heap.size + 1, 5, none⟩ = some (.int .i64 0) := cell_later hb1 (by simp [go_sem])
    have df5 : w1.frozen? ⟨w.heap.size + 1, 5, none⟩ = false := (hb1.frozen (p := ⟨w.heap.size + 1, 5, none⟩) (by first | (simp; done) | (simp; omega))).trans (by simp [go_sem])
    go_wp2
    refine bodyPost_ret (v := .agg #[.int .i64 cd, .int .i64 0, .int .i64 0, .slice none 0 0, .int .i64 0, .int .i64 0]) (by simp [results, Try.results12, go_sem, d0, d1, d2, d3, d4, d5]) rfl ⟨_, rfl, RowI.nil _ _ _ _ _, ?_⟩
    exact ((((((hb01.setCell (by simp) _).setCell (by simp) _).setCell (by simp) _).setCell (by simp) _).setCell (by simp) _).setCell (by simp) _)
  by_cases hs0 : s < 0
  · have hcu : cuCode E ms L Z s = 3 := by unfold cuCode; rw [if_neg (by simpa using hf), if_pos hs0]
    have hne : ¬ cuCode E ms L Z s = 0 := by rw [hcu]; simp
    obtain ⟨e2, e3, e4, e5⟩ := cu_bad hne
    rw [hcu, e2, e3, e4, e5]
    clear hcu hne e2 e3 e4 e5
    go_enter Try.func12, Try.ntmps12
    go_wp2_with fail
    refine (implIndexFault_any E a n ca ms L Z _ (ha.below (B2 _ _)) (by omega)).mono ?_
    rintro e w1 ⟨rfl, hb1⟩
    have hb01 := (B2 _ _).trans (hb1.mono (by simp; omega))
    have s1 : w.heap.size + 1 < w1.heap.size := by have := hb1.size; simp at this; omega
    rw [hf]
    have d0 : w1.cell? ⟨w.heap.size + 1, 0, none⟩ = some (.int .i64 0) := cell_later hb1 (by simp [go_sem])
    have df0 : w1.frozen? ⟨w.heap.size + 1, 0, none⟩ = false := (hb1.frozen (p := ⟨w.heap.size + 1, 0, none⟩) (by first | (simp; done) | (simp; omega))).trans (by simp [go_sem])
    have d1 : w1.cell? ⟨w.heap.size + 1, 1, none⟩ = some (.int .i64 0) := cell_later hb1 (by simp [go_sem])
    have df1 : w1.frozen? ⟨w.heap.size + 1, 1, none⟩ = false := (hb1.frozen (p := ⟨w.heap.size + 1, 1, none⟩) (by first | (simp; done) | (simp; omega))).trans (by simp [go_sem])
    have d2 : w1.cell? ⟨w.heap.size + 1, 2, none⟩ = some (.int .i64 0) := cell_later hb1 (by simp [go_sem])
    have df2 : w1.frozen? ⟨w.heap.size + 1, 2, none⟩ = false := (hb1.frozen (p := ⟨w.heap.size + 1, 2, none⟩) (by first | (simp; done) | (simp; omega))).trans (by simp [go_sem])
    have d3 : w1.cell? ⟨w.heap.size + 1, 3, none⟩ = some (.slice none 0 0) := cell_later hb1 (by simp [go_sem])
    have df3 : w1.frozen? ⟨w.heap.size + 1, 3, none⟩ = false := (hb1.frozen (p := ⟨w.heap.size + 1, 3, none⟩) (by first | (simp; done) | (simp; omega))).trans (by simp [go_sem])
    have d4 : w1.cell? ⟨w.heap.size + 1, 4, none⟩ = some (.int .i64 0) := cell_later hb1 (by simp [go_sem])
    have df4 : w1.frozen? ⟨w.heap.size + 1, 4, none⟩ = false := (hb1.frozen (p := ⟨w.heap.size + 1, 4, none⟩) (by first | (simp; done) | (simp; omega))).trans (by simp [go_sem])
    have d5 : w1.cell? ⟨w.heap.size + 1, 5, none⟩ = some (.int .i64 0) := cell_later hb1 (by simp [go_sem])
    have df5 : w1.frozen? ⟨w.heap.size + 1, 5, none⟩ = false := (hb1.frozen (p := ⟨w.heap.size + 1, 5, none⟩) (by first | (simp; done) | (simp; omega))).trans (by simp [go_sem])
    go_wp2
    refine bodyPost_ret (v := .agg #[.int .i64 3, .int .i64 0, .int .i64 0, .slice none 0 0, .int .i64 0, .int .i64 0]) (by simp [results, Try.results12, go_sem, d0, d1, d2, d3, d4, d5]) rfl ⟨_, rfl, RowI.nil _ _ _ _ _, ?_⟩
    exact ((((((hb01.setCell (by simp) _).setCell (by simp) _).setCell (by simp) _).setCell (by simp) _).setCell (by simp) _).setCell (by simp) _)
  have hcu : cuCode E ms L Z s = 0 := by unfold cuCode; rw [if_neg (by simpa using hf), if_neg hs0]
  obtain ⟨hE1, hE2, hZ1, hZ2, hL1, hL2, -, -, hms⟩ := index_ok hf
  by_cases hs : s < Z
  · obtain ⟨e2, e3, e4, e5⟩ := cu_cut hcu hs
    rw [hcu, e2, e3, e4, e5]
    clear hcu e2 e3 e4 e5
    have hkl : (ms.take (keptN s ms)).length = keptN s ms := by have := keptN_le s ms; simp; omega
    rw [hkl]
    go_enter Try.func12, Try.ntmps12
    go_wp2_with fail
    refine (implIndexFault_any E a n ca ms L Z _ (ha.below (B2 _ _)) (by omega)).mono ?_
    rintro e w1 ⟨rfl, hb1⟩
    have hb01 := (B2 _ _).trans (hb1.mono (by simp; omega))
    have s1 : w.heap.size + 1 < w1.heap.size := by have := hb1.size; simp at this; omega
    rw [hf]
    have d0 : w1.cell? ⟨w.heap.size + 1, 0, none⟩ = some (.int .i64 0) := cell_later hb1 (by simp [go_sem])
    have df0 : w1.frozen? ⟨w.heap.size + 1, 0, none⟩ = false := (hb1.frozen (p := ⟨w.heap.size + 1, 0, none⟩) (by first | (simp; done) | (simp; omega))).trans (by simp [go_sem])
    have d1 : w1.cell? ⟨w.heap.size + 1, 1, none⟩ = some (.int .i64 0) := cell_later hb1 (by simp [go_sem])
    have df1 : w1.frozen? ⟨w.heap.size + 1, 1, none⟩ = false := (hb1.frozen (p := ⟨w.heap.size + 1, 1, none⟩) (by first | (simp; done) | (simp; omega))).trans (by simp [go_sem])
    have d2 : w1.cell? ⟨w.heap.size + 1, 2, none⟩ = some (.int .i64 0) := cell_later hb1 (by simp [go_sem])
    have df2 : w1.frozen? ⟨w.heap.size + 1, 2, none⟩ = false := (hb1.frozen (p := ⟨w.heap.size + 1, 2, none⟩) (by first | (simp; done) | (simp; omega))).trans (by simp [go_sem])
    have d3 : w1.cell? ⟨w.heap.size + 1, 3, none⟩ = some (.slice none 0 0) := cell_later hb1 (by simp [go_sem])
    have df3 : w1.frozen? ⟨w.heap.size + 1, 3, none⟩ = false := (hb1.frozen (p := ⟨w.heap.size + 1, 3, none⟩) (by first | (simp; done) | (simp; omega))).trans (by simp [go_sem])
    have d4 : w1.cell? ⟨w.heap.size + 1, 4, none⟩ = some (.int .i64 0) := cell_later hb1 (by simp [go_sem])
    have df4 : w1.frozen? ⟨w.heap.size + 1, 4, none⟩ = false := (hb1.frozen (p := ⟨w.heap.size + 1, 4, none⟩) (by first | (simp; done) | (simp; omega))).trans (by simp [go_sem])
    have d5 : w1.cell? ⟨w.heap.size + 1, 5, none⟩ = some (.int .i64 0) := cell_later hb1 (by simp [go_sem])
    have df5 : w1.frozen? ⟨w.heap.size + 1, 5, none⟩ = false := (hb1.frozen (p := ⟨w.heap.size + 1, 5, none⟩) (by first | (simp; done) | (simp; omega))).trans (by simp [go_sem])
    have x0 : w1.cell? ⟨w.heap.size, 0, none⟩ = some (.int .i64 E) := cell_later hb1 (by simp [go_sem])
    have xf0 : w1.frozen? ⟨w.heap.size, 0, none⟩ = false := (hb1.frozen (p := ⟨w.heap.size, 0, none⟩) (by first | (simp; done) | (simp; omega))).trans (by simp [go_sem])
    have x1 : w1.cell? ⟨w.heap.size, 1, none⟩ = some (.slice a n ca) := cell_later hb1 (by simp [go_sem])
    have xf1 : w1.frozen? ⟨w.heap.size, 1, none⟩ = false := (hb1.frozen (p := ⟨w.heap.size, 1, none⟩) (by first | (simp; done) | (simp; omega))).trans (by simp [go_sem])
    have x2 : w1.cell? ⟨w.heap.size, 2, none⟩ = some (.int .i64 L) := cell_later hb1 (by simp [go_sem])
    have xf2 : w1.frozen? ⟨w.heap.size, 2, none⟩ = false := (hb1.frozen (p := ⟨w.heap.size, 2, none⟩) (by first | (simp; done) | (simp; omega))).trans (by simp [go_sem])
    have x3 : w1.cell? ⟨w.heap.size, 3, none⟩ = some (.int .i64 Z) := cell_later hb1 (by simp [go_sem])
    have xf3 : w1.frozen? ⟨w.heap.size, 3, none⟩ = false := (hb1.frozen (p := ⟨w.heap.size, 3, none⟩) (by first | (simp; done) | (simp; omega))).trans (by simp [go_sem])
    go_wp2_with fail
    refine (ownIndex_any E a n ca ms L Z _ (ha.below hb01) h1).mono ?_
    rintro e w2 ⟨q, v2, rfl, hbl, ho2, hb2, hq⟩
    have hb02 := hb01.trans (hb2.mono hb01.size)
    have x3' := cell_later hb2 x3
    obtain ⟨a2, c2, rfl, -⟩ := ho2.rdc
    have HBL := hid hbl
    have HO2 := hid ho2
    clear hbl ho2
    go_wp2_with fail
    refine (forget_any q w1.heap.size E L Z s a2 n c2 ms w1 w2 HBL.out HO2.out hb2 hq hE1 hE2 (by omega)).mono ?_
    rintro e w3 ⟨r, rfl, hbl, ho3, hb3⟩
    have hb03 := hb01.trans (hb3.mono hb01.size)
    have y0 := cell_later hb3 d0
    have yf0 := (hb3.frozen (p := ⟨w.heap.size + 1, 0, none⟩) s1).trans df0
    have y1 := cell_later hb3 d1
    have yf1 := (hb3.frozen (p := ⟨w.heap.size + 1, 1, none⟩) s1).trans df1
    have y2 := cell_later hb3 d2
    have yf2 := (hb3.frozen (p := ⟨w.heap.size + 1, 2, none⟩) s1).trans df2
    have y3 := cell_later hb3 d3
    have yf3 := (hb3.frozen (p := ⟨w.heap.size + 1, 3, none⟩) s1).trans df3
    have y4 := cell_later hb3 d4
    have yf4 := (hb3.frozen (p := ⟨w.heap.size + 1, 4, none⟩) s1).trans df4
    have y5 := cell_later hb3 d5
    have yf5 := (hb3.frozen (p := ⟨w.heap.size + 1, 5, none⟩) s1).trans df5
    have q0 := hbl.cell 0
    have q1 := hbl.cell 1
    have q2 := hbl.cell 2
    have q3 := hbl.cell 3
    simp at q0 q1 q2 q3
    have HO3 := hid ho3
    have hqne : q ≠ w.heap.size + 1 := by omega
    clear hbl ho3 hlen
    go_wp2
    refine bodyPost_ret (v := .agg #[.int .i64 0, .int .i64 0, .int .i64 E, .slice a2 (keptN s ms) c2, .int .i64 ((keptN s ms : Int) * E), .int .i64 (aheadOf ms (keptN s ms))]) (by simp [results, Try.results12, go_sem, y0, y1, y2, y3, y4, y5]) rfl ⟨_, rfl, ?_, ?_⟩
    · exact RowI.mono (RowI.of (Own.setBelow (Own.setBelow (Own.setBelow (Own.setBelow (Own.setBelow (Own.setBelow HO3.out (by simp; omega) _) (by simp; omega) _) (by simp; omega) _) (by simp; omega) _) (by simp; omega) _) (by simp; omega) _)) (by omega) (Nat.le_refl _)
    · exact ((((((hb03.setCell (by simp) _).setCell (by simp) _).setCell (by simp) _).setCell (by simp) _).setCell (by simp) _).setCell (by simp) _)
  · obtain ⟨e2, e3, e4, e5⟩ := cu_keep hcu hs
    rw [hcu, e2, e3, e4, e5]
    clear hcu e2 e3 e4 e5
    rw [hlen]
    have hs' : Z ≤ s := by omega
    go_enter Try.func12, Try.ntmps12
    go_wp2_with fail
    refine (implIndexFault_any E a n ca ms L Z _ (ha.below (B2 _ _)) (by omega)).mono ?_
    rintro e w1 ⟨rfl, hb1⟩
    have hb01 := (B2 _ _).trans (hb1.mono (by simp; omega))
    have s1 : w.heap.size + 1 < w1.heap.size := by have := hb1.size; simp at this; omega
    rw [hf]
    have d0 : w1.cell? ⟨w.heap.size + 1, 0, none⟩ = some (.int .i64 0) := cell_later hb1 (by simp [go_sem])
    have df0 : w1.frozen? ⟨w.heap.size + 1, 0, none⟩ = false := (hb1.frozen (p := ⟨w.heap.size + 1, 0, none⟩) (by first | (simp; done) | (simp; omega))).trans (by simp [go_sem])
    have d1 : w1.cell? ⟨w.heap.size + 1, 1, none⟩ = some (.int .i64 0) := cell_later hb1 (by simp [go_sem])
    have df1 : w1.frozen? ⟨w.heap.size + 1, 1, none⟩ = false := (hb1.frozen (p := ⟨w.heap.size + 1, 1, none⟩) (by first | (simp; done) | (simp; omega))).trans (by simp [go_sem])
    have d2 : w1.cell? ⟨w.heap.size + 1, 2, none⟩ = some (.int .i64 0) := cell_later hb1 (by simp [go_sem])
    have df2 : w1.frozen? ⟨w.heap.size + 1, 2, none⟩ = false := (hb1.frozen (p := ⟨w.heap.size + 1, 2, none⟩) (by first | (simp; done) | (simp; omega))).trans (by simp [go_sem])
    have d3 : w1.cell? ⟨w.heap.size + 1, 3, none⟩ = some (.slice none 0 0) := cell_later hb1 (by simp [go_sem])
    have df3 : w1.frozen? ⟨w.heap.size + 1, 3, none⟩ = false := (hb1.frozen (p := ⟨w.heap.size + 1, 3, none⟩) (by first | (simp; done) | (simp; omega))).trans (by simp [go_sem])
    have d4 : w1.cell? ⟨w.heap.size + 1, 4, none⟩ = some (.int .i64 0) := cell_later hb1 (by simp [go_sem])
    have df4 : w1.frozen? ⟨w.heap.size + 1, 4, none⟩ = false := (hb1.frozen (p := ⟨w.heap.size + 1, 4, none⟩) (by first | (simp; done) | (simp; omega))).trans (by simp [go_sem])
    have d5 : w1.cell? ⟨w.heap.size + 1, 5, none⟩ = some (.int .i64 0) := cell_later hb1 (by simp [go_sem])
    have df5 : w1.frozen? ⟨w.heap.size + 1, 5, none⟩ = false := (hb1.frozen (p := ⟨w.heap.size + 1, 5, none⟩) (by first | (simp; done) | (simp; omega))).trans (by simp [go_sem])
    have x0 : w1.cell? ⟨w.heap.size, 0, none⟩ = some (.int .i64 E) := cell_later hb1 (by simp [go_sem])
    have xf0 : w1.frozen? ⟨w.heap.size, 0, none⟩ = false := (hb1.frozen (p := ⟨w.heap.size, 0, none⟩) (by first | (simp; done) | (simp; omega))).trans (by simp [go_sem])
    have x1 : w1.cell? ⟨w.heap.size, 1, none⟩ = some (.slice a n ca) := cell_later hb1 (by simp [go_sem])
    have xf1 : w1.frozen? ⟨w.heap.size, 1, none⟩ = false := (hb1.frozen (p := ⟨w.heap.size, 1, none⟩) (by first | (simp; done) | (simp; omega))).trans (by simp [go_sem])
    have x2 : w1.cell? ⟨w.heap.size, 2, none⟩ = some (.int .i64 L) := cell_later hb1 (by simp [go_sem])
    have xf2 : w1.frozen? ⟨w.heap.size, 2, none⟩ = false := (hb1.frozen (p := ⟨w.heap.size, 2, none⟩) (by first | (simp; done) | (simp; omega))).trans (by simp [go_sem])
    have x3 : w1.cell? ⟨w.heap.size, 3, none⟩ = some (.int .i64 Z) := cell_later hb1 (by simp [go_sem])
    have xf3 : w1.frozen? ⟨w.heap.size, 3, none⟩ = false := (hb1.frozen (p := ⟨w.heap.size, 3, none⟩) (by first | (simp; done) | (simp; omega))).trans (by simp [go_sem])
    go_wp2_with fail
    refine (ownIndex_any E a n ca ms L Z _ (ha.below hb01) h1).mono ?_
    rintro e w2 ⟨q, v2, rfl, hbl, ho2, hb2, hq⟩
    have hb02 := hb01.trans (hb2.mono hb01.size)
    have x3' := cell_later hb2 x3
    obtain ⟨a2, c2, rfl, -⟩ := ho2.rdc
    have y0 := cell_later hb2 d0
    have yf0 := (hb2.frozen (p := ⟨w.heap.size + 1, 0, none⟩) s1).trans df0
    have y1 := cell_later hb2 d1
    have yf1 := (hb2.frozen (p := ⟨w.heap.size + 1, 1, none⟩) s1).trans df1
    have y2 := cell_later hb2 d2
    have yf2 := (hb2.frozen (p := ⟨w.heap.size + 1, 2, none⟩) s1).trans df2
    have y3 := cell_later hb2 d3
    have yf3 := (hb2.frozen (p := ⟨w.heap.size + 1, 3, none⟩) s1).trans df3
    have y4 := cell_later hb2 d4
    have yf4 := (hb2.frozen (p := ⟨w.heap.size + 1, 4, none⟩) s1).trans df4
    have y5 := cell_later hb2 d5
    have yf5 := (hb2.frozen (p := ⟨w.heap.size + 1, 5, none⟩) s1).trans df5
    have q0 := hbl.cell 0
    have q1 := hbl.cell 1
    have q2 := hbl.cell 2
    have q3 := hbl.cell 3
    simp at q0 q1 q2 q3
    have HO2 := hid ho2
    have hqne : q ≠ w.heap.size + 1 := by omega
    clear hbl ho2 hlen
    go_wp2
    refine bodyPost_ret (v := .agg #[.int .i64 0, .int .i64 0, .int .i64 E, .slice a2 n c2, .int .i64 L, .int .i64 Z]) (by simp [results, Try.results12, go_sem, y0, y1, y2, y3, y4, y5]) rfl ⟨_, rfl, ?_, ?_⟩
    · exact RowI.mono (RowI.of (Own.setBelow (Own.setBelow (Own.setBelow (Own.setBelow (Own.setBelow (Own.setBelow HO2.out (by simp; omega) _) (by simp; omega) _) (by simp; omega) _) (by simp; omega) _) (by simp; omega) _) (by simp; omega) _)) (by omega) (Nat.le_refl _)
    · exact ((((((hb02.setCell (by simp) _).setCell (by simp) _).setCell (by simp) _).setCell (by simp) _).setCell (by simp) _).setCell (by simp) _)
end Go.Proofs.Ythdglflipeggpaa
