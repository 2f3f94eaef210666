/-
  Chapter 5: PatternText, of the program.
-/
import Derived.Test.YtjjapnggdfiinaaNode8e
import Derived.Test.YtjjapnggdfiinaaNode8f
namespace Go.Proofs.Ytjjapnggdfiinaa
open Go.RowKit
set_option linter.unusedVariables false
set_option linter.unusedSimpArgs false

set_option maxHeartbeats 1600000 in
set_option maxRecDepth 20000 in
theorem implPatternText_any (a : Option Addr) (n ca : Nat) (cs : List Nd) (w : World) (ha : RdR ndE 5 w a n cs) (hs : ndSum cs ≤ 1048576) (h1 : n ≤ 1048576) :
    Calls Try.prog 14 #[.slice a n ca] w fun e w' => e = .returned (.agg #[.int .i64 (ptCode cs), .string (ptText cs)]) ∧ Below w.heap.size w w' := by
  have hF : Hid _ := fun w' ha' => implNodesFault_any a n ca cs w' ha' hs h1
  have B1 : ∀ o, Below w.heap.size w (w.alloc o) := fun o => (Below.refl _ _).alloc (Nat.le_refl _) o
  by_cases h0 : nodesFault cs = 0
  case neg =>
    obtain ⟨e1, e2⟩ := pt_bad h0
    rw [e1, e2]
    generalize nodesFault cs = F at h0 hF
    have h0' : (F == 0) = false := by simpa using h0
    clear e1 e2
    go_enter Try.func14, Try.ntmps14
    go_wp2_with fail
    refine (hF.out _ (ha.below (B1 _))).mono ?_
    rintro e w1 ⟨rfl, hb1⟩
    have d0 : w1.cell? ⟨w.heap.size, 0, none⟩ = some (.int .i64 0) := cell_later hb1 (by simp [go_sem])
    have df0 : w1.frozen? ⟨w.heap.size, 0, none⟩ = false := (hb1.frozen (p := ⟨w.heap.size, 0, none⟩) (by first | (simp; done) | (simp; omega))).trans (by simp [go_sem])
    have d1 : w1.cell? ⟨w.heap.size, 1, none⟩ = some (.string ⟨#[]⟩) := cell_later hb1 (by simp [go_sem])
    have df1 : w1.frozen? ⟨w.heap.size, 1, none⟩ = false := (hb1.frozen (p := ⟨w.heap.size, 1, none⟩) (by first | (simp; done) | (simp; omega))).trans (by simp [go_sem])
    go_wp2
    exact bodyPost_ret (v := .agg #[.int .i64 F, .string ⟨#[]⟩]) (by simp [results, Try.results14, go_sem, d0, d1, df0, df1]) rfl ⟨rfl, ((below_slot hb1).setCell (Nat.le_refl _) _).setCell (Nat.le_refl _) _⟩
  obtain ⟨g1, g2, bs, hb, _⟩ := fault0 h0
  have hlen := ha.1
  have hT : Hid _ := fun w' ha' => textOfTree_any a n ca cs bs hb hlen (by omega) (n - 1) (by omega) w' ha'
  rw [show ((n - 1 : Nat) : Int) = (n : Int) - 1 by omega] at hT
  have hz := pow_bd (by omega) (txtV_size hb (cs.length - 1) (by omega))
  have hm := pt_many h0
  have hg := pt_good h0
  rw [hlen] at hm hg hz
  rw [h0] at hF
  obtain ⟨T, hTT⟩ : ∃ T, T = (txtV cs (n - 1)).1 := ⟨_, rfl⟩
  rw [← hTT] at hm hg hz hT
  have hn1 : 1 ≤ n := by omega
  clear hTT hb g1 g2 hlen h0
  by_cases h60 : 60 < T.size
  · obtain ⟨e1, e2⟩ := hm h60
    rw [e1, e2]
    clear hm hg e1 e2
    have h60' : (60 : Int) < (T.size : Int) := by omega
    go_enter Try.func14, Try.ntmps14
    go_wp2_with fail
    refine (hF.out _ (ha.below (B1 _))).mono ?_
    rintro e w1 ⟨rfl, hb1⟩
    have d0 : w1.cell? ⟨w.heap.size, 0, none⟩ = some (.int .i64 0) := cell_later hb1 (by simp [go_sem])
    have df0 : w1.frozen? ⟨w.heap.size, 0, none⟩ = false := (hb1.frozen (p := ⟨w.heap.size, 0, none⟩) (by first | (simp; done) | (simp; omega))).trans (by simp [go_sem])
    have d1 : w1.cell? ⟨w.heap.size, 1, none⟩ = some (.string ⟨#[]⟩) := cell_later hb1 (by simp [go_sem])
    have df1 : w1.frozen? ⟨w.heap.size, 1, none⟩ = false := (hb1.frozen (p := ⟨w.heap.size, 1, none⟩) (by first | (simp; done) | (simp; omega))).trans (by simp [go_sem])
    have hz1 : w.heap.size < w1.heap.size := by have := hb1.size; simp at this; omega
    have hb01 := below_slot hb1
    clear hb1
    go_wp2_with fail
    refine (hT.out _ (ha.below hb01)).mono ?_
    rintro e w2 ⟨rfl, hb2⟩
    replace d0 := cell_later hb2 d0
    replace d1 := cell_later hb2 d1
    replace df0 := (hb2.frozen (p := ⟨w.heap.size, 0, none⟩) hz1).trans df0
    replace df1 := (hb2.frozen (p := ⟨w.heap.size, 1, none⟩) hz1).trans df1
    have hb02 := hb01.trans (hb2.mono hb01.size)
    go_wp2
    exact bodyPost_ret (v := .agg #[.int .i64 2, .string ⟨#[]⟩]) (by simp [results, Try.results14, go_sem, d0, d1, df0, df1]) rfl ⟨rfl, (hb02.setCell (Nat.le_refl _) _).setCell (Nat.le_refl _) _⟩
  · obtain ⟨e1, e2⟩ := hg h60
    rw [e1, e2]
    clear hm hg e1 e2
    have h60' : ¬ (60 : Int) < (T.size : Int) := by omega
    go_enter Try.func14, Try.ntmps14
    go_wp2_with fail
    refine (hF.out _ (ha.below (B1 _))).mono ?_
    rintro e w1 ⟨rfl, hb1⟩
    have d0 : w1.cell? ⟨w.heap.size, 0, none⟩ = some (.int .i64 0) := cell_later hb1 (by simp [go_sem])
    have df0 : w1.frozen? ⟨w.heap.size, 0, none⟩ = false := (hb1.frozen (p := ⟨w.heap.size, 0, none⟩) (by first | (simp; done) | (simp; omega))).trans (by simp [go_sem])
    have d1 : w1.cell? ⟨w.heap.size, 1, none⟩ = some (.string ⟨#[]⟩) := cell_later hb1 (by simp [go_sem])
    have df1 : w1.frozen? ⟨w.heap.size, 1, none⟩ = false := (hb1.frozen (p := ⟨w.heap.size, 1, none⟩) (by first | (simp; done) | (simp; omega))).trans (by simp [go_sem])
    have hz1 : w.heap.size < w1.heap.size := by have := hb1.size; simp at this; omega
    have hb01 := below_slot hb1
    clear hb1
    go_wp2_with fail
    refine (hT.out _ (ha.below hb01)).mono ?_
    rintro e w2 ⟨rfl, hb2⟩
    replace d0 := cell_later hb2 d0
    replace d1 := cell_later hb2 d1
    replace df0 := (hb2.frozen (p := ⟨w.heap.size, 0, none⟩) hz1).trans df0
    replace df1 := (hb2.frozen (p := ⟨w.heap.size, 1, none⟩) hz1).trans df1
    have hb02 := hb01.trans (hb2.mono hb01.size)
    go_wp2
    exact bodyPost_ret (v := .agg #[.int .i64 0, .string T]) (by simp [results, Try.results14, go_sem, d0, d1, df0, df1]) rfl ⟨rfl, (hb02.setCell (Nat.le_refl _) _).setCell (Nat.le_refl _) _⟩
end Go.Proofs.Ytjjapnggdfiinaa
