/-
  An index that is cut: what FnCuts asks, in plain mathematics. It speaks of no program.
-/
import Derived.Test.YthdglflipeggpaaCutM
namespace Go.Proofs.Ythdglflipeggpaa
open Go.RowKit
set_option linter.unusedVariables false

theorem cu_fault {E L Z s : Int} {ms : List Int} (h : cuCode E ms L Z s = 0) : indexFault (cuE E ms L Z s) (cuM E ms L Z s) (cuL E ms L Z s) (cuZ E ms L Z s) = 0 := by
  obtain ⟨h1, h2⟩ := cu_zero h
  by_cases hs : s < Z
  · obtain ⟨e1, e2, e3, e4⟩ := cu_cut h hs
    rw [e1, e2, e3, e4]
    exact (cut_ok h1 (by omega) hs).1
  · obtain ⟨e1, e2, e3, e4⟩ := cu_keep h hs
    rw [e1, e2, e3, e4]
    exact h1

theorem true_of {E L Z : Int} {ms xs : List Int} (h1 : indexFault E ms L Z = 0) (h2 : xs.length ≤ 400) (h3 : Z ≤ (xs.length : Int)) (hN : hearN 0 (xs.take Z.toNat) = L) (hM : hearM E 0 0 (xs.take Z.toNat) = ms) : indexTrue E ms L Z xs = true := by
  unfold indexTrue
  rw [heardF_good h1 (by unfold fFault; rw [if_neg (by omega)]) (by omega)]
  simp [hN, hM]

theorem of_true {E L Z : Int} {ms xs : List Int} (h : indexTrue E ms L Z xs = true) : indexFault E ms L Z = 0 ∧ xs.length ≤ 400 ∧ Z ≤ (xs.length : Int) ∧ hearN 0 (xs.take Z.toNat) = L ∧ hearM E 0 0 (xs.take Z.toNat) = ms := by
  unfold indexTrue at h
  simp only [Bool.and_eq_true, decide_eq_true_eq] at h
  obtain ⟨h1, h2, h3⟩ := heardF_zero h.1
  exact ⟨h1, h2, h3, h.2.1, h.2.2⟩

theorem cut_all {E L Z : Int} {ms xs : List Int} {t : Nat} (h : indexTrue E ms L Z xs = true) (ht : t ≤ xs.length) :
    cuCode E ms L Z t = 0 ∧ indexTrue (cuE E ms L Z t) (cuM E ms L Z t) (cuL E ms L Z t) (cuZ E ms L Z t) (xs.take t) = true ∧ cuZ E ms L Z t ≤ Z ∧ indexTrue (cuE E ms L Z t) (cuM E ms L Z t) (cuL E ms L Z t) (cuZ E ms L Z t) xs = true := by
  obtain ⟨h1, h2, h3, hN, hM⟩ := of_true h
  have hZ0 := (index_ok h1).2.2.1
  have hc : cuCode E ms L Z t = 0 := by
    unfold cuCode
    rw [if_neg (by simpa using h1), if_neg (by omega)]
  have hl : (xs.take t).length = t := by simp; omega
  refine ⟨hc, ?_⟩
  by_cases hs : (t : Int) < Z
  · obtain ⟨e1, e2, e3, e4⟩ := cu_cut hc hs
    rw [e1, e2, e3, e4]
    obtain ⟨k1, k2, k3⟩ := cut_ok h1 (by omega) hs
    obtain ⟨q1, q2⟩ := cut_true h1 (by omega) hs hN hM
    have et : (xs.take t).take (aheadOf ms (keptN t ms)).toNat = xs.take (aheadOf ms (keptN t ms)).toNat := by
      rw [List.take_take, Nat.min_eq_left (by omega)]
    exact ⟨true_of k1 (by omega) (by omega) (by rw [et]; exact q1) (by rw [et]; exact q2), by omega, true_of k1 h2 (by omega) q1 q2⟩
  · obtain ⟨e1, e2, e3, e4⟩ := cu_keep hc hs
    rw [e1, e2, e3, e4]
    have et : (xs.take t).take Z.toNat = xs.take Z.toNat := by rw [List.take_take, Nat.min_eq_left (by omega)]
    exact ⟨true_of h1 (by omega) (by omega) (by rw [et]; exact hN) (by rw [et]; exact hM), Int.le_refl _, h⟩

theorem cutFile_all {xs : List Int} {t : Nat} (h : xs.length ≤ 400) (ht : t ≤ xs.length) : cutCode xs t = 0 ∧ cutRes xs t = xs.take t := by
  have hc : cutCode xs t = 0 := by
    unfold cutCode
    rw [if_neg (by omega), if_neg (by omega)]
  refine ⟨hc, ?_⟩
  unfold cutRes
  rw [if_pos hc]
  simp
end Go.Proofs.Ythdglflipeggpaa
