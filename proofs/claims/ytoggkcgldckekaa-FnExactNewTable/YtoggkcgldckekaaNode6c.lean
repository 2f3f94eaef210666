/-
  Chapter 5: the program's begins of nodes.
-/
import Derived.Test.YtoggkcgldckekaaNode6
namespace Go.Proofs.Ytoggkcgldckekaa
open Go.RowKit
set_option linter.unusedVariables false
set_option linter.unusedSimpArgs false

theorem beg_two' {bs : List Int} {n : Nd} (h : n.k = 11 ∨ n.k = 12) : beg bs n = if (bs.length : Int) = 0 ∨ n.r ≠ bs.length - 1 then -1
    else if bs.getD (bs.length - 1) 0 = 0 ∨ n.l ≠ bs.getD (bs.length - 1) 0 - 1 then -1
    else bs.getD (bs.getD (bs.length - 1) 0 - 1).toNat 0 := if_pos h
theorem beg_one' {bs : List Int} {n : Nd} (h : 8 ≤ n.k ∧ n.k ≤ 10) : beg bs n = if (bs.length : Int) = 0 ∨ n.l ≠ bs.length - 1 then -1 else bs.getD (bs.length - 1) 0 := by
  unfold beg
  rw [if_neg (by omega), if_pos h]
theorem beg_leaf' {bs : List Int} {n : Nd} (h : n.k ≤ 7) : beg bs n = bs.length := by
  unfold beg
  rw [if_neg (by omega), if_neg (by omega)]

set_option maxHeartbeats 1600000 in
set_option maxRecDepth 20000 in
theorem beginBehind_any (n : Nd) (a : Option Addr) (m ca : Nat) (bs : List Int) (ns : List Nd) (w : World) (hr : Rd .i64 w a m bs) (hb : Beg ns m bs) (hm : m ≤ ns.length) (h1 : m ≤ 1073741824) (hf : FormP n) :
    Calls Try.prog 148 #[.agg #[.int .i64 n.k, .int .i64 n.c, .string n.s, .int .i64 n.l, .int .i64 n.r], .slice a m ca] w fun e w' => e = .returned (.int .i64 (beg bs n)) ∧ Below w.heap.size w w' := by
  obtain ⟨k, c, s, l, r⟩ := n
  simp only
  obtain ⟨R, hR⟩ : ∃ R, R = beg bs ⟨k, c, s, l, r⟩ := ⟨_, rfl⟩
  rw [← hR]
  have hk := hf.1
  simp only at hk
  have hlen := hb.len
  have B1 : ∀ o, Below w.heap.size w (w.alloc o) := fun o => (Below.refl _ _).alloc (Nat.le_refl _) o
  by_cases kT : k = 11 ∨ k = 12
  · rw [beg_two' kT] at hR
    simp only [hlen] at hR
    by_cases m0 : m = 0
    · rw [if_pos (by left; omega)] at hR
      subst hR
      subst m0
      clear hb hr hf
      rcases kT with rfl | rfl
      all_goals
        go_enter Try.func148, Try.ntmps148
        go_wp2
        go_ret
        exact ⟨rfl, B1 _⟩
    have m0' : ((m : Int) == 0) = false := by simp; omega
    by_cases hr1 : r = (m : Int) - 1
    case neg =>
      rw [if_pos (by right; exact hr1)] at hR
      have hr1' : (r == (m : Int) - 1) = false := by simpa using hr1
      subst hR
      clear hb hr hf
      rcases kT with rfl | rfl
      all_goals
        go_enter Try.func148, Try.ntmps148
        go_wp2
        go_ret
        exact ⟨rfl, B1 _⟩
    rw [if_neg (by intro h; rcases h with h | h; omega; exact h hr1)] at hR
    obtain ⟨b0, off, rfl, hc⟩ := hr.at (show m - 1 < m by omega)
    have d0 := hc (m - 1) (by omega)
    obtain ⟨M, rfl⟩ : ∃ M, m = M + 1 := ⟨m - 1, by omega⟩
    rw [Nat.add_sub_cancel] at d0 hR
    have hbd := hb.bd hm (i := M) (by omega)
    obtain ⟨B, hB⟩ : ∃ B, B = bs.getD M 0 := ⟨_, rfl⟩
    rw [← hB] at d0 hR hbd
    have hBlt : b0 < w.heap.size := block_lt_of_cell d0
    have d0a : ∀ o, (w.alloc o).cell? ⟨b0, off + M, none⟩ = some (.int .i64 B) := fun o => cell_later ((Below.refl _ _).alloc (Nat.le_refl _) o) d0
    by_cases B0 : B = 0
    · rw [if_pos (.inl B0)] at hR
      subst hR
      clear hb hr hf hB
      subst B0
      subst hr1
      rcases kT with rfl | rfl
      all_goals
        go_enter Try.func148, Try.ntmps148
        go_wp2
        go_ret
        exact ⟨rfl, B1 _⟩
    have B0' : (B == 0) = false := by simpa using B0
    by_cases hl1 : l = B - 1
    case neg =>
      rw [if_pos (.inr hl1)] at hR
      have hl1' : (l == B - 1) = false := by simpa using hl1
      subst hR
      clear hb hr hf hB
      subst hr1
      rcases kT with rfl | rfl
      all_goals
        go_enter Try.func148, Try.ntmps148
        go_wp2
        go_ret
        exact ⟨rfl, B1 _⟩
    rw [if_neg (by intro h; rcases h with h | h; exact B0 h; exact h hl1)] at hR
    have d1 := hc (B - 1).toNat (by omega)
    rw [← hR] at d1
    have d1a : ∀ o, (w.alloc o).cell? ⟨b0, off + (B - 1).toNat, none⟩ = some (.int .i64 R) := fun o => cell_later ((Below.refl _ _).alloc (Nat.le_refl _) o) d1
    clear hb hr hf hB hc hR
    subst hr1
    subst hl1
    obtain ⟨D, rfl⟩ : ∃ D : Nat, B = (D : Int) + 1 := ⟨(B - 1).toNat, by omega⟩
    rw [show ((D : Int) + 1 - 1).toNat = D by omega] at d1 d1a
    rcases kT with rfl | rfl
    all_goals
      go_enter Try.func148, Try.ntmps148
      go_wp2
      go_ret
      exact ⟨rfl, B1 _⟩
  by_cases kO : 8 ≤ k ∧ k ≤ 10
  · rw [beg_one' kO] at hR
    simp only [hlen] at hR
    by_cases m0 : m = 0
    · rw [if_pos (by left; omega)] at hR
      subst hR
      subst m0
      clear hb hr hf kT
      obtain rfl | rfl | rfl : k = 8 ∨ k = 9 ∨ k = 10 := by omega
      all_goals
        go_enter Try.func148, Try.ntmps148
        go_wp2
        go_ret
        exact ⟨rfl, B1 _⟩
    have m0' : ((m : Int) == 0) = false := by simp; omega
    by_cases hr1 : l = (m : Int) - 1
    case neg =>
      rw [if_pos (by right; exact hr1)] at hR
      have hr1' : (l == (m : Int) - 1) = false := by simpa using hr1
      subst hR
      clear hb hr hf kT
      obtain rfl | rfl | rfl : k = 8 ∨ k = 9 ∨ k = 10 := by omega
      all_goals
        go_enter Try.func148, Try.ntmps148
        go_wp2
        go_ret
        exact ⟨rfl, B1 _⟩
    rw [if_neg (by intro h; rcases h with h | h; omega; exact h hr1)] at hR
    obtain ⟨b0, off, rfl, hc⟩ := hr.at (show m - 1 < m by omega)
    have d0 := hc (m - 1) (by omega)
    obtain ⟨M, rfl⟩ : ∃ M, m = M + 1 := ⟨m - 1, by omega⟩
    rw [Nat.add_sub_cancel] at d0 hR
    rw [← hR] at d0
    have d0a : ∀ o, (w.alloc o).cell? ⟨b0, off + M, none⟩ = some (.int .i64 R) := fun o => cell_later ((Below.refl _ _).alloc (Nat.le_refl _) o) d0
    clear hb hr hf hc hR kT
    subst hr1
    obtain rfl | rfl | rfl : k = 8 ∨ k = 9 ∨ k = 10 := by omega
    all_goals
      go_enter Try.func148, Try.ntmps148
      go_wp2
      go_ret
      exact ⟨rfl, B1 _⟩
  · rw [beg_leaf' (by simp only; omega), hlen] at hR
    subst hR
    have e8 : (k == 8) = false := by simp; omega
    have e9 : (k == 9) = false := by simp; omega
    have e10 : (k == 10) = false := by simp; omega
    have e11 : (k == 11) = false := by simp; omega
    have e12 : (k == 12) = false := by simp; omega
    clear hb hr hf kT kO
    go_enter Try.func148, Try.ntmps148
    go_wp2
    go_ret
    exact ⟨rfl, B1 _⟩
end Go.Proofs.Ytoggkcgldckekaa
