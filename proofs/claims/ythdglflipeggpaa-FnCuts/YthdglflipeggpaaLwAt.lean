/-
  The contract of lwAt: a choice out of n that the bytes make.
-/
import Derived.Test.YthdglflipeggpaaDraw1
namespace Go.Proofs.Ythdglflipeggpaa
open Go.RowKit
set_option linter.unusedVariables false

set_option maxHeartbeats 1600000 in
theorem lwAt_any (a : Option Addr) (n ca : Nat) (xs : List Int) (t N : Int) (w : World) (ha : Rd .u8 w a n xs) (hB : Bytes xs) (hn : n ≤ 1048576) (t0 : 0 ≤ t) (t1 : t ≤ 1000000) (hN : N ≤ 1073741824) :
    Calls Try.prog 20 #[.slice a n ca, .int .i64 t, .int .i64 N] w fun e w' => ∃ r : Int, e = .returned (.int .i64 r) ∧ 0 ≤ r ∧ (r < N ∨ r = 0) ∧ ∃ q, w' = w.drewN q := by
  by_cases hN1 : N ≤ 1
  · go_enter Try.func20, Try.ntmps20
    go_wp2
    go_ret
    exact ⟨0, rfl, by omega, .inr rfl, 0, rfl⟩
  · have md : ∀ x : Int, 0 ≤ x % N ∧ (x % N < N ∨ x % N = 0) := fun x => ⟨Int.emod_nonneg _ (by omega), .inl (Int.emod_lt_of_pos _ (by omega))⟩
    have MD : Hid _ := md
    clear md
    by_cases hn0 : n = 0
    · subst hn0
      go_enter Try.func20, Try.ntmps20
      go_wp2
      go_ret
      exact ⟨t * 7 % N, rfl, (MD.out _).1, (MD.out _).2, 0, rfl⟩
    · obtain ⟨b', off, rfl, hc⟩ := ha.at (show 0 < n by omega)
      have hn1 : (0 : Int) < (n : Int) := by omega
      have i1 : 0 ≤ t % (n : Int) ∧ t % (n : Int) < (n : Int) := ⟨Int.emod_nonneg _ (by omega), Int.emod_lt_of_pos _ hn1⟩
      have i2 : 0 ≤ (t + 1) % (n : Int) ∧ (t + 1) % (n : Int) < (n : Int) := ⟨Int.emod_nonneg _ (by omega), Int.emod_lt_of_pos _ hn1⟩
      have k1 : w.cell? ⟨b', off + (t % (n : Int)).toNat, none⟩ = some (.int .u8 (xs.getD (t % (n : Int)).toNat 0)) := hc _ (by omega)
      have k2 : w.cell? ⟨b', off + ((t + 1) % (n : Int)).toNat, none⟩ = some (.int .u8 (xs.getD ((t + 1) % (n : Int)).toNat 0)) := hc _ (by omega)
      have y1 := hB.at (t % (n : Int)).toNat
      have y2 := hB.at ((t + 1) % (n : Int)).toNat
      have dv : 0 ≤ t / (n : Int) ∧ t / (n : Int) ≤ 1000000 := ⟨Int.ediv_nonneg t0 (by omega), Int.le_trans (Int.ediv_le_self _ t0) (by omega)⟩
      clear hc hB
      generalize xs.getD (t % (n : Int)).toNat 0 = x1 at *
      generalize xs.getD ((t + 1) % (n : Int)).toNat 0 = x2 at *
      have hnz : ((n : Int) == 0) = false := by simp; omega
      obtain ⟨i11, i12⟩ := i1
      obtain ⟨i21, i22⟩ := i2
      obtain ⟨y11, y12⟩ := y1
      obtain ⟨y21, y22⟩ := y2
      obtain ⟨d1, d2⟩ := dv
      by_cases hN2 : 200 < N
      · go_enter Try.func20, Try.ntmps20
        go_wp2
        go_quiet (fail)
        go_wp2
        all_goals try go_quiet (fail)
        all_goals try go_wp2
        go_ret
        exact ⟨_, rfl, (MD.out _).1, (MD.out _).2, _, rfl⟩
      · go_enter Try.func20, Try.ntmps20
        go_wp2
        go_quiet (fail)
        go_wp2
        go_ret
        exact ⟨_, rfl, (MD.out _).1, (MD.out _).2, _, rfl⟩
end Go.Proofs.Ythdglflipeggpaa
