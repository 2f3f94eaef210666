/-
  IndexFault, of the specification and of the program.
-/
import Derived.Test.YthdglflipeggpaaIndexM
import Derived.Test.YthdglflipeggpaaFiles1
import Derived.Test.YthdglflipeggpaaHlpI
import Derived.Deep.RegionWith
import Derived.Deep.RegionHeld3
namespace Go.Proofs.Ythdglflipeggpaa
open Go.RowKit
set_option linter.unusedVariables false

theorem indexFault_range {E L Z : Int} {ms : List Int} (h : E < 1 ∨ 9 < E ∨ Z < 0 ∨ 400 < Z ∨ L < 0 ∨ Z < L) : indexFault E ms L Z = 3 := by
  unfold indexFault
  rw [if_pos h]

theorem indexFault_form {E L Z : Int} {ms : List Int} (h : ¬ (E < 1 ∨ 9 < E ∨ Z < 0 ∨ 400 < Z ∨ L < 0 ∨ Z < L)) (h2 : (ms.length : Int) ≠ Int.tdiv L E) : indexFault E ms L Z = 1 := by
  unfold indexFault
  rw [if_neg h, if_pos h2]

theorem indexFault_marks {E L Z : Int} {ms : List Int} (h : ¬ (E < 1 ∨ 9 < E ∨ Z < 0 ∨ 400 < Z ∨ L < 0 ∨ Z < L)) (h2 : (ms.length : Int) = Int.tdiv L E) : indexFault E ms L Z = marksF E Z E 0 ms := by
  unfold indexFault
  rw [if_neg h, if_neg (by simpa using h2)]

theorem tdiv_small {L E : Int} (h0 : 0 ≤ L) (h1 : L ≤ 400) (hE : 1 ≤ E) : 0 ≤ Int.tdiv L E ∧ Int.tdiv L E ≤ 400 := by
  rw [Int.tdiv_eq_ediv_of_nonneg h0]
  exact ⟨Int.ediv_nonneg h0 (by omega), Int.le_trans (Int.ediv_le_self _ h0) h1⟩

theorem least_small {E X : Int} {k : Nat} (hE1 : 1 ≤ E) (hE2 : E ≤ 9) (h : X = E * (k + 1)) : 0 ≤ X ∧ X ≤ 9 * (k + 1) := by
  subst h
  exact ⟨Int.mul_nonneg (by omega) (by omega), Int.mul_le_mul_of_nonneg_right hE2 (by omega)⟩

theorem least_next {E X : Int} {k : Nat} (h : X = E * (k + 1)) : X + E = E * ((k + 1 : Nat) + 1) := by
  subst h
  rw [Int.mul_add, Int.mul_add, Int.natCast_add, Int.mul_add]
  simp

set_option maxHeartbeats 1600000 in
theorem implIndexFault_any (E : Int) (a : Option Addr) (n ca : Nat) (ms : List Int) (L Z : Int) (w : World) (ha : Rd .i64 w a n ms) (h1 : n ≤ 1073741824) :
    Calls Try.prog 19 #[.agg #[.int .i64 E, .slice a n ca, .int .i64 L, .int .i64 Z]] w fun e w' => e = .returned (.int .i64 (indexFault E ms L Z)) ∧ Below w.heap.size w w' := by
  have hlen := ha.1
  have B1 : ∀ o1, Below w.heap.size w (w.alloc o1) := fun o1 => (Below.refl _ _).alloc (Nat.le_refl _) o1
  by_cases hE1 : E < 1
  · rw [indexFault_range (by omega)]
    go_enter Try.func19, Try.ntmps19
    go_wp2
    go_ret
    exact ⟨rfl, B1 _⟩
  by_cases hE2 : 9 < E
  · rw [indexFault_range (by omega)]
    go_enter Try.func19, Try.ntmps19
    go_wp2
    go_ret
    exact ⟨rfl, B1 _⟩
  by_cases hZ1 : Z < 0
  · rw [indexFault_range (by omega)]
    go_enter Try.func19, Try.ntmps19
    go_wp2
    go_ret
    exact ⟨rfl, B1 _⟩
  by_cases hZ2 : 400 < Z
  · rw [indexFault_range (by omega)]
    go_enter Try.func19, Try.ntmps19
    go_wp2
    go_ret
    exact ⟨rfl, B1 _⟩
  by_cases hL1 : L < 0
  · rw [indexFault_range (by omega)]
    go_enter Try.func19, Try.ntmps19
    go_wp2
    go_ret
    exact ⟨rfl, B1 _⟩
  by_cases hL2 : Z < L
  · rw [indexFault_range (by omega)]
    go_enter Try.func19, Try.ntmps19
    go_wp2
    go_ret
    exact ⟨rfl, B1 _⟩
  have hD := tdiv_small (L := L) (E := E) (by omega) (by omega) (by omega)
  have hE0 : E ≠ 0 := by omega
  have hw : IntKind.i64.wrap (Int.tdiv L E) = Int.tdiv L E := by rw [IntKind.wrap_i64] <;> omega
  by_cases hn : (n : Int) = Int.tdiv L E
  · rw [indexFault_marks (by omega) (by rw [hlen]; exact hn)]
    obtain ⟨R, hR⟩ : ∃ R : Int, R = marksF E Z E 0 ms := ⟨_, rfl⟩
    rw [← hR]
    go_enter Try.func19, Try.ntmps19
    go_wp2
    go_region
    all_goals
      go_wp2
      go_loopw [3, 4, 51] (fun x y i wr => ∃ (k : Nat) (X A : Int), k ≤ n ∧ i = .int .i64 k ∧ X = E * (k + 1) ∧ A = aheadOf ms k ∧ x = .int .i64 X ∧ y = .int .i64 A ∧ R = marksF E Z X A (ms.drop k) ∧ wr.cell? ⟨w.heap.size, 0, none⟩ = some (.int .i64 E) ∧ wr.cell? ⟨w.heap.size, 3, none⟩ = some (.int .i64 Z) ∧ Below w.heap.size w wr) (fun _ _ i _ => n - (intOf i).toNat)
      case atStart => exact ⟨0, E, 0, Nat.zero_le _, rfl, by simp, rfl, rfl, rfl, by simpa using hR, by simp [go_sem], by simp [go_sem], (B1 _).drew⟩
      case round =>
        obtain ⟨k, X, A, hk, rfl, hX, hA, rfl, rfl, hRk, d0, d3, hbw⟩ := hrel
        have hX1 := least_small (by omega) (by omega) hX
        have HX : Hid _ := hX
        clear hX
        by_cases hlt : k < n
        · obtain ⟨b1, o1, rfl, hc1⟩ := (ha.below hbw).at hlt
          have hk1 := hc1 k hlt
          clear hc1
          have hlt' : (k : Int) < (n : Int) := by omega
          have hbad := fun h => marksF_bad (E := E) (Z := Z) (ms := ms) (k := k) (least := X) (by omega) h
          have hgood := fun h1 h2 h3 => marksF_good (E := E) (Z := Z) (ms := ms) (k := k) (least := X) (by omega) h1 h2 h3
          rw [← hA, ← hRk] at hbad hgood
          have hA1 := aheadOf_succ ms k
          rw [hA1] at hgood
          generalize ms.getD k 0 = m at *
          by_cases q1 : m < X
          · have hb3 := hbad (.inl q1)
            clear hbad hgood hRk
            subst hb3
            go_wp2
            go_ret
            exact ⟨rfl, hbw⟩
          by_cases q2 : Z < m
          · have hb3 := hbad (.inr (.inl q2))
            clear hbad hgood hRk
            subst hb3
            go_wp2
            go_ret
            exact ⟨rfl, hbw⟩
          by_cases q3 : m ≤ A
          · have hb3 := hbad (.inr (.inr q3))
            clear hbad hgood hRk
            subst hb3
            go_wp2
            go_ret
            exact ⟨rfl, hbw⟩
          have hg := hgood q1 q2 q3
          clear hbad hgood hRk
          have HG : Hid _ := hg
          clear hg
          go_wp2
          go_roundw
          case rel => exact ⟨k + 1, X + E, m, by omega, by go_num, least_next HX.out, hA1.symm, rfl, rfl, HG.out, d0, d3, hbw⟩
          case measure => simp [intOf]; omega
        · obtain rfl : k = n := by omega
          rw [hA, marksF_end (by omega)] at hRk
          subst hRk
          go_wp2
          go_ret
          exact ⟨rfl, hbw⟩
  · rw [indexFault_form (by omega) (by rw [hlen]; exact hn)]
    go_enter Try.func19, Try.ntmps19
    go_wp2
    go_region
    all_goals
      go_wp2
      go_ret
      exact ⟨rfl, (B1 _).drew⟩
end Go.Proofs.Ythdglflipeggpaa
