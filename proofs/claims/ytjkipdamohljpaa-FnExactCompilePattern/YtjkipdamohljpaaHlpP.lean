/-
  Helpers of the exact laws: results that hold a program.
-/
import Derived.Test.YtjkipdamohljpaaHlpN2
import Derived.Test.YtjkipdamohljpaaHlpS
import Derived.Test.YtjkipdamohljpaaNode2
namespace Go.Proofs.Ytjkipdamohljpaa
open Go.RowKit
set_option linter.unusedVariables false

theorem toNodeS_row (a : Option Addr) (n ca : Nat) (cs : List Nd) (w : World) (ha : RdR ndE 5 w a n cs) (h1 : n ≤ 1073741824) :
    Calls Try.prog 27 #[.slice a n ca] w fun e w' => ∃ v, e = .returned v ∧ RowS ndE 5 89 w' w.heap.size w'.heap.size v n cs ∧ Below w.heap.size w w' :=
  (toNodeS_any a n ca cs w ha h1).mono fun e w' ⟨v, he, ho, hb⟩ => ⟨v, he, RowS.of ho, hb⟩

set_option maxHeartbeats 400000 in
theorem eqProgResult_yes (c : Int) (a b : Option Addr) (n ca cb : Nat) (xs : List In) (w : World) (ha : RdR inE 8 w a n xs) (hb : RdR inE 8 w b n xs) (h1 : n ≤ 1073741824) :
    Calls Try.prog 29 #[.agg #[.int .i64 c, .slice a n ca], .agg #[.int .i64 c, .slice b n cb]] w fun e w' => e = .returned (.bool true) ∧ Below w.heap.size w w' := by
  have B2 : ∀ o1 o2, Below w.heap.size w ((w.alloc o1).alloc o2) := fun o1 o2 => ((Below.refl _ _).alloc (Nat.le_refl _) o1).alloc (by simp) o2
  go_enter Try.func29, Try.ntmps29
  go_wp2_with fail
  refine (eqInstS_yes a b n ca cb xs _ (ha.below (B2 _ _)) (hb.below (B2 _ _)) h1).mono ?_
  rintro e w1 ⟨rfl, q⟩
  go_wp2
  go_ret
  exact ⟨rfl, (B2 _ _).trans (q.mono (B2 _ _).size)⟩

set_option maxHeartbeats 400000 in
theorem markProgResult_row (c x0 : Int) (v : Value) (n lo hi : Nat) (xs : List In) (w : World) (ho : RowS inE 8 91 w lo hi v n xs) (h1 : n ≤ 1048576) (h2 : 0 < x0) (h3 : x0 ≤ 1073741824) :
    Calls Try.prog 32 #[.agg #[.int .i64 c, v], .int .i64 x0] w fun e w' => e = .returned (.int .i64 (x0 + 8 * (n : Int))) ∧ RowS inE 8 91 w' lo hi v n (mkIn x0 n) ∧ Chg lo hi w w' := by
  obtain ⟨a, cap, rfl, _⟩ := ho.shape inE_len
  go_enter Try.func32, Try.ntmps32
  go_wp2_with fail
  refine (markInstS_row _ n lo hi xs x0 _ (ho.below ((Below.refl _ _).alloc (Nat.le_refl _) _)) h1 h2 h3).mono ?_
  rintro e w1 ⟨rfl, ho1, hg⟩
  go_wp2
  go_ret
  exact ⟨rfl, ho1, chg_alloc hg⟩

set_option maxHeartbeats 3200000 in
set_option maxRecDepth 20000 in
theorem heldInstS_yes (a : Option Addr) (n ca : Nat) (x0 : Int) (w : World) (ha : RdR inE 8 w a n (mkIn x0 n)) (h1 : n ≤ 1048576) (h2 : 0 < x0) (h3 : x0 ≤ 1073741824) :
    Calls Try.prog 72 #[.slice a n ca, .int .i64 x0] w fun e w' => e = .returned (.int .i64 (x0 + 8 * (n : Int))) ∧ Below w.heap.size w w' := by
  have HA : Hid _ := ha
  clear ha
  go_enter Try.func72, Try.ntmps72
  go_wp2
  go_loopw [1, 5] (fun x i wr => ∃ (k : Nat) (K : Int), k ≤ n ∧ i = .int .i64 k ∧ x = .int .i64 K ∧ Hid (K = x0 + 8 * (k : Int)) ∧ 0 < K ∧ K ≤ 1073741824 + 8 * (k : Int) ∧ Below w.heap.size w wr) (fun _ i _ => n - (intOf i).toNat)
  case atStart => exact ⟨0, x0, Nat.zero_le _, rfl, rfl, (by simp : x0 = x0 + 8 * ((0 : Nat) : Int)), h2, by omega, Below.refl _ _⟩
  case round =>
    obtain ⟨k, K, hk, rfl, rfl, HK, hK0, hK1, hbw⟩ := hrel
    by_cases hlt : k < n
    · have hlt' : (k : Int) < (n : Int) := by omega
      obtain ⟨b1, o1, ci, rfl, hx, hc1⟩ := RdR.at (RdR.below HA.out hbw) hlt
      rw [mkIn_at x0 n k hlt, ← HK.out] at hx
      obtain rfl : mkInE K = ci := by simpa using hx
      obtain ⟨c0, c1, c2, c3, c4, c5, c6, c7⟩ := eight hc1
      clear hx hc1
      obtain ⟨K1, hK1d⟩ : ∃ q, K + 1 = q := ⟨_, rfl⟩
      obtain ⟨K2, hK2d⟩ : ∃ q, K1 + 1 = q := ⟨_, rfl⟩
      obtain ⟨K3, hK3d⟩ : ∃ q, K2 + 1 = q := ⟨_, rfl⟩
      obtain ⟨K4, hK4d⟩ : ∃ q, K3 + 1 = q := ⟨_, rfl⟩
      obtain ⟨K5, hK5d⟩ : ∃ q, K4 + 1 = q := ⟨_, rfl⟩
      obtain ⟨K6, hK6d⟩ : ∃ q, K5 + 1 = q := ⟨_, rfl⟩
      obtain ⟨K7, hK7d⟩ : ∃ q, K6 + 1 = q := ⟨_, rfl⟩
      obtain ⟨K8, hK8d⟩ : ∃ q, K7 + 1 = q := ⟨_, rfl⟩
      simp only [mkInE] at c0 c1 c2 c3 c4 c5 c6 c7
      rw [show K + 1 = K1 by omega] at c1
      rw [show K + 2 = K2 by omega] at c2
      rw [show K + 3 = K3 by omega] at c3
      rw [show K + 4 = K4 by omega] at c4
      rw [show K + 5 = K5 by omega] at c5
      rw [show K + 6 = K6 by omega] at c6
      rw [show K + 7 = K7 by omega] at c7
      have HK8 : Hid (K8 = K + 8) := by show K8 = K + 8; omega
      have CM : Hid _ := fun w' => markText_any K3 w' (by omega) (by omega)
      generalize mtext K3 = S at CM c3
      go_wp2
      go_region_with (go_at_call 71; refine (CM.out _).mono ?_; rintro e w2 ⟨rfl, hb2⟩; have e3 := cell_later hb2 c3; have e4 := cell_later hb2 c4; have e5 := cell_later hb2 c5; have e6 := cell_later hb2 c6; have e7 := cell_later hb2 c7)
      all_goals
        go_wp2
        go_roundw
        case rel => exact ⟨k + 1, K8, by omega, by go_num, rfl, (by have r1 := HK.out; have r2 := HK8.out; omega : K8 = x0 + 8 * ((k + 1 : Nat) : Int)), by omega, by omega, hbw.drew.trans (hb2.mono hbw.size)⟩
        case measure => simp [intOf]; omega
    · go_wp2
      go_ret
      obtain rfl : k = n := by omega
      exact ⟨ret_int HK.out, hbw⟩

set_option maxHeartbeats 400000 in
theorem heldProgResult_yes (c x0 : Int) (a : Option Addr) (n ca : Nat) (w : World) (ha : RdR inE 8 w a n (mkIn x0 n)) (h1 : n ≤ 1048576) (h2 : 0 < x0) (h3 : x0 ≤ 1073741824) :
    Calls Try.prog 33 #[.agg #[.int .i64 c, .slice a n ca], .int .i64 x0] w fun e w' => e = .returned (.int .i64 (x0 + 8 * (n : Int))) ∧ Below w.heap.size w w' := by
  have B1 : ∀ o, Below w.heap.size w (w.alloc o) := fun o => (Below.refl _ _).alloc (Nat.le_refl _) o
  go_enter Try.func33, Try.ntmps33
  go_wp2_with fail
  refine (heldInstS_yes a n ca x0 _ (ha.below (B1 _)) h1 h2 h3).mono ?_
  rintro e w1 ⟨rfl, q⟩
  go_wp2
  go_ret
  exact ⟨rfl, (B1 _).trans (q.mono (B1 _).size)⟩
end Go.Proofs.Ytjkipdamohljpaa
