/-
  Chapter 7: the specification's SetFault.
-/
import Derived.Test.YtoggkcgldckekaaProg3
namespace Go.Proofs.Ytoggkcgldckekaa
open Go.RowKit
set_option linter.unusedVariables false
set_option linter.unusedSimpArgs false

/-- What was ahead of the place k of a set. -/
def aheadOf (xs : List Int) (k : Nat) : Int := if k = 0 then -1 else xs.getD (k - 1) 0

set_option maxHeartbeats 3200000 in
set_option maxRecDepth 20000 in
theorem l7Set_any (a : Option Addr) (n ca : Nat) (cs : List In) (b : Option Addr) (m cb : Nat) (xs : List Int) (w : World) (ha : RdR inE 8 w a n cs) (hb : Rd .i64 w b m xs) (hs : inSum cs ≤ 1048576) (h1 : n ≤ 1048576) (h2 : m ≤ 1048576) :
    Calls Try.prog 57 #[.slice a n ca, .slice b m cb] w fun e w' => e = .returned (.int .i64 (setFault cs xs)) ∧ Below w.heap.size w w' := by
  have CP := fun w' h' => l7Fault_any a n ca cs w' h' hs h1
  have hlen := ha.1
  have hlenx := hb.1
  by_cases hp : progFault cs = 0
  case neg =>
    have e : setFault cs xs = progFault cs := by unfold setFault; rw [if_pos hp]
    rw [e]
    generalize progFault cs = P at *
    have hp' : (P == 0) = false := by simpa using hp
    have HP : Hid _ := CP
    clear CP hlen hlenx
    go_enter Try.func57, Try.ntmps57
    go_wp2_with fail
    refine (HP.out _ ha).mono ?_
    rintro e w1 ⟨rfl, hb1⟩
    go_wp2
    go_ret
    exact ⟨rfl, hb1⟩
  have hn80 := (progFault_ok hp).2.1
  have hn1 := (progFault_ok hp).1
  rw [hp] at CP
  by_cases hm80 : 80 < m
  · have e : setFault cs xs = 2 := by unfold setFault; rw [if_neg (by simp [hp]), if_pos (by omega)]
    rw [e]
    have HP : Hid _ := CP
    clear CP hlen hlenx hp
    have hm80' : (80 : Int) < (m : Int) := by omega
    go_enter Try.func57, Try.ntmps57
    go_wp2_with fail
    refine (HP.out _ ha).mono ?_
    rintro e w1 ⟨rfl, hb1⟩
    go_wp2
    go_ret
    exact ⟨rfl, hb1⟩
  have hm80' : ¬ (80 : Int) < (m : Int) := by omega
  obtain ⟨R, hR⟩ : ∃ R, R = setFault cs xs := ⟨_, rfl⟩
  rw [← hR]
  have HT0 : setGo n (aheadOf xs 0) (xs.drop 0) = R := by rw [hR]; unfold setFault; rw [if_neg (by simp [hp]), if_neg (by omega), hlen]; rfl
  have HT : Hid (setGo n (aheadOf xs 0) (xs.drop 0) = R) := HT0
  have HP : Hid _ := CP
  have HX : Hid _ := hlenx
  have hn80' : n ≤ 80 := by omega
  have hn1' : 1 ≤ n := by omega
  clear hR hlen hlenx hp CP HT0 hn80 hn1
  go_enter Try.func57, Try.ntmps57
  go_wp2_with fail
  refine (HP.out _ ha).mono ?_
  rintro e w1 ⟨rfl, hb1⟩
  replace hb := hb.below hb1
  go_wp2
  go_loopw [6] (fun i wr => ∃ (k : Nat), k ≤ m ∧ i = .int .i64 k ∧ Hid (-1 ≤ aheadOf xs k ∧ (0 < k → 0 ≤ aheadOf xs k)) ∧ Hid (setGo n (aheadOf xs k) (xs.drop k) = R) ∧ Below w1.heap.size w1 wr) (fun i _ => m - (intOf i).toNat)
  case atStart => exact ⟨0, Nat.zero_le _, rfl, (⟨by simp [aheadOf], fun h => by omega⟩ : -1 ≤ aheadOf xs 0 ∧ (0 < 0 → 0 ≤ aheadOf xs 0)), HT, Below.refl _ _⟩
  case round =>
    obtain ⟨k, hk, rfl, hA, ht, hbw⟩ := hrel
    clear HT
    by_cases hlt : k < m
    · obtain ⟨b1, o1, rfl, hc1⟩ := (hb.below hbw).at hlt
      have ck := hc1 k hlt
      have ht2 := ht.out
      have hA2 := hA.out
      rw [setGo_at (by rw [HX.out]; exact hlt)] at ht2
      have hnext : aheadOf xs (k + 1) = xs.getD k 0 := by simp [aheadOf]
      have hlt' : (k : Int) < (n : Int) ∨ True := .inr trivial
      have hltm : (k : Int) < (m : Int) := by omega
      obtain ⟨J, hJ⟩ : ∃ J : Int, J = (n : Int) - 1 := ⟨_, rfl⟩
      have BW := fun q => hb1.trans ((below_drewN hbw q).mono hb1.size)
      have BD := hb1.trans (hbw.drew.mono hb1.size)
      have BN := hb1.trans (hbw.mono hb1.size)
      by_cases hI : 0 ≤ xs.getD k 0 ∧ xs.getD k 0 ≤ (n : Int) - 1
      case neg =>
        rw [if_pos (by omega)] at ht2
        subst ht2
        generalize xs.getD k 0 = X at ck hI
        have CI : Hid _ := fun w' => in5_is X 0 ((n : Int) - 1) false w' (by simpa using hI)
        clear hc1 ht hA hA2 hnext hJ
        go_wp2
        go_quiet ((go_at_call 85; exact Calls.quiet_of_same (CI.out _)))
        go_wp2
        go_ret
        exact ⟨rfl, by first | exact BN | exact BD | exact BW _⟩
      by_cases hk0 : k = 0
      · subst hk0
        rw [if_neg (by simp only [aheadOf, if_true]; omega)] at ht2
        have HT2 : Hid (setGo n (aheadOf xs (0 + 1)) (xs.drop (0 + 1)) = R) := by rw [hnext]; exact ht2
        have HA2 : Hid (-1 ≤ aheadOf xs (0 + 1) ∧ (0 < 0 + 1 → 0 ≤ aheadOf xs (0 + 1))) := (⟨by omega, fun _ => by omega⟩ : -1 ≤ aheadOf xs (0 + 1) ∧ (0 < 0 + 1 → 0 ≤ aheadOf xs (0 + 1)))
        rw [Nat.add_zero] at ck
        generalize xs.getD 0 0 = X at ck hI
        have CI : Hid _ := fun w' => in5_is X 0 ((n : Int) - 1) true w' (by simpa using hI)
        clear hc1 ht ht2 hA hA2 hnext hJ
        go_wp2
        go_quiet ((go_at_call 85; exact Calls.quiet_of_same (CI.out _)))
        go_wp2
        go_roundw
        case rel => exact ⟨0 + 1, by omega, by go_num, HA2, HT2, by first | exact hbw | exact below_drewN hbw _ | exact hbw.drew⟩
        case measure => simp [intOf]; omega
      obtain ⟨j, rfl⟩ : ∃ j, k = j + 1 := ⟨k - 1, by omega⟩
      have hcj := hc1 j (by omega)
      obtain ⟨K, hK⟩ : ∃ K : Int, K = (j : Int) + 1 := ⟨_, rfl⟩
      have hk0' : decide ((0 : Int) < (j + 1 : Nat)) = true := decide_eq_true (by omega)
      have eA : aheadOf xs (j + 1) = xs.getD j 0 := by simp [aheadOf]
      have hP0 := hA2.2 (by omega)
      rw [eA] at ht2 hP0
      by_cases hle : xs.getD (j + 1) 0 ≤ xs.getD j 0
      · rw [if_pos (.inl hle)] at ht2
        subst ht2
        generalize xs.getD (j + 1) 0 = X at ck hI hle
        generalize xs.getD j 0 = Y at hcj hle
        have CI : Hid _ := fun w' => in5_is X 0 ((n : Int) - 1) true w' (by simpa using hI)
        have hle' : decide (X ≤ Y) = true := decide_eq_true hle
        clear hc1 ht hA hA2 hnext hJ eA hP0
        go_wp2
        go_quiet ((go_at_call 85; exact Calls.quiet_of_same (CI.out _)))
        go_wp2
        go_ret
        exact ⟨rfl, by first | exact BN | exact BD | exact BW _⟩
      · rw [if_neg (by omega)] at ht2
        have HT2 : Hid (setGo n (aheadOf xs (j + 1 + 1)) (xs.drop (j + 1 + 1)) = R) := by rw [hnext]; exact ht2
        have HA2 : Hid (-1 ≤ aheadOf xs (j + 1 + 1) ∧ (0 < j + 1 + 1 → 0 ≤ aheadOf xs (j + 1 + 1))) := (⟨by omega, fun _ => by omega⟩ : -1 ≤ aheadOf xs (j + 1 + 1) ∧ (0 < j + 1 + 1 → 0 ≤ aheadOf xs (j + 1 + 1)))
        generalize xs.getD (j + 1) 0 = X at ck hI hle
        generalize xs.getD j 0 = Y at hcj hle
        have CI : Hid _ := fun w' => in5_is X 0 ((n : Int) - 1) true w' (by simpa using hI)
        have hle' : decide (X ≤ Y) = false := decide_eq_false hle
        clear hc1 ht ht2 hA hA2 hnext hJ eA hP0
        go_wp2
        go_quiet ((go_at_call 85; exact Calls.quiet_of_same (CI.out _)))
        go_wp2
        go_roundw
        case rel => exact ⟨j + 1 + 1, by omega, by go_num, HA2, HT2, by first | exact hbw | exact below_drewN hbw _ | exact hbw.drew⟩
        case measure => simp [intOf]; omega
    · have ht2 := ht.out
      rw [setGo_end (by rw [HX.out]; omega)] at ht2
      subst ht2
      go_wp2
      go_ret
      exact ⟨rfl, hb1.trans (hbw.mono hb1.size)⟩

end Go.Proofs.Ytoggkcgldckekaa