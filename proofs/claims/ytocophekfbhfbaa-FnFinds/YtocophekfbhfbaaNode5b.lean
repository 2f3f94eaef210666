/-
  Chapter 5: the specification's sets.
-/
import Derived.Test.YtocophekfbhfbaaNodeFA
import Derived.Test.YtocophekfbhfbaaNode1
import Derived.Test.YtocophekfbhfbaaHlp1
import Derived.Deep.RegionWith
namespace Go.Proofs.Ytocophekfbhfbaa
open Go.RowKit
set_option linter.unusedVariables false
set_option linter.unusedSimpArgs false

theorem in5b_is (x y z : Int) (b : Bool) (w : World) (h : decide (y ≤ x ∧ x ≤ z) = b) :
    Calls Try.prog 77 #[.int .i64 x, .int .i64 y, .int .i64 z] w fun e w' => e = .returned (.bool b) ∧ w' = w := by
  subst h
  go_enter Try.func77, Try.ntmps77
  go_wp2
  all_goals go_ret
  all_goals refine ⟨ret_bool ?_, rfl⟩
  all_goals (rw [Bool.eq_iff_iff]; simp; try omega)

def SetTo1 (l : List UInt8) (k : Nat) : Prop := ∀ j, j < k → 32 ≤ (l.getD j 0).toNat ∧ (l.getD j 0).toNat ≤ 126

/-- The first k bytes are right. -/
def SetTo (l : List UInt8) (k : Nat) : Prop := (∀ j, j < k → 32 ≤ (l.getD j 0).toNat ∧ (l.getD j 0).toNat ≤ 126) ∧ ∀ j, j + 1 < k → (l.getD j 0).toNat < (l.getD (j + 1) 0).toNat
theorem SetTo.zero (l : List UInt8) : SetTo l 0 := ⟨fun j h => by omega, fun j h => by omega⟩
theorem SetTo.succ {l : List UInt8} {k : Nat} (h : SetTo l k) (h1 : 32 ≤ (l.getD k 0).toNat ∧ (l.getD k 0).toNat ≤ 126) (h2 : k = 0 ∨ (l.getD (k - 1) 0).toNat < (l.getD k 0).toNat) : SetTo l (k + 1) := by
  refine ⟨fun j hj => ?_, fun j hj => ?_⟩
  · by_cases e : j = k
    · rw [e]; exact h1
    · exact h.1 j (by omega)
  · by_cases e : j + 1 = k
    · subst e
      simpa using h2
    · exact h.2 j (by omega)

theorem setB_yes {s : ByteArray} {k : Nat} (h : SetTo s.data.toList k) (hk : k = s.size) : setB s = decide (1 ≤ (s.size : Int) ∧ (s.size : Int) ≤ 20) := by
  have hl : s.data.toList.length = s.size := by rw [Array.length_toList]; rfl
  rw [setB, charsB_yes (fun j hj => h.1 j (by omega)), risingB_yes (fun j hj => h.2 j (by omega)), Bool.and_true, Bool.and_true, decide_eq_decide]
  omega

theorem setB_no1 {s : ByteArray} {k : Nat} (hk : k < s.size) (h : ¬ (32 ≤ (s.data.toList.getD k 0).toNat ∧ (s.data.toList.getD k 0).toNat ≤ 126)) : setB s = false := by
  have hl : s.data.toList.length = s.size := by rw [Array.length_toList]; rfl
  rw [setB, charsB_no (k := k) (by omega) h]
  simp

theorem setB_no2 {s : ByteArray} {k : Nat} (hk : k + 1 < s.size) (h : (s.data.toList.getD (k + 1) 0).toNat ≤ (s.data.toList.getD k 0).toNat) : setB s = false := by
  have hl : s.data.toList.length = s.size := by rw [Array.length_toList]; rfl
  rw [setB, risingB_no (k := k) (by omega) h]
  simp

set_option maxHeartbeats 1600000 in
set_option maxRecDepth 20000 in
theorem l5Set_any (s : ByteArray) (w : World) (hs : s.size ≤ 1073741824) :
    Calls Try.prog 181 #[.string s] w fun e w' => e = .returned (.bool (setB s)) ∧ Below w.heap.size w w' := by
  obtain ⟨R, hR⟩ : ∃ R, R = setB s := ⟨_, rfl⟩
  rw [← hR]
  have HR : Hid _ := hR
  clear hR
  go_enter Try.func181, Try.ntmps181
  go_wp2
  go_loopw [3] (fun i wr => ∃ k : Nat, k ≤ s.size ∧ i = .int .i64 k ∧ SetTo s.data.toList k ∧ Below w.heap.size w wr) (fun i _ => s.size - (intOf i).toNat)
  case atStart => exact ⟨0, Nat.zero_le _, rfl, SetTo.zero _, Below.refl _ _⟩
  case round =>
    obtain ⟨k, hk, rfl, HA, hbw⟩ := hrel
    by_cases hlt : k < s.size
    · have hlt' : (k : Int) < (s.size : Int) := by omega
      obtain ⟨b, hb, hb2⟩ := str_at s k hlt
      have HB : Hid _ := hb2
      clear hb2
      by_cases h32 : b.toNat < 32
      · have h32' : decide ((b.toNat : Int) < 32) = true := decide_eq_true (by omega)
        have h32'' : (b.toNat : Int) < 32 := by omega
        go_wp2
        go_quiet (fail)
        go_wp2
        go_ret
        exact ⟨ret_bool (by rw [HR.out, setB_no1 hlt (by rw [HB.out]; omega)]), by first | exact hbw | exact below_drewN hbw _ | exact hbw.drew⟩
      have h32' : decide ((b.toNat : Int) < 32) = false := decide_eq_false (by omega)
      have h32'' : ¬ (b.toNat : Int) < 32 := by omega
      by_cases h126 : 126 < b.toNat
      · have h126' : decide ((126 : Int) < b.toNat) = true := decide_eq_true (by omega)
        have h126'' : (126 : Int) < b.toNat := by omega
        go_wp2
        go_quiet (fail)
        go_wp2
        go_ret
        exact ⟨ret_bool (by rw [HR.out, setB_no1 hlt (by rw [HB.out]; omega)]), by first | exact hbw | exact below_drewN hbw _ | exact hbw.drew⟩
      have h126' : decide ((126 : Int) < b.toNat) = false := decide_eq_false (by omega)
      have h126'' : ¬ (126 : Int) < b.toNat := by omega
      by_cases hk0 : k = 0
      · subst hk0
        go_wp2
        go_quiet (fail)
        go_wp2
        go_roundw
        case rel => exact ⟨1, by omega, by go_num, HA.succ (by rw [HB.out]; omega) (.inl rfl), by first | exact hbw | exact below_drewN hbw _ | exact hbw.drew⟩
        case measure => simp [intOf]; omega
      obtain ⟨j, rfl⟩ : ∃ j, k = j + 1 := ⟨k - 1, by omega⟩
      obtain ⟨b', hb', hb2'⟩ := str_at s j (by omega)
      have HB' : Hid _ := hb2'
      clear hb2'
      obtain ⟨J, hJ⟩ : ∃ J : Int, J = (j : Int) + 1 := ⟨_, rfl⟩
      have hk0' : decide ((0 : Int) < (j + 1 : Nat)) = true := decide_eq_true (by omega)
      by_cases hle : b.toNat ≤ b'.toNat
      · have hle' : decide ((b.toNat : Int) ≤ b'.toNat) = true := by simpa using hle
        have hle'' : (b.toNat : Int) ≤ b'.toNat := by omega
        go_wp2
        go_quiet (fail)
        go_wp2
        go_ret
        exact ⟨ret_bool (by rw [HR.out, setB_no2 hlt (by rw [HB.out, HB'.out]; exact hle)]), by first | exact hbw | exact below_drewN hbw _ | exact hbw.drew⟩
      · have hle' : decide ((b.toNat : Int) ≤ b'.toNat) = false := by simpa using hle
        have hle'' : ¬ (b.toNat : Int) ≤ b'.toNat := by omega
        go_wp2
        go_quiet (fail)
        go_wp2
        go_roundw
        case rel => exact ⟨j + 1 + 1, by omega, by go_num, HA.succ (by rw [HB.out]; omega) (.inr (by rw [HB.out, show j + 1 - 1 = j by omega, HB'.out]; omega)), by first | exact hbw | exact below_drewN hbw _ | exact hbw.drew⟩
        case measure => simp [intOf]; omega
    · have hR := HR.out
      rw [setB_yes HA (by omega)] at hR
      have hin := fun w' => in5b_is (s.size : Int) 1 20 R w' hR.symm
      have HI : Hid _ := hin
      clear hR hin
      go_wp2_with fail
      refine (HI.out _).mono ?_
      rintro e w1 ⟨rfl, rfl⟩
      go_wp2
      go_ret
      exact ⟨rfl, hbw⟩
end Go.Proofs.Ytocophekfbhfbaa
