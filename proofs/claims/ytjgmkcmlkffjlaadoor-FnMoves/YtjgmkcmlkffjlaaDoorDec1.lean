/-
  Contracts of the functions that read a character: the specification's.
-/
import Derived.Test.YtjgmkcmlkffjlaaDoorHlpCA
import Derived.Test.YtjgmkcmlkffjlaaDoorMath2
namespace Go.Proofs.YtjgmkcmlkffjlaaDoor
open Go.RowKit
set_option linter.unusedVariables false

set_option maxHeartbeats 400000 in
theorem l1More_any (a : Option Addr) (n ca i : Nat) (I : Int) (hI : I = (i : Int)) (xs : List Int) (w : World) (ha : Rd .u8 w a n xs) (hB : Bytes xs) (h1 : n ≤ maxLen) (h2 : i ≤ maxLen) :
    Calls Tryd.prog 78 #[.slice a n ca, .int .i64 I] w fun e w' => e = .returned (.int .i64 (more xs i)) ∧ w' = w := by
  subst hI
  unfold maxLen at h1 h2
  by_cases hi : i < n
  · obtain ⟨b, o, rfl, hc⟩ := ha.at hi
    have hci := hc i hi
    have hb := hB.at i
    have e : more xs i = if 128 ≤ xs.getD i 0 ∧ xs.getD i 0 ≤ 191 then xs.getD i 0 - 128 else -1 := by
      unfold more; simp [ha.1, hi]
    rw [e]
    clear e hc ha hB
    generalize xs.getD i 0 = x at *
    have hi' : (i : Int) < (n : Int) := by omega
    go_enter Tryd.func78, Tryd.ntmps78
    go_wp2
    all_goals (go_ret; exact ⟨rfl, rfl⟩)
  · have e : more xs i = -1 := by
      unfold more; simp [ha.1, hi]
    rw [e]
    clear e
    go_enter Tryd.func78, Tryd.ntmps78
    go_wp2
    go_ret
    exact ⟨rfl, rfl⟩

set_option maxHeartbeats 800000 in
theorem l1Decode_any (a : Option Addr) (n ca i : Nat) (xs : List Int) (w : World) (ha : Rd .u8 w a n xs) (hB : Bytes xs) (h1 : n ≤ 1073741824) (h2 : i < n) :
    Calls Tryd.prog 70 #[.slice a n ca, .int .i64 i] w fun e w' => e = .returned (.tuple #[.int .i64 (dec xs i).1, .int .i64 (dec xs i).2]) ∧ w' = w := by
  obtain ⟨b, o, rfl, hc⟩ := ha.at h2
  have hci := hc i h2
  have hb := hB.at i
  have c1 := fun w' (h : w' = w) => l1More_any _ n ca (i + 1) ((i : Int) + 1) (by omega) xs w' (h ▸ ha) hB (by unfold maxLen; omega) (by unfold maxLen; omega)
  have c2 := fun w' (h : w' = w) => l1More_any _ n ca (i + 2) ((i : Int) + 2) (by omega) xs w' (h ▸ ha) hB (by unfold maxLen; omega) (by unfold maxLen; omega)
  have m1 := more_bd (xs := xs) (i + 1)
  have m2 := more_bd (xs := xs) (i + 2)
  have C1 : Hid _ := c1
  have C2 : Hid _ := c2
  have hd : dec xs i = if xs.getD i 0 < 128 then (xs.getD i 0, 1) else if 194 ≤ xs.getD i 0 ∧ xs.getD i 0 < 224 ∧ 0 ≤ more xs (i + 1) then ((xs.getD i 0 - 192) * 64 + more xs (i + 1), 2) else dec3 (xs.getD i 0) (more xs (i + 1)) (more xs (i + 2)) := rfl
  rw [hd]
  clear c1 c2 ha hB hc hd
  generalize xs.getD i 0 = z at *
  generalize more xs (i + 1) = x at *
  generalize more xs (i + 2) = y at *
  have hi' : (i : Int) < (n : Int) := by omega
  obtain ⟨hb1, hb2⟩ := hb
  obtain ⟨m11, m12⟩ := m1
  obtain ⟨m21, m22⟩ := m2
  by_cases hz : z < 128
  · rw [if_pos hz]
    go_enter Tryd.func70, Tryd.ntmps70
    go_wp2_with fail
    go_ret2
    exact ⟨rfl, rfl⟩
  rw [if_neg hz]
  by_cases h2c : 194 ≤ z ∧ z < 224 ∧ 0 ≤ x
  · rw [if_pos h2c]
    obtain ⟨k1, k2, k3⟩ := h2c
    go_enter Tryd.func70, Tryd.ntmps70
    go_wp2_with fail
    refine (C1.out _ rfl).mono ?_
    rintro e w' ⟨rfl, rfl⟩
    go_wp2_with fail
    go_ret2
    exact ⟨rfl, rfl⟩
  rw [if_neg h2c]
  by_cases h3c : 224 ≤ z ∧ z < 240 ∧ 0 ≤ x ∧ 0 ≤ y ∧ 2048 ≤ (z - 224) * 4096 + x * 64 + y
  · obtain ⟨k1, k2, k3, k4, k5⟩ := h3c
    have hd3 : dec3 z x y = if isCh ((z - 224) * 4096 + x * 64 + y) = true then ((z - 224) * 4096 + x * 64 + y, 3) else (0, 0) := by
      unfold dec3; simp [k1, k2, k3, k4, k5]
    rw [hd3]
    clear hd3
    have hq := l1Char_any ((z - 224) * 4096 + x * 64 + y) w
    generalize hI : isCh ((z - 224) * 4096 + x * 64 + y) = q at *
    clear hI
    have HQ : Hid _ := hq
    clear hq
    have hz2 : ¬ z < 224 := by omega
    go_enter Tryd.func70, Tryd.ntmps70
    go_wp2_with fail
    refine (C1.out _ rfl).mono ?_
    rintro e w' ⟨rfl, rfl⟩
    go_wp2_with fail
    refine (C2.out _ rfl).mono ?_
    rintro e w' ⟨rfl, rfl⟩
    go_wp2_with fail
    refine Calls.mono HQ.out ?_
    rintro e w' ⟨rfl, rfl⟩
    cases q
    · go_wp2_with fail
      go_ret2
      exact ⟨rfl, rfl⟩
    · go_wp2_with fail
      go_ret2
      exact ⟨rfl, rfl⟩
  · have hd3 : dec3 z x y = (0, 0) := by
      unfold dec3; rw [if_neg]; omega
    rw [hd3]
    clear hd3
    go_enter Tryd.func70, Tryd.ntmps70
    go_wp2_with fail
    refine (C1.out _ rfl).mono ?_
    rintro e w' ⟨rfl, rfl⟩
    go_wp2_with fail
    all_goals (refine (C2.out _ rfl).mono ?_)
    all_goals (rintro e w' ⟨rfl, rfl⟩)
    all_goals go_wp2_with fail
    all_goals go_ret2
    all_goals exact ⟨rfl, rfl⟩
end Go.Proofs.YtjgmkcmlkffjlaaDoor
