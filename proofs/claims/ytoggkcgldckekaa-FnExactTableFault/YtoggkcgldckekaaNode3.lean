/-
  Chapter 5: HasByte, both sides.
-/
import Derived.Test.YtoggkcgldckekaaNode1
import Derived.Deep.RegionWith
namespace Go.Proofs.Ytoggkcgldckekaa
open Go.RowKit
set_option linter.unusedVariables false

set_option maxHeartbeats 800000 in
set_option maxRecDepth 20000 in
theorem l5Byte_any (b o : Nat) (n : Nd) (c : Int) (w : World) (hs : n.s.size ≤ 1073741824)
    (c0 : w.cell? ⟨b, o, none⟩ = some (.int .i64 n.k)) (c1 : w.cell? ⟨b, o + 1, none⟩ = some (.int .i64 n.c)) (c2 : w.cell? ⟨b, o + 2, none⟩ = some (.string n.s)) (h0 : 0 ≤ c) (h1 : c < 256) :
    Calls Try.prog 104 #[.pointer (some ⟨b, o, none⟩), .int .u8 c] w fun e w' => e = .returned (.bool (hasB n c)) ∧ Below w.heap.size w w' := by
  obtain ⟨k, d, s, l, r⟩ := n
  simp only at c0 c1 c2 hs
  obtain ⟨R, hR⟩ : ∃ R, R = hasB ⟨k, d, s, l, r⟩ c := ⟨_, rfl⟩
  rw [← hR]
  have hin := fun w' => l5In_any s c w' hs
  obtain ⟨I, hI⟩ : ∃ I, I = inB s c := ⟨_, rfl⟩
  rw [← hI] at hin
  have HI : Hid _ := hI
  clear hI
  have HIN : Hid _ := hin
  clear hin
  have BR := Below.refl w.heap.size w
  unfold hasB at hR
  simp only at hR
  rw [← HI.out] at hR
  by_cases k2 : k = 2
  · subst k2
    rw [if_pos rfl] at hR
    subst hR
    go_enter Try.func104, Try.ntmps104
    go_wp2
    go_ret
    exact ⟨by congr 2, BR⟩
  have k2' : (k == 2) = false := by simpa using k2
  rw [if_neg k2] at hR
  by_cases k3 : k = 3
  · subst k3
    rw [if_pos rfl] at hR
    by_cases c10 : c = 10
    · subst c10
      simp at hR
      subst hR
      go_enter Try.func104, Try.ntmps104
      go_wp2
      go_ret
      exact ⟨rfl, BR⟩
    · have c10' : (c == 10) = false := by simpa using c10
      simp [c10] at hR
      subst hR
      go_enter Try.func104, Try.ntmps104
      go_wp2
      go_ret
      exact ⟨ret_bool (by simp [c10]), BR⟩
  have k3' : (k == 3) = false := by simpa using k3
  rw [if_neg k3] at hR
  by_cases k4 : k = 4
  · subst k4
    rw [if_pos rfl] at hR
    subst hR
    go_enter Try.func104, Try.ntmps104
    go_wp2_with fail
    refine (HIN.out _).mono ?_
    rintro e w' ⟨rfl, rfl⟩
    go_wp2
    go_ret
    exact ⟨rfl, BR⟩
  have k4' : (k == 4) = false := by simpa using k4
  rw [if_neg k4] at hR
  by_cases k5 : k = 5
  · subst k5
    rw [if_pos rfl] at hR
    by_cases c10 : c = 10
    · subst c10
      simp at hR
      subst hR
      go_enter Try.func104, Try.ntmps104
      go_wp2
      go_ret
      exact ⟨rfl, BR⟩
    · have c10' : (c == 10) = false := by simpa using c10
      simp [c10] at hR
      subst hR
      go_enter Try.func104, Try.ntmps104
      go_wp2_with fail
      refine (HIN.out _).mono ?_
      rintro e w' ⟨rfl, rfl⟩
      go_wp2
      go_ret
      exact ⟨ret_bool (by simp [c10]), BR⟩
  have k5' : (k == 5) = false := by simpa using k5
  rw [if_neg k5] at hR
  subst hR
  go_enter Try.func104, Try.ntmps104
  go_wp2
  go_ret
  exact ⟨rfl, BR⟩

set_option maxHeartbeats 800000 in
set_option maxRecDepth 20000 in
theorem implHasByte_any (n : Nd) (c : Int) (w : World) (h0 : 0 ≤ c) (h1 : c < 256) :
    Calls Try.prog 103 #[.agg #[.int .i64 n.k, .int .i64 n.c, .string n.s, .int .i64 n.l, .int .i64 n.r], .int .u8 c] w fun e w' => e = .returned (.bool (hasB n c)) ∧ Below w.heap.size w w' := by
  obtain ⟨k, d, s, l, r⟩ := n
  simp only
  obtain ⟨R, hR⟩ : ∃ R, R = hasB ⟨k, d, s, l, r⟩ c := ⟨_, rfl⟩
  rw [← hR]
  have hin := fun w' => strIndex_any s c w'
  have hI := index_in s.data.toList c h0 h1
  obtain ⟨J, hJ⟩ : ∃ J, J = Lib.indexByte s.data.toList c.toNat.toUInt8 := ⟨_, rfl⟩
  rw [← hJ] at hin hI
  have HJ : Hid _ := hJ
  clear hJ
  have HIN : Hid _ := hin
  clear hin
  have B1 : ∀ o, Below w.heap.size w (w.alloc o) := fun o => (Below.refl _ _).alloc (Nat.le_refl _) o
  unfold hasB inB at hR
  simp only at hR
  rw [← hI] at hR
  clear hI
  obtain ⟨D, hd⟩ : ∃ D, decide (0 ≤ J) = D := ⟨_, rfl⟩
  rw [hd] at hR
  cases D
  all_goals
    have hj := hd
    simp at hj
    clear hd
    by_cases k2 : k = 2
    · subst k2
      rw [if_pos rfl] at hR
      subst hR
      go_enter Try.func103, Try.ntmps103
      go_wp2_with fail
      refine (HIN.out _).mono ?_
      rintro e w' ⟨rfl, rfl⟩
      go_wp2
      go_ret
      exact ⟨by congr 2, B1 _⟩
    have k2' : (k == 2) = false := by simpa using k2
    rw [if_neg k2] at hR
    by_cases k3 : k = 3
    · subst k3
      rw [if_pos rfl] at hR
      by_cases c10 : c = 10
      all_goals
        have c10' : (c == 10) = decide (c = 10) := by by_cases h : c = 10 <;> simp [h]
        simp only [c10] at c10'
        first | subst c10 | skip
        obtain ⟨R', hR'⟩ : ∃ R', R' = R := ⟨_, rfl⟩
        have HR : Hid _ := hR
        clear hR hR'
        go_enter Try.func103, Try.ntmps103
        go_wp2_with fail
        refine (HIN.out _).mono ?_
        rintro e w' ⟨rfl, rfl⟩
        go_wp2
        go_ret
        exact ⟨ret_bool (by first | (rw [HR.out]; simp [*]) | simp [*]), B1 _⟩
    have k3' : (k == 3) = false := by simpa using k3
    rw [if_neg k3] at hR
    by_cases k4 : k = 4
    · subst k4
      rw [if_pos rfl] at hR
      subst hR
      go_enter Try.func103, Try.ntmps103
      go_wp2_with fail
      refine (HIN.out _).mono ?_
      rintro e w' ⟨rfl, rfl⟩
      go_wp2
      go_ret
      exact ⟨ret_bool (by first | (rw [HR.out]; simp [*]) | simp [*]), B1 _⟩
    have k4' : (k == 4) = false := by simpa using k4
    rw [if_neg k4] at hR
    by_cases k5 : k = 5
    · subst k5
      rw [if_pos rfl] at hR
      by_cases c10 : c = 10
      all_goals
        have c10' : (c == 10) = decide (c = 10) := by by_cases h : c = 10 <;> simp [h]
        simp only [c10] at c10'
        first | subst c10 | skip
        obtain ⟨R', hR'⟩ : ∃ R', R' = R := ⟨_, rfl⟩
        have HR : Hid _ := hR
        clear hR hR'
        go_enter Try.func103, Try.ntmps103
        go_wp2_with fail
        refine (HIN.out _).mono ?_
        rintro e w' ⟨rfl, rfl⟩
        go_wp2
        go_ret
        exact ⟨ret_bool (by first | (rw [HR.out]; simp [*]) | simp [*]), B1 _⟩
    have k5' : (k == 5) = false := by simpa using k5
    rw [if_neg k5] at hR
    subst hR
    go_enter Try.func103, Try.ntmps103
    go_wp2_with fail
    refine (HIN.out _).mono ?_
    rintro e w' ⟨rfl, rfl⟩
    go_wp2
    go_ret
    exact ⟨rfl, B1 _⟩
end Go.Proofs.Ytoggkcgldckekaa
