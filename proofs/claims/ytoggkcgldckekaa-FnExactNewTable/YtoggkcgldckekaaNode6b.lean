/-
  Chapter 5: the program's forms of nodes.
-/
import Derived.Test.YtoggkcgldckekaaNode6
namespace Go.Proofs.Ytoggkcgldckekaa
open Go.RowKit
set_option linter.unusedVariables false
set_option linter.unusedSimpArgs false

theorem neqZero (k c : Int) (s : ByteArray) (l r : Int) (w : World) :
    (binOp .neq 127 (.agg #[.int .i64 k, .int .i64 c, .string s, .int .i64 l, .int .i64 r]) (.agg #[.int .i64 0, .int .i64 0, .string ⟨#[]⟩, .int .i64 0, .int .i64 0])).run Try.prog w = .ok (.bool (!decide ((⟨k, c, s, l, r⟩ : Nd) = nd0))) w :=
  neqNode ⟨k, c, s, l, r⟩ nd0 w

theorem formEq1 (c : Int) (s : ByteArray) (l r : Int) : (!decide ((⟨0, c, s, l, r⟩ : Nd) = nd0)) = !decide (FormP ⟨1, c, s, l, r⟩) := by
  congr 1
  rw [decide_eq_decide, ndEq_iff]
  unfold FormP eB nd0
  simp only
  constructor
  · rintro ⟨_, h1, h2, h3, h4⟩
    refine ⟨⟨by omega, by omega⟩, by first | omega | simp, ?_, by first | omega | simp, by first | omega | simp⟩
    first | exact .inr (.inr h2) | simp
  · rintro ⟨_, h1, h2, h3, h4⟩
    refine ⟨trivial, by first | trivial | omega, ?_, by first | trivial | omega, by first | trivial | omega⟩
    first | trivial | rfl | (rcases h2 with h2 | h2 | h2; omega; omega; exact h2)

theorem formEq2 (c : Int) (s : ByteArray) (l r : Int) : (!decide ((⟨0, 0, s, l, r⟩ : Nd) = nd0)) = !decide (FormP ⟨2, c, s, l, r⟩) := by
  congr 1
  rw [decide_eq_decide, ndEq_iff]
  unfold FormP eB nd0
  simp only
  constructor
  · rintro ⟨_, h1, h2, h3, h4⟩
    refine ⟨⟨by omega, by omega⟩, by first | omega | simp, ?_, by first | omega | simp, by first | omega | simp⟩
    first | exact .inr (.inr h2) | simp
  · rintro ⟨_, h1, h2, h3, h4⟩
    refine ⟨trivial, by first | trivial | omega, ?_, by first | trivial | omega, by first | trivial | omega⟩
    first | trivial | rfl | (rcases h2 with h2 | h2 | h2; omega; omega; exact h2)

theorem formEq3 (c : Int) (s : ByteArray) (l r : Int) : (!decide ((⟨0, c, s, l, r⟩ : Nd) = nd0)) = !decide (FormP ⟨3, c, s, l, r⟩) := by
  congr 1
  rw [decide_eq_decide, ndEq_iff]
  unfold FormP eB nd0
  simp only
  constructor
  · rintro ⟨_, h1, h2, h3, h4⟩
    refine ⟨⟨by omega, by omega⟩, by first | omega | simp, ?_, by first | omega | simp, by first | omega | simp⟩
    first | exact .inr (.inr h2) | simp
  · rintro ⟨_, h1, h2, h3, h4⟩
    refine ⟨trivial, by first | trivial | omega, ?_, by first | trivial | omega, by first | trivial | omega⟩
    first | trivial | rfl | (rcases h2 with h2 | h2 | h2; omega; omega; exact h2)

theorem formEq4 (c : Int) (s : ByteArray) (l r : Int) : (!decide ((⟨0, c, ⟨#[]⟩, l, r⟩ : Nd) = nd0)) = !decide (FormP ⟨4, c, s, l, r⟩) := by
  congr 1
  rw [decide_eq_decide, ndEq_iff]
  unfold FormP eB nd0
  simp only
  constructor
  · rintro ⟨_, h1, h2, h3, h4⟩
    refine ⟨⟨by omega, by omega⟩, by first | omega | simp, ?_, by first | omega | simp, by first | omega | simp⟩
    first | exact .inr (.inr h2) | simp
  · rintro ⟨_, h1, h2, h3, h4⟩
    refine ⟨trivial, by first | trivial | omega, ?_, by first | trivial | omega, by first | trivial | omega⟩
    first | trivial | rfl | (rcases h2 with h2 | h2 | h2; omega; omega; exact h2)

theorem formEq5 (c : Int) (s : ByteArray) (l r : Int) : (!decide ((⟨0, c, ⟨#[]⟩, l, r⟩ : Nd) = nd0)) = !decide (FormP ⟨5, c, s, l, r⟩) := by
  congr 1
  rw [decide_eq_decide, ndEq_iff]
  unfold FormP eB nd0
  simp only
  constructor
  · rintro ⟨_, h1, h2, h3, h4⟩
    refine ⟨⟨by omega, by omega⟩, by first | omega | simp, ?_, by first | omega | simp, by first | omega | simp⟩
    first | exact .inr (.inr h2) | simp
  · rintro ⟨_, h1, h2, h3, h4⟩
    refine ⟨trivial, by first | trivial | omega, ?_, by first | trivial | omega, by first | trivial | omega⟩
    first | trivial | rfl | (rcases h2 with h2 | h2 | h2; omega; omega; exact h2)

theorem formEq6 (c : Int) (s : ByteArray) (l r : Int) : (!decide ((⟨0, c, s, l, r⟩ : Nd) = nd0)) = !decide (FormP ⟨6, c, s, l, r⟩) := by
  congr 1
  rw [decide_eq_decide, ndEq_iff]
  unfold FormP eB nd0
  simp only
  constructor
  · rintro ⟨_, h1, h2, h3, h4⟩
    refine ⟨⟨by omega, by omega⟩, by first | omega | simp, ?_, by first | omega | simp, by first | omega | simp⟩
    first | exact .inr (.inr h2) | simp
  · rintro ⟨_, h1, h2, h3, h4⟩
    refine ⟨trivial, by first | trivial | omega, ?_, by first | trivial | omega, by first | trivial | omega⟩
    first | trivial | rfl | (rcases h2 with h2 | h2 | h2; omega; omega; exact h2)

theorem formEq7 (c : Int) (s : ByteArray) (l r : Int) : (!decide ((⟨0, c, s, l, r⟩ : Nd) = nd0)) = !decide (FormP ⟨7, c, s, l, r⟩) := by
  congr 1
  rw [decide_eq_decide, ndEq_iff]
  unfold FormP eB nd0
  simp only
  constructor
  · rintro ⟨_, h1, h2, h3, h4⟩
    refine ⟨⟨by omega, by omega⟩, by first | omega | simp, ?_, by first | omega | simp, by first | omega | simp⟩
    first | exact .inr (.inr h2) | simp
  · rintro ⟨_, h1, h2, h3, h4⟩
    refine ⟨trivial, by first | trivial | omega, ?_, by first | trivial | omega, by first | trivial | omega⟩
    first | trivial | rfl | (rcases h2 with h2 | h2 | h2; omega; omega; exact h2)

theorem formEq8 (c : Int) (s : ByteArray) (l r : Int) : (!decide ((⟨0, c, s, 0, r⟩ : Nd) = nd0)) = !decide (FormP ⟨8, c, s, l, r⟩) := by
  congr 1
  rw [decide_eq_decide, ndEq_iff]
  unfold FormP eB nd0
  simp only
  constructor
  · rintro ⟨_, h1, h2, h3, h4⟩
    refine ⟨⟨by omega, by omega⟩, by first | omega | simp, ?_, by first | omega | simp, by first | omega | simp⟩
    first | exact .inr (.inr h2) | simp
  · rintro ⟨_, h1, h2, h3, h4⟩
    refine ⟨trivial, by first | trivial | omega, ?_, by first | trivial | omega, by first | trivial | omega⟩
    first | trivial | rfl | (rcases h2 with h2 | h2 | h2; omega; omega; exact h2)

theorem formEq9 (c : Int) (s : ByteArray) (l r : Int) : (!decide ((⟨0, c, s, 0, r⟩ : Nd) = nd0)) = !decide (FormP ⟨9, c, s, l, r⟩) := by
  congr 1
  rw [decide_eq_decide, ndEq_iff]
  unfold FormP eB nd0
  simp only
  constructor
  · rintro ⟨_, h1, h2, h3, h4⟩
    refine ⟨⟨by omega, by omega⟩, by first | omega | simp, ?_, by first | omega | simp, by first | omega | simp⟩
    first | exact .inr (.inr h2) | simp
  · rintro ⟨_, h1, h2, h3, h4⟩
    refine ⟨trivial, by first | trivial | omega, ?_, by first | trivial | omega, by first | trivial | omega⟩
    first | trivial | rfl | (rcases h2 with h2 | h2 | h2; omega; omega; exact h2)

theorem formEq10 (c : Int) (s : ByteArray) (l r : Int) : (!decide ((⟨0, c, s, 0, r⟩ : Nd) = nd0)) = !decide (FormP ⟨10, c, s, l, r⟩) := by
  congr 1
  rw [decide_eq_decide, ndEq_iff]
  unfold FormP eB nd0
  simp only
  constructor
  · rintro ⟨_, h1, h2, h3, h4⟩
    refine ⟨⟨by omega, by omega⟩, by first | omega | simp, ?_, by first | omega | simp, by first | omega | simp⟩
    first | exact .inr (.inr h2) | simp
  · rintro ⟨_, h1, h2, h3, h4⟩
    refine ⟨trivial, by first | trivial | omega, ?_, by first | trivial | omega, by first | trivial | omega⟩
    first | trivial | rfl | (rcases h2 with h2 | h2 | h2; omega; omega; exact h2)

theorem formEq11 (c : Int) (s : ByteArray) (l r : Int) : (!decide ((⟨0, c, s, 0, 0⟩ : Nd) = nd0)) = !decide (FormP ⟨11, c, s, l, r⟩) := by
  congr 1
  rw [decide_eq_decide, ndEq_iff]
  unfold FormP eB nd0
  simp only
  constructor
  · rintro ⟨_, h1, h2, h3, h4⟩
    refine ⟨⟨by omega, by omega⟩, by first | omega | simp, ?_, by first | omega | simp, by first | omega | simp⟩
    first | exact .inr (.inr h2) | simp
  · rintro ⟨_, h1, h2, h3, h4⟩
    refine ⟨trivial, by first | trivial | omega, ?_, by first | trivial | omega, by first | trivial | omega⟩
    first | trivial | rfl | (rcases h2 with h2 | h2 | h2; omega; omega; exact h2)

theorem formEq12 (c : Int) (s : ByteArray) (l r : Int) : (!decide ((⟨0, c, s, 0, 0⟩ : Nd) = nd0)) = !decide (FormP ⟨12, c, s, l, r⟩) := by
  congr 1
  rw [decide_eq_decide, ndEq_iff]
  unfold FormP eB nd0
  simp only
  constructor
  · rintro ⟨_, h1, h2, h3, h4⟩
    refine ⟨⟨by omega, by omega⟩, by first | omega | simp, ?_, by first | omega | simp, by first | omega | simp⟩
    first | exact .inr (.inr h2) | simp
  · rintro ⟨_, h1, h2, h3, h4⟩
    refine ⟨trivial, by first | trivial | omega, ?_, by first | trivial | omega, by first | trivial | omega⟩
    first | trivial | rfl | (rcases h2 with h2 | h2 | h2; omega; omega; exact h2)

set_option maxHeartbeats 1600000 in
set_option maxRecDepth 20000 in
theorem hasTooMuch_any (n : Nd) (w : World) :
    Calls Try.prog 146 #[.agg #[.int .i64 n.k, .int .i64 n.c, .string n.s, .int .i64 n.l, .int .i64 n.r]] w fun e w' => e = .returned (.bool (!decide (FormP n))) ∧ Below w.heap.size w w' := by
  obtain ⟨k, c, s, l, r⟩ := n
  simp only
  obtain ⟨R, hR⟩ : ∃ R, R = !decide (FormP ⟨k, c, s, l, r⟩) := ⟨_, rfl⟩
  rw [← hR]
  have HR : Hid (R = !decide (FormP ⟨k, c, s, l, r⟩)) := hR
  clear hR
  have hne := neqZero
  have hg := guardNode
  have B1 : ∀ o, Below w.heap.size w (w.alloc o) := fun o => (Below.refl _ _).alloc (Nat.le_refl _) o
  by_cases hI : 1 ≤ k ∧ k ≤ 12
  case neg =>
    have hf : R = true := by rw [HR.out, decide_eq_false (fun h => hI h.1)]; rfl
    rw [hf]
    have e1 : (k == 1) = false := by simp; omega
    have e2 : (k == 2) = false := by simp; omega
    have e3 : (k == 3) = false := by simp; omega
    have e4 : (k == 4) = false := by simp; omega
    have e5 : (k == 5) = false := by simp; omega
    have e6 : (k == 6) = false := by simp; omega
    have e7 : (k == 7) = false := by simp; omega
    have e8 : (k == 8) = false := by simp; omega
    have e9 : (k == 9) = false := by simp; omega
    have e10 : (k == 10) = false := by simp; omega
    have e11 : (k == 11) = false := by simp; omega
    have e12 : (k == 12) = false := by simp; omega
    clear hI
    go_enter Try.func146, Try.ntmps146
    go_wp2
    go_ret
    exact ⟨rfl, B1 _⟩
  have hcls : k = 1 ∨ k = 2 ∨ k = 3 ∨ k = 4 ∨ k = 5 ∨ k = 6 ∨ k = 7 ∨ k = 8 ∨ k = 9 ∨ k = 10 ∨ k = 11 ∨ k = 12 := by omega
  clear hI
  rcases hcls with rfl | rfl | rfl | rfl | rfl | rfl | rfl | rfl | rfl | rfl | rfl | rfl
  · go_enter Try.func146, Try.ntmps146
    go_wp2
    go_ret
    refine ⟨ret_bool ?_, B1 _⟩
    exact (formEq1 c s l r).trans HR.out.symm
  · go_enter Try.func146, Try.ntmps146
    go_wp2
    go_ret
    refine ⟨ret_bool ?_, B1 _⟩
    exact (formEq2 c s l r).trans HR.out.symm
  · go_enter Try.func146, Try.ntmps146
    go_wp2
    go_ret
    refine ⟨ret_bool ?_, B1 _⟩
    exact (formEq3 c s l r).trans HR.out.symm
  · go_enter Try.func146, Try.ntmps146
    go_wp2
    go_ret
    refine ⟨ret_bool ?_, B1 _⟩
    exact (formEq4 c s l r).trans HR.out.symm
  · go_enter Try.func146, Try.ntmps146
    go_wp2
    go_ret
    refine ⟨ret_bool ?_, B1 _⟩
    exact (formEq5 c s l r).trans HR.out.symm
  · go_enter Try.func146, Try.ntmps146
    go_wp2
    go_ret
    refine ⟨ret_bool ?_, B1 _⟩
    exact (formEq6 c s l r).trans HR.out.symm
  · go_enter Try.func146, Try.ntmps146
    go_wp2
    go_ret
    refine ⟨ret_bool ?_, B1 _⟩
    exact (formEq7 c s l r).trans HR.out.symm
  · go_enter Try.func146, Try.ntmps146
    go_wp2
    go_ret
    refine ⟨ret_bool ?_, B1 _⟩
    exact (formEq8 c s l r).trans HR.out.symm
  · go_enter Try.func146, Try.ntmps146
    go_wp2
    go_ret
    refine ⟨ret_bool ?_, B1 _⟩
    exact (formEq9 c s l r).trans HR.out.symm
  · go_enter Try.func146, Try.ntmps146
    go_wp2
    go_ret
    refine ⟨ret_bool ?_, B1 _⟩
    exact (formEq10 c s l r).trans HR.out.symm
  · go_enter Try.func146, Try.ntmps146
    go_wp2
    go_ret
    refine ⟨ret_bool ?_, B1 _⟩
    exact (formEq11 c s l r).trans HR.out.symm
  · go_enter Try.func146, Try.ntmps146
    go_wp2
    go_ret
    refine ⟨ret_bool ?_, B1 _⟩
    exact (formEq12 c s l r).trans HR.out.symm

set_option maxHeartbeats 1600000 in
set_option maxRecDepth 20000 in
theorem bytesAreRight_any (n : Nd) (w : World) (hs : n.s.size ≤ 1073741824) :
    Calls Try.prog 147 #[.agg #[.int .i64 n.k, .int .i64 n.c, .string n.s, .int .i64 n.l, .int .i64 n.r]] w fun e w' => e = .returned (.bool (rangeB n)) ∧ Below w.heap.size w w' := by
  obtain ⟨k, c, s, l, r⟩ := n
  simp only at hs ⊢
  obtain ⟨R, hR⟩ : ∃ R, R = rangeB ⟨k, c, s, l, r⟩ := ⟨_, rfl⟩
  rw [← hR]
  unfold rangeB at hR
  simp only at hR
  have HR : Hid _ := hR
  clear hR
  have B1 : ∀ o, Below w.heap.size w (w.alloc o) := fun o => (Below.refl _ _).alloc (Nat.le_refl _) o
  by_cases k2 : k = 2
  · subst k2
    by_cases h1 : 32 ≤ c
    · go_enter Try.func147, Try.ntmps147
      go_wp2
      go_ret
      exact ⟨ret_bool (by rw [HR.out]; simp [h1]), B1 _⟩
    · go_enter Try.func147, Try.ntmps147
      go_wp2
      go_ret
      exact ⟨ret_bool (by rw [HR.out]; simp; omega), B1 _⟩
  have k2' : (k == 2) = false := by simpa using k2
  by_cases kH : k = 4 ∨ k = 5
  · have hrR : R = setB s := by rw [HR.out, if_neg k2, if_pos kH]
    unfold setB at hrR
    have CA : Hid _ := fun w' => areChars_any s w' hs
    have CR : Hid _ := fun w' => isRising_any s w' hs
    obtain ⟨A, hA⟩ : ∃ A, A = charsB s.data.toList := ⟨_, rfl⟩
    obtain ⟨I, hI⟩ : ∃ I, I = risingB s.data.toList := ⟨_, rfl⟩
    rw [← hA] at CA hrR
    rw [← hI] at CR hrR
    have HRR : Hid _ := hrR
    clear hrR hA hI k2
    rcases kH with rfl | rfl
    all_goals
      by_cases h1 : 1 ≤ s.size
      · have h1' : (1 : Int) ≤ (s.size : Int) := by omega
        by_cases h20 : s.size ≤ 20
        · have h20' : (s.size : Int) ≤ 20 := by omega
          cases A
          · go_enter Try.func147, Try.ntmps147
            go_wp2_with fail
            refine (CA.out _).mono ?_
            rintro e w1 ⟨rfl, hb1⟩
            go_wp2
            go_ret
            exact ⟨ret_bool (by rw [HRR.out]; simp), (B1 _).trans (hb1.mono (by simp))⟩
          · go_enter Try.func147, Try.ntmps147
            go_wp2_with fail
            refine (CA.out _).mono ?_
            rintro e w1 ⟨rfl, hb1⟩
            have c2 : w1.cell? ⟨w.heap.size, 2, none⟩ = some (.string s) := (hb1.cell (p := ⟨w.heap.size, 2, none⟩) (by simp)).trans (by simp)
            have hb01 := (B1 _).trans (hb1.mono (by simp))
            clear hb1
            go_wp2_with fail
            refine (CR.out _).mono ?_
            rintro e w2 ⟨rfl, hb2⟩
            go_wp2
            go_ret
            exact ⟨ret_bool (by rw [HRR.out]; simp [h1, h20]), hb01.trans (hb2.mono hb01.size)⟩
        · have h20' : ¬ (s.size : Int) ≤ 20 := by omega
          go_enter Try.func147, Try.ntmps147
          go_wp2
          go_ret
          exact ⟨ret_bool (by rw [HRR.out]; simp [h20]), B1 _⟩
      · have h1' : ¬ (1 : Int) ≤ (s.size : Int) := by omega
        go_enter Try.func147, Try.ntmps147
        go_wp2
        go_ret
        exact ⟨ret_bool (by rw [HRR.out]; simp [h1]), B1 _⟩
  · have hrR : R = true := by rw [HR.out, if_neg k2, if_neg kH]
    rw [hrR]
    have k4' : (k == 4) = false := by simp; omega
    have k5' : (k == 5) = false := by simp; omega
    go_enter Try.func147, Try.ntmps147
    go_wp2
    go_ret
    exact ⟨rfl, B1 _⟩
end Go.Proofs.Ytoggkcgldckekaa
