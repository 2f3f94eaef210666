/-
  Chapter 5: the specification's NodesFault: kinds, forms, sets.
-/
import Derived.Test.YtocophekfbhfbaaNodeFA
import Derived.Test.YtocophekfbhfbaaNode1
import Derived.Test.YtocophekfbhfbaaHlp1
import Derived.Deep.RegionWith
namespace Go.Proofs.Ytocophekfbhfbaa
open Go.RowKit
set_option linter.unusedVariables false
set_option linter.unusedSimpArgs false

theorem in5_any (x y z : Int) (w : World) :
    Calls Try.prog 77 #[.int .i64 x, .int .i64 y, .int .i64 z] w fun e w' => e = .returned (.bool (decide (y ≤ x ∧ x ≤ z))) ∧ w' = w := by
  go_enter Try.func77, Try.ntmps77
  go_wp2
  all_goals go_ret
  all_goals refine ⟨ret_bool ?_, rfl⟩
  all_goals (rw [Bool.eq_iff_iff]; simp; try omega)

theorem in5_is (x y z : Int) (b : Bool) (w : World) (h : decide (y ≤ x ∧ x ≤ z) = b) :
    Calls Try.prog 77 #[.int .i64 x, .int .i64 y, .int .i64 z] w fun e w' => e = .returned (.bool b) ∧ w' = w :=
  (in5_any x y z w).mono fun e w' ⟨he, hw⟩ => ⟨by rw [he, h], hw⟩

theorem l5One_is (k : Int) (b : Bool) (w : World) (h : decide (8 ≤ k ∧ k ≤ 10) = b) : Calls Try.prog 219 #[.int .i64 k] w fun e w' => e = .returned (.bool b) ∧ w' = w := by
  have h' := fun w' => in5_is k 8 10 b w' h
  have HH : Hid _ := h'
  clear h' h
  go_enter Try.func219, Try.ntmps219
  go_wp2_with fail
  refine (HH.out _).mono ?_
  rintro e w1 ⟨rfl, rfl⟩
  go_wp2
  go_ret
  exact ⟨rfl, rfl⟩

theorem l5Two_is (k : Int) (b : Bool) (w : World) (h : decide (k = 11 ∨ k = 12) = b) : Calls Try.prog 220 #[.int .i64 k] w fun e w' => e = .returned (.bool b) ∧ w' = w := by
  by_cases h1 : k = 11
  · subst h1
    obtain rfl : true = b := by simpa using h
    go_enter Try.func220, Try.ntmps220
    go_wp2
    go_ret
    exact ⟨rfl, rfl⟩
  · have h1' : (k == 11) = false := by simpa using h1
    by_cases h2 : k = 12
    · subst h2
      obtain rfl : true = b := by simpa using h
      go_enter Try.func220, Try.ntmps220
      go_wp2
      go_ret
      exact ⟨rfl, rfl⟩
    · have h2' : (k == 12) = false := by simpa using h2
      obtain rfl : b = false := by rw [← h]; simp [h1, h2]
      go_enter Try.func220, Try.ntmps220
      go_wp2
      go_ret
      exact ⟨ret_bool (by simp [h1, h2]), rfl⟩

theorem l5Has_is (k : Int) (b : Bool) (w : World) (h : decide (k = 4 ∨ k = 5) = b) : Calls Try.prog 180 #[.int .i64 k] w fun e w' => e = .returned (.bool b) ∧ w' = w := by
  by_cases h1 : k = 4
  · subst h1
    obtain rfl : true = b := by simpa using h
    go_enter Try.func180, Try.ntmps180
    go_wp2
    go_ret
    exact ⟨rfl, rfl⟩
  · have h1' : (k == 4) = false := by simpa using h1
    by_cases h2 : k = 5
    · subst h2
      obtain rfl : true = b := by simpa using h
      go_enter Try.func180, Try.ntmps180
      go_wp2
      go_ret
      exact ⟨rfl, rfl⟩
    · have h2' : (k == 5) = false := by simpa using h2
      obtain rfl : b = false := by rw [← h]; simp [h1, h2]
      go_enter Try.func180, Try.ntmps180
      go_wp2
      go_ret
      exact ⟨ret_bool (by simp [h1, h2]), rfl⟩

theorem emptyL : ByteArray.toList ⟨#[]⟩ = [] := by rw [ByteArray.toList_eq]

theorem formNo {n : Nd} (h : ¬ FormP n) : false = decide (FormP n) := (decide_eq_false h).symm
theorem formYes {n : Nd} (h : FormP n) : true = decide (FormP n) := (decide_eq_true h).symm

set_option maxHeartbeats 4000000 in
set_option maxRecDepth 20000 in
theorem l5Form_any (b o : Nat) (n : Nd) (w : World)
    (c0 : w.cell? ⟨b, o, none⟩ = some (.int .i64 n.k)) (c1 : w.cell? ⟨b, o + 1, none⟩ = some (.int .i64 n.c)) (c2 : w.cell? ⟨b, o + 2, none⟩ = some (.string n.s)) (c3 : w.cell? ⟨b, o + 3, none⟩ = some (.int .i64 n.l)) (c4 : w.cell? ⟨b, o + 4, none⟩ = some (.int .i64 n.r)) :
    Calls Try.prog 179 #[.pointer (some ⟨b, o, none⟩)] w fun e w' => e = .returned (.bool (decide (FormP n))) ∧ w' = w := by
  obtain ⟨k, c, s, l, r⟩ := n
  simp only at c0 c1 c2 c3 c4
  obtain ⟨R, hR⟩ : ∃ R, R = decide (FormP ⟨k, c, s, l, r⟩) := ⟨_, rfl⟩
  rw [← hR]
  have HR : Hid (R = decide (FormP ⟨k, c, s, l, r⟩)) := hR
  clear hR
  by_cases hI : 1 ≤ k ∧ k ≤ 12
  case neg =>
    have CI : Hid _ := fun w' => in5_is k 1 12 false w' (by simpa using hI)
    obtain ⟨R', h0⟩ : ∃ R', R' = R := ⟨_, rfl⟩
    have hf : R = false := by rw [HR.out]; exact decide_eq_false (fun h => hI h.1)
    rw [hf]
    clear hI
    go_enter Try.func179, Try.ntmps179
    go_wp2_with fail
    refine (CI.out _).mono ?_
    rintro e w1 ⟨rfl, rfl⟩
    go_wp2
    go_ret
    exact ⟨rfl, rfl⟩
  have CI : Hid _ := fun w' => in5_is k 1 12 true w' (by simpa using hI)
  have hcls : k = 2 ∨ (k = 4 ∨ k = 5) ∨ (k = 11 ∨ k = 12) ∨ (8 ≤ k ∧ k ≤ 10) ∨ (k = 1 ∨ k = 3 ∨ k = 6 ∨ k = 7) := by omega
  clear hI
  rcases hcls with rfl | (rfl | rfl) | (rfl | rfl) | hO | (rfl | rfl | rfl | rfl)
  · have CH : Hid _ := fun w' => l5Has_is 2 false w' (by decide)
    have CT : Hid _ := fun w' => l5Two_is 2 false w' (by decide)
    have CO : Hid _ := fun w' => l5One_is 2 false w' (by decide)
    by_cases hs : s = eB
    · unfold eB at hs
      subst hs
      have hs : (⟨#[]⟩ : ByteArray) = eB := rfl
      by_cases hr : r = 0
      · subst hr
        by_cases hl : l = 0
        · subst hl
          have hfin : R = true := HR.out.trans (decide_eq_true ⟨(by constructor <;> simp), .inl rfl, .inr (.inr rfl), .inr (.inr rfl), .inr rfl⟩)
          have HFI : Hid _ := hfin
          clear hfin
          go_enter Try.func179, Try.ntmps179
          go_wp2_with (first | (go_at_call 77; refine (CI.out _).mono ?_; rintro e w1 ⟨rfl, rfl⟩) | (go_at_call 180; refine (CH.out _).mono ?_; rintro e w1 ⟨rfl, rfl⟩) | (go_at_call 220; refine (CT.out _).mono ?_; rintro e w1 ⟨rfl, rfl⟩) | (go_at_call 219; refine (CO.out _).mono ?_; rintro e w1 ⟨rfl, rfl⟩))
          go_ret
          exact ⟨ret_bool (by first | (rw [HFI.out]; done) | (rw [HFI.out]; simp [*])), rfl⟩
        · have hl' : (l == 0) = false := by simpa using hl
          have hfin : R = false := HR.out.trans (decide_eq_false (fun h => by have g := h.2.2.2.2; simp only at g; omega))
          have HFI : Hid _ := hfin
          clear hfin
          go_enter Try.func179, Try.ntmps179
          go_wp2_with (first | (go_at_call 77; refine (CI.out _).mono ?_; rintro e w1 ⟨rfl, rfl⟩) | (go_at_call 180; refine (CH.out _).mono ?_; rintro e w1 ⟨rfl, rfl⟩) | (go_at_call 220; refine (CT.out _).mono ?_; rintro e w1 ⟨rfl, rfl⟩) | (go_at_call 219; refine (CO.out _).mono ?_; rintro e w1 ⟨rfl, rfl⟩))
          go_ret
          exact ⟨ret_bool (by first | (rw [HFI.out]; done) | (rw [HFI.out]; simp [*])), rfl⟩
      · have hr' : (r == 0) = false := by simpa using hr
        have hfin : R = false := HR.out.trans (decide_eq_false (fun h => by have g := h.2.2.2.1; simp only at g; omega))
        have HFI : Hid _ := hfin
        clear hfin
        go_enter Try.func179, Try.ntmps179
        go_wp2_with (first | (go_at_call 77; refine (CI.out _).mono ?_; rintro e w1 ⟨rfl, rfl⟩) | (go_at_call 180; refine (CH.out _).mono ?_; rintro e w1 ⟨rfl, rfl⟩) | (go_at_call 220; refine (CT.out _).mono ?_; rintro e w1 ⟨rfl, rfl⟩) | (go_at_call 219; refine (CO.out _).mono ?_; rintro e w1 ⟨rfl, rfl⟩))
        go_ret
        exact ⟨ret_bool (by first | (rw [HFI.out]; done) | (rw [HFI.out]; simp [*])), rfl⟩
    · have hs2 : ¬ s.toList = ByteArray.toList ⟨#[]⟩ := fun h => hs ((baList _ _).1 h)
      have hs3 : s.toList.isEmpty = false := by
        cases hq : s.toList with
        | nil => exact absurd (by rw [hq]; exact emptyL.symm) hs2
        | cons a b => rfl
      have hfin : R = false := HR.out.trans (decide_eq_false (fun h => by have g := h.2.2.1; simp only at g; rcases g with g | g | g; omega; omega; exact hs g))
      have HFI : Hid _ := hfin
      clear hfin
      go_enter Try.func179, Try.ntmps179
      go_wp2_with (first | (go_at_call 77; refine (CI.out _).mono ?_; rintro e w1 ⟨rfl, rfl⟩) | (go_at_call 180; refine (CH.out _).mono ?_; rintro e w1 ⟨rfl, rfl⟩) | (go_at_call 220; refine (CT.out _).mono ?_; rintro e w1 ⟨rfl, rfl⟩) | (go_at_call 219; refine (CO.out _).mono ?_; rintro e w1 ⟨rfl, rfl⟩))
      go_ret
      exact ⟨ret_bool (by first | (rw [HFI.out]; done) | (rw [HFI.out]; simp [*])), rfl⟩
  · have CH : Hid _ := fun w' => l5Has_is 4 true w' (by decide)
    have CT : Hid _ := fun w' => l5Two_is 4 false w' (by decide)
    have CO : Hid _ := fun w' => l5One_is 4 false w' (by decide)
    by_cases hc : c = 0
    · subst hc
      by_cases hr : r = 0
      · subst hr
        by_cases hl : l = 0
        · subst hl
          have hfin : R = true := HR.out.trans (decide_eq_true ⟨(by constructor <;> simp), .inr rfl, .inl rfl, .inr (.inr rfl), .inr rfl⟩)
          have HFI : Hid _ := hfin
          clear hfin
          go_enter Try.func179, Try.ntmps179
          go_wp2_with (first | (go_at_call 77; refine (CI.out _).mono ?_; rintro e w1 ⟨rfl, rfl⟩) | (go_at_call 180; refine (CH.out _).mono ?_; rintro e w1 ⟨rfl, rfl⟩) | (go_at_call 220; refine (CT.out _).mono ?_; rintro e w1 ⟨rfl, rfl⟩) | (go_at_call 219; refine (CO.out _).mono ?_; rintro e w1 ⟨rfl, rfl⟩))
          go_ret
          exact ⟨ret_bool (by first | (rw [HFI.out]; done) | (rw [HFI.out]; simp [*])), rfl⟩
        · have hl' : (l == 0) = false := by simpa using hl
          have hfin : R = false := HR.out.trans (decide_eq_false (fun h => by have g := h.2.2.2.2; simp only at g; omega))
          have HFI : Hid _ := hfin
          clear hfin
          go_enter Try.func179, Try.ntmps179
          go_wp2_with (first | (go_at_call 77; refine (CI.out _).mono ?_; rintro e w1 ⟨rfl, rfl⟩) | (go_at_call 180; refine (CH.out _).mono ?_; rintro e w1 ⟨rfl, rfl⟩) | (go_at_call 220; refine (CT.out _).mono ?_; rintro e w1 ⟨rfl, rfl⟩) | (go_at_call 219; refine (CO.out _).mono ?_; rintro e w1 ⟨rfl, rfl⟩))
          go_ret
          exact ⟨ret_bool (by first | (rw [HFI.out]; done) | (rw [HFI.out]; simp [*])), rfl⟩
      · have hr' : (r == 0) = false := by simpa using hr
        have hfin : R = false := HR.out.trans (decide_eq_false (fun h => by have g := h.2.2.2.1; simp only at g; omega))
        have HFI : Hid _ := hfin
        clear hfin
        go_enter Try.func179, Try.ntmps179
        go_wp2_with (first | (go_at_call 77; refine (CI.out _).mono ?_; rintro e w1 ⟨rfl, rfl⟩) | (go_at_call 180; refine (CH.out _).mono ?_; rintro e w1 ⟨rfl, rfl⟩) | (go_at_call 220; refine (CT.out _).mono ?_; rintro e w1 ⟨rfl, rfl⟩) | (go_at_call 219; refine (CO.out _).mono ?_; rintro e w1 ⟨rfl, rfl⟩))
        go_ret
        exact ⟨ret_bool (by first | (rw [HFI.out]; done) | (rw [HFI.out]; simp [*])), rfl⟩
    · have hc' : (c == 0) = false := by simpa using hc
      have hfin : R = false := HR.out.trans (decide_eq_false (fun h => by have g := h.2.1; simp only at g; omega))
      have HFI : Hid _ := hfin
      clear hfin
      go_enter Try.func179, Try.ntmps179
      go_wp2_with (first | (go_at_call 77; refine (CI.out _).mono ?_; rintro e w1 ⟨rfl, rfl⟩) | (go_at_call 180; refine (CH.out _).mono ?_; rintro e w1 ⟨rfl, rfl⟩) | (go_at_call 220; refine (CT.out _).mono ?_; rintro e w1 ⟨rfl, rfl⟩) | (go_at_call 219; refine (CO.out _).mono ?_; rintro e w1 ⟨rfl, rfl⟩))
      go_ret
      exact ⟨ret_bool (by first | (rw [HFI.out]; done) | (rw [HFI.out]; simp [*])), rfl⟩
  · have CH : Hid _ := fun w' => l5Has_is 5 true w' (by decide)
    have CT : Hid _ := fun w' => l5Two_is 5 false w' (by decide)
    have CO : Hid _ := fun w' => l5One_is 5 false w' (by decide)
    by_cases hc : c = 0
    · subst hc
      by_cases hr : r = 0
      · subst hr
        by_cases hl : l = 0
        · subst hl
          have hfin : R = true := HR.out.trans (decide_eq_true ⟨(by constructor <;> simp), .inr rfl, .inr (.inl rfl), .inr (.inr rfl), .inr rfl⟩)
          have HFI : Hid _ := hfin
          clear hfin
          go_enter Try.func179, Try.ntmps179
          go_wp2_with (first | (go_at_call 77; refine (CI.out _).mono ?_; rintro e w1 ⟨rfl, rfl⟩) | (go_at_call 180; refine (CH.out _).mono ?_; rintro e w1 ⟨rfl, rfl⟩) | (go_at_call 220; refine (CT.out _).mono ?_; rintro e w1 ⟨rfl, rfl⟩) | (go_at_call 219; refine (CO.out _).mono ?_; rintro e w1 ⟨rfl, rfl⟩))
          go_ret
          exact ⟨ret_bool (by first | (rw [HFI.out]; done) | (rw [HFI.out]; simp [*])), rfl⟩
        · have hl' : (l == 0) = false := by simpa using hl
          have hfin : R = false := HR.out.trans (decide_eq_false (fun h => by have g := h.2.2.2.2; simp only at g; omega))
          have HFI : Hid _ := hfin
          clear hfin
          go_enter Try.func179, Try.ntmps179
          go_wp2_with (first | (go_at_call 77; refine (CI.out _).mono ?_; rintro e w1 ⟨rfl, rfl⟩) | (go_at_call 180; refine (CH.out _).mono ?_; rintro e w1 ⟨rfl, rfl⟩) | (go_at_call 220; refine (CT.out _).mono ?_; rintro e w1 ⟨rfl, rfl⟩) | (go_at_call 219; refine (CO.out _).mono ?_; rintro e w1 ⟨rfl, rfl⟩))
          go_ret
          exact ⟨ret_bool (by first | (rw [HFI.out]; done) | (rw [HFI.out]; simp [*])), rfl⟩
      · have hr' : (r == 0) = false := by simpa using hr
        have hfin : R = false := HR.out.trans (decide_eq_false (fun h => by have g := h.2.2.2.1; simp only at g; omega))
        have HFI : Hid _ := hfin
        clear hfin
        go_enter Try.func179, Try.ntmps179
        go_wp2_with (first | (go_at_call 77; refine (CI.out _).mono ?_; rintro e w1 ⟨rfl, rfl⟩) | (go_at_call 180; refine (CH.out _).mono ?_; rintro e w1 ⟨rfl, rfl⟩) | (go_at_call 220; refine (CT.out _).mono ?_; rintro e w1 ⟨rfl, rfl⟩) | (go_at_call 219; refine (CO.out _).mono ?_; rintro e w1 ⟨rfl, rfl⟩))
        go_ret
        exact ⟨ret_bool (by first | (rw [HFI.out]; done) | (rw [HFI.out]; simp [*])), rfl⟩
    · have hc' : (c == 0) = false := by simpa using hc
      have hfin : R = false := HR.out.trans (decide_eq_false (fun h => by have g := h.2.1; simp only at g; omega))
      have HFI : Hid _ := hfin
      clear hfin
      go_enter Try.func179, Try.ntmps179
      go_wp2_with (first | (go_at_call 77; refine (CI.out _).mono ?_; rintro e w1 ⟨rfl, rfl⟩) | (go_at_call 180; refine (CH.out _).mono ?_; rintro e w1 ⟨rfl, rfl⟩) | (go_at_call 220; refine (CT.out _).mono ?_; rintro e w1 ⟨rfl, rfl⟩) | (go_at_call 219; refine (CO.out _).mono ?_; rintro e w1 ⟨rfl, rfl⟩))
      go_ret
      exact ⟨ret_bool (by first | (rw [HFI.out]; done) | (rw [HFI.out]; simp [*])), rfl⟩
  · have CH : Hid _ := fun w' => l5Has_is 11 false w' (by decide)
    have CT : Hid _ := fun w' => l5Two_is 11 true w' (by decide)
    have CO : Hid _ := fun w' => l5One_is 11 false w' (by decide)
    by_cases hc : c = 0
    · subst hc
      by_cases hs : s = eB
      · unfold eB at hs
        subst hs
        have hs : (⟨#[]⟩ : ByteArray) = eB := rfl
        have hfin : R = true := HR.out.trans (decide_eq_true ⟨(by constructor <;> simp), .inr rfl, .inr (.inr rfl), .inl rfl, .inl (by simp)⟩)
        have HFI : Hid _ := hfin
        clear hfin
        go_enter Try.func179, Try.ntmps179
        go_wp2_with (first | (go_at_call 77; refine (CI.out _).mono ?_; rintro e w1 ⟨rfl, rfl⟩) | (go_at_call 180; refine (CH.out _).mono ?_; rintro e w1 ⟨rfl, rfl⟩) | (go_at_call 220; refine (CT.out _).mono ?_; rintro e w1 ⟨rfl, rfl⟩) | (go_at_call 219; refine (CO.out _).mono ?_; rintro e w1 ⟨rfl, rfl⟩))
        go_ret
        exact ⟨ret_bool (by first | (rw [HFI.out]; done) | (rw [HFI.out]; simp [*])), rfl⟩
      · have hs2 : ¬ s.toList = ByteArray.toList ⟨#[]⟩ := fun h => hs ((baList _ _).1 h)
        have hs3 : s.toList.isEmpty = false := by
          cases hq : s.toList with
          | nil => exact absurd (by rw [hq]; exact emptyL.symm) hs2
          | cons a b => rfl
        have hfin : R = false := HR.out.trans (decide_eq_false (fun h => by have g := h.2.2.1; simp only at g; rcases g with g | g | g; omega; omega; exact hs g))
        have HFI : Hid _ := hfin
        clear hfin
        go_enter Try.func179, Try.ntmps179
        go_wp2_with (first | (go_at_call 77; refine (CI.out _).mono ?_; rintro e w1 ⟨rfl, rfl⟩) | (go_at_call 180; refine (CH.out _).mono ?_; rintro e w1 ⟨rfl, rfl⟩) | (go_at_call 220; refine (CT.out _).mono ?_; rintro e w1 ⟨rfl, rfl⟩) | (go_at_call 219; refine (CO.out _).mono ?_; rintro e w1 ⟨rfl, rfl⟩))
        go_ret
        exact ⟨ret_bool (by first | (rw [HFI.out]; done) | (rw [HFI.out]; simp [*])), rfl⟩
    · have hc' : (c == 0) = false := by simpa using hc
      have hfin : R = false := HR.out.trans (decide_eq_false (fun h => by have g := h.2.1; simp only at g; omega))
      have HFI : Hid _ := hfin
      clear hfin
      go_enter Try.func179, Try.ntmps179
      go_wp2_with (first | (go_at_call 77; refine (CI.out _).mono ?_; rintro e w1 ⟨rfl, rfl⟩) | (go_at_call 180; refine (CH.out _).mono ?_; rintro e w1 ⟨rfl, rfl⟩) | (go_at_call 220; refine (CT.out _).mono ?_; rintro e w1 ⟨rfl, rfl⟩) | (go_at_call 219; refine (CO.out _).mono ?_; rintro e w1 ⟨rfl, rfl⟩))
      go_ret
      exact ⟨ret_bool (by first | (rw [HFI.out]; done) | (rw [HFI.out]; simp [*])), rfl⟩
  · have CH : Hid _ := fun w' => l5Has_is 12 false w' (by decide)
    have CT : Hid _ := fun w' => l5Two_is 12 true w' (by decide)
    have CO : Hid _ := fun w' => l5One_is 12 false w' (by decide)
    by_cases hc : c = 0
    · subst hc
      by_cases hs : s = eB
      · unfold eB at hs
        subst hs
        have hs : (⟨#[]⟩ : ByteArray) = eB := rfl
        have hfin : R = true := HR.out.trans (decide_eq_true ⟨(by constructor <;> simp), .inr rfl, .inr (.inr rfl), .inr (.inl rfl), .inl (by simp)⟩)
        have HFI : Hid _ := hfin
        clear hfin
        go_enter Try.func179, Try.ntmps179
        go_wp2_with (first | (go_at_call 77; refine (CI.out _).mono ?_; rintro e w1 ⟨rfl, rfl⟩) | (go_at_call 180; refine (CH.out _).mono ?_; rintro e w1 ⟨rfl, rfl⟩) | (go_at_call 220; refine (CT.out _).mono ?_; rintro e w1 ⟨rfl, rfl⟩) | (go_at_call 219; refine (CO.out _).mono ?_; rintro e w1 ⟨rfl, rfl⟩))
        go_ret
        exact ⟨ret_bool (by first | (rw [HFI.out]; done) | (rw [HFI.out]; simp [*])), rfl⟩
      · have hs2 : ¬ s.toList = ByteArray.toList ⟨#[]⟩ := fun h => hs ((baList _ _).1 h)
        have hs3 : s.toList.isEmpty = false := by
          cases hq : s.toList with
          | nil => exact absurd (by rw [hq]; exact emptyL.symm) hs2
          | cons a b => rfl
        have hfin : R = false := HR.out.trans (decide_eq_false (fun h => by have g := h.2.2.1; simp only at g; rcases g with g | g | g; omega; omega; exact hs g))
        have HFI : Hid _ := hfin
        clear hfin
        go_enter Try.func179, Try.ntmps179
        go_wp2_with (first | (go_at_call 77; refine (CI.out _).mono ?_; rintro e w1 ⟨rfl, rfl⟩) | (go_at_call 180; refine (CH.out _).mono ?_; rintro e w1 ⟨rfl, rfl⟩) | (go_at_call 220; refine (CT.out _).mono ?_; rintro e w1 ⟨rfl, rfl⟩) | (go_at_call 219; refine (CO.out _).mono ?_; rintro e w1 ⟨rfl, rfl⟩))
        go_ret
        exact ⟨ret_bool (by first | (rw [HFI.out]; done) | (rw [HFI.out]; simp [*])), rfl⟩
    · have hc' : (c == 0) = false := by simpa using hc
      have hfin : R = false := HR.out.trans (decide_eq_false (fun h => by have g := h.2.1; simp only at g; omega))
      have HFI : Hid _ := hfin
      clear hfin
      go_enter Try.func179, Try.ntmps179
      go_wp2_with (first | (go_at_call 77; refine (CI.out _).mono ?_; rintro e w1 ⟨rfl, rfl⟩) | (go_at_call 180; refine (CH.out _).mono ?_; rintro e w1 ⟨rfl, rfl⟩) | (go_at_call 220; refine (CT.out _).mono ?_; rintro e w1 ⟨rfl, rfl⟩) | (go_at_call 219; refine (CO.out _).mono ?_; rintro e w1 ⟨rfl, rfl⟩))
      go_ret
      exact ⟨ret_bool (by first | (rw [HFI.out]; done) | (rw [HFI.out]; simp [*])), rfl⟩
  · obtain rfl | rfl | rfl : k = 8 ∨ k = 9 ∨ k = 10 := by omega
    · have CH : Hid _ := fun w' => l5Has_is 8 false w' (by decide)
      have CT : Hid _ := fun w' => l5Two_is 8 false w' (by decide)
      have CO : Hid _ := fun w' => l5One_is 8 true w' (by decide)
      by_cases hc : c = 0
      · subst hc
        by_cases hs : s = eB
        · unfold eB at hs
          subst hs
          have hs : (⟨#[]⟩ : ByteArray) = eB := rfl
          by_cases hr : r = 0
          · subst hr
            have hfin : R = true := HR.out.trans (decide_eq_true ⟨(by constructor <;> simp), .inr rfl, .inr (.inr rfl), .inr (.inr rfl), .inl (by simp)⟩)
            have HFI : Hid _ := hfin
            clear hfin
            go_enter Try.func179, Try.ntmps179
            go_wp2_with (first | (go_at_call 77; refine (CI.out _).mono ?_; rintro e w1 ⟨rfl, rfl⟩) | (go_at_call 180; refine (CH.out _).mono ?_; rintro e w1 ⟨rfl, rfl⟩) | (go_at_call 220; refine (CT.out _).mono ?_; rintro e w1 ⟨rfl, rfl⟩) | (go_at_call 219; refine (CO.out _).mono ?_; rintro e w1 ⟨rfl, rfl⟩))
            go_ret
            exact ⟨ret_bool (by first | (rw [HFI.out]; done) | (rw [HFI.out]; simp [*])), rfl⟩
          · have hr' : (r == 0) = false := by simpa using hr
            have hfin : R = false := HR.out.trans (decide_eq_false (fun h => by have g := h.2.2.2.1; simp only at g; omega))
            have HFI : Hid _ := hfin
            clear hfin
            go_enter Try.func179, Try.ntmps179
            go_wp2_with (first | (go_at_call 77; refine (CI.out _).mono ?_; rintro e w1 ⟨rfl, rfl⟩) | (go_at_call 180; refine (CH.out _).mono ?_; rintro e w1 ⟨rfl, rfl⟩) | (go_at_call 220; refine (CT.out _).mono ?_; rintro e w1 ⟨rfl, rfl⟩) | (go_at_call 219; refine (CO.out _).mono ?_; rintro e w1 ⟨rfl, rfl⟩))
            go_ret
            exact ⟨ret_bool (by first | (rw [HFI.out]; done) | (rw [HFI.out]; simp [*])), rfl⟩
        · have hs2 : ¬ s.toList = ByteArray.toList ⟨#[]⟩ := fun h => hs ((baList _ _).1 h)
          have hs3 : s.toList.isEmpty = false := by
            cases hq : s.toList with
            | nil => exact absurd (by rw [hq]; exact emptyL.symm) hs2
            | cons a b => rfl
          have hfin : R = false := HR.out.trans (decide_eq_false (fun h => by have g := h.2.2.1; simp only at g; rcases g with g | g | g; omega; omega; exact hs g))
          have HFI : Hid _ := hfin
          clear hfin
          go_enter Try.func179, Try.ntmps179
          go_wp2_with (first | (go_at_call 77; refine (CI.out _).mono ?_; rintro e w1 ⟨rfl, rfl⟩) | (go_at_call 180; refine (CH.out _).mono ?_; rintro e w1 ⟨rfl, rfl⟩) | (go_at_call 220; refine (CT.out _).mono ?_; rintro e w1 ⟨rfl, rfl⟩) | (go_at_call 219; refine (CO.out _).mono ?_; rintro e w1 ⟨rfl, rfl⟩))
          go_ret
          exact ⟨ret_bool (by first | (rw [HFI.out]; done) | (rw [HFI.out]; simp [*])), rfl⟩
      · have hc' : (c == 0) = false := by simpa using hc
        have hfin : R = false := HR.out.trans (decide_eq_false (fun h => by have g := h.2.1; simp only at g; omega))
        have HFI : Hid _ := hfin
        clear hfin
        go_enter Try.func179, Try.ntmps179
        go_wp2_with (first | (go_at_call 77; refine (CI.out _).mono ?_; rintro e w1 ⟨rfl, rfl⟩) | (go_at_call 180; refine (CH.out _).mono ?_; rintro e w1 ⟨rfl, rfl⟩) | (go_at_call 220; refine (CT.out _).mono ?_; rintro e w1 ⟨rfl, rfl⟩) | (go_at_call 219; refine (CO.out _).mono ?_; rintro e w1 ⟨rfl, rfl⟩))
        go_ret
        exact ⟨ret_bool (by first | (rw [HFI.out]; done) | (rw [HFI.out]; simp [*])), rfl⟩
    · have CH : Hid _ := fun w' => l5Has_is 9 false w' (by decide)
      have CT : Hid _ := fun w' => l5Two_is 9 false w' (by decide)
      have CO : Hid _ := fun w' => l5One_is 9 true w' (by decide)
      by_cases hc : c = 0
      · subst hc
        by_cases hs : s = eB
        · unfold eB at hs
          subst hs
          have hs : (⟨#[]⟩ : ByteArray) = eB := rfl
          by_cases hr : r = 0
          · subst hr
            have hfin : R = true := HR.out.trans (decide_eq_true ⟨(by constructor <;> simp), .inr rfl, .inr (.inr rfl), .inr (.inr rfl), .inl (by simp)⟩)
            have HFI : Hid _ := hfin
            clear hfin
            go_enter Try.func179, Try.ntmps179
            go_wp2_with (first | (go_at_call 77; refine (CI.out _).mono ?_; rintro e w1 ⟨rfl, rfl⟩) | (go_at_call 180; refine (CH.out _).mono ?_; rintro e w1 ⟨rfl, rfl⟩) | (go_at_call 220; refine (CT.out _).mono ?_; rintro e w1 ⟨rfl, rfl⟩) | (go_at_call 219; refine (CO.out _).mono ?_; rintro e w1 ⟨rfl, rfl⟩))
            go_ret
            exact ⟨ret_bool (by first | (rw [HFI.out]; done) | (rw [HFI.out]; simp [*])), rfl⟩
          · have hr' : (r == 0) = false := by simpa using hr
            have hfin : R = false := HR.out.trans (decide_eq_false (fun h => by have g := h.2.2.2.1; simp only at g; omega))
            have HFI : Hid _ := hfin
            clear hfin
            go_enter Try.func179, Try.ntmps179
            go_wp2_with (first | (go_at_call 77; refine (CI.out _).mono ?_; rintro e w1 ⟨rfl, rfl⟩) | (go_at_call 180; refine (CH.out _).mono ?_; rintro e w1 ⟨rfl, rfl⟩) | (go_at_call 220; refine (CT.out _).mono ?_; rintro e w1 ⟨rfl, rfl⟩) | (go_at_call 219; refine (CO.out _).mono ?_; rintro e w1 ⟨rfl, rfl⟩))
            go_ret
            exact ⟨ret_bool (by first | (rw [HFI.out]; done) | (rw [HFI.out]; simp [*])), rfl⟩
        · have hs2 : ¬ s.toList = ByteArray.toList ⟨#[]⟩ := fun h => hs ((baList _ _).1 h)
          have hs3 : s.toList.isEmpty = false := by
            cases hq : s.toList with
            | nil => exact absurd (by rw [hq]; exact emptyL.symm) hs2
            | cons a b => rfl
          have hfin : R = false := HR.out.trans (decide_eq_false (fun h => by have g := h.2.2.1; simp only at g; rcases g with g | g | g; omega; omega; exact hs g))
          have HFI : Hid _ := hfin
          clear hfin
          go_enter Try.func179, Try.ntmps179
          go_wp2_with (first | (go_at_call 77; refine (CI.out _).mono ?_; rintro e w1 ⟨rfl, rfl⟩) | (go_at_call 180; refine (CH.out _).mono ?_; rintro e w1 ⟨rfl, rfl⟩) | (go_at_call 220; refine (CT.out _).mono ?_; rintro e w1 ⟨rfl, rfl⟩) | (go_at_call 219; refine (CO.out _).mono ?_; rintro e w1 ⟨rfl, rfl⟩))
          go_ret
          exact ⟨ret_bool (by first | (rw [HFI.out]; done) | (rw [HFI.out]; simp [*])), rfl⟩
      · have hc' : (c == 0) = false := by simpa using hc
        have hfin : R = false := HR.out.trans (decide_eq_false (fun h => by have g := h.2.1; simp only at g; omega))
        have HFI : Hid _ := hfin
        clear hfin
        go_enter Try.func179, Try.ntmps179
        go_wp2_with (first | (go_at_call 77; refine (CI.out _).mono ?_; rintro e w1 ⟨rfl, rfl⟩) | (go_at_call 180; refine (CH.out _).mono ?_; rintro e w1 ⟨rfl, rfl⟩) | (go_at_call 220; refine (CT.out _).mono ?_; rintro e w1 ⟨rfl, rfl⟩) | (go_at_call 219; refine (CO.out _).mono ?_; rintro e w1 ⟨rfl, rfl⟩))
        go_ret
        exact ⟨ret_bool (by first | (rw [HFI.out]; done) | (rw [HFI.out]; simp [*])), rfl⟩
    · have CH : Hid _ := fun w' => l5Has_is 10 false w' (by decide)
      have CT : Hid _ := fun w' => l5Two_is 10 false w' (by decide)
      have CO : Hid _ := fun w' => l5One_is 10 true w' (by decide)
      by_cases hc : c = 0
      · subst hc
        by_cases hs : s = eB
        · unfold eB at hs
          subst hs
          have hs : (⟨#[]⟩ : ByteArray) = eB := rfl
          by_cases hr : r = 0
          · subst hr
            have hfin : R = true := HR.out.trans (decide_eq_true ⟨(by constructor <;> simp), .inr rfl, .inr (.inr rfl), .inr (.inr rfl), .inl (by simp)⟩)
            have HFI : Hid _ := hfin
            clear hfin
            go_enter Try.func179, Try.ntmps179
            go_wp2_with (first | (go_at_call 77; refine (CI.out _).mono ?_; rintro e w1 ⟨rfl, rfl⟩) | (go_at_call 180; refine (CH.out _).mono ?_; rintro e w1 ⟨rfl, rfl⟩) | (go_at_call 220; refine (CT.out _).mono ?_; rintro e w1 ⟨rfl, rfl⟩) | (go_at_call 219; refine (CO.out _).mono ?_; rintro e w1 ⟨rfl, rfl⟩))
            go_ret
            exact ⟨ret_bool (by first | (rw [HFI.out]; done) | (rw [HFI.out]; simp [*])), rfl⟩
          · have hr' : (r == 0) = false := by simpa using hr
            have hfin : R = false := HR.out.trans (decide_eq_false (fun h => by have g := h.2.2.2.1; simp only at g; omega))
            have HFI : Hid _ := hfin
            clear hfin
            go_enter Try.func179, Try.ntmps179
            go_wp2_with (first | (go_at_call 77; refine (CI.out _).mono ?_; rintro e w1 ⟨rfl, rfl⟩) | (go_at_call 180; refine (CH.out _).mono ?_; rintro e w1 ⟨rfl, rfl⟩) | (go_at_call 220; refine (CT.out _).mono ?_; rintro e w1 ⟨rfl, rfl⟩) | (go_at_call 219; refine (CO.out _).mono ?_; rintro e w1 ⟨rfl, rfl⟩))
            go_ret
            exact ⟨ret_bool (by first | (rw [HFI.out]; done) | (rw [HFI.out]; simp [*])), rfl⟩
        · have hs2 : ¬ s.toList = ByteArray.toList ⟨#[]⟩ := fun h => hs ((baList _ _).1 h)
          have hs3 : s.toList.isEmpty = false := by
            cases hq : s.toList with
            | nil => exact absurd (by rw [hq]; exact emptyL.symm) hs2
            | cons a b => rfl
          have hfin : R = false := HR.out.trans (decide_eq_false (fun h => by have g := h.2.2.1; simp only at g; rcases g with g | g | g; omega; omega; exact hs g))
          have HFI : Hid _ := hfin
          clear hfin
          go_enter Try.func179, Try.ntmps179
          go_wp2_with (first | (go_at_call 77; refine (CI.out _).mono ?_; rintro e w1 ⟨rfl, rfl⟩) | (go_at_call 180; refine (CH.out _).mono ?_; rintro e w1 ⟨rfl, rfl⟩) | (go_at_call 220; refine (CT.out _).mono ?_; rintro e w1 ⟨rfl, rfl⟩) | (go_at_call 219; refine (CO.out _).mono ?_; rintro e w1 ⟨rfl, rfl⟩))
          go_ret
          exact ⟨ret_bool (by first | (rw [HFI.out]; done) | (rw [HFI.out]; simp [*])), rfl⟩
      · have hc' : (c == 0) = false := by simpa using hc
        have hfin : R = false := HR.out.trans (decide_eq_false (fun h => by have g := h.2.1; simp only at g; omega))
        have HFI : Hid _ := hfin
        clear hfin
        go_enter Try.func179, Try.ntmps179
        go_wp2_with (first | (go_at_call 77; refine (CI.out _).mono ?_; rintro e w1 ⟨rfl, rfl⟩) | (go_at_call 180; refine (CH.out _).mono ?_; rintro e w1 ⟨rfl, rfl⟩) | (go_at_call 220; refine (CT.out _).mono ?_; rintro e w1 ⟨rfl, rfl⟩) | (go_at_call 219; refine (CO.out _).mono ?_; rintro e w1 ⟨rfl, rfl⟩))
        go_ret
        exact ⟨ret_bool (by first | (rw [HFI.out]; done) | (rw [HFI.out]; simp [*])), rfl⟩
  · have CH : Hid _ := fun w' => l5Has_is 1 false w' (by decide)
    have CT : Hid _ := fun w' => l5Two_is 1 false w' (by decide)
    have CO : Hid _ := fun w' => l5One_is 1 false w' (by decide)
    by_cases hc : c = 0
    · subst hc
      by_cases hs : s = eB
      · unfold eB at hs
        subst hs
        have hs : (⟨#[]⟩ : ByteArray) = eB := rfl
        by_cases hr : r = 0
        · subst hr
          by_cases hl : l = 0
          · subst hl
            have hfin : R = true := HR.out.trans (decide_eq_true ⟨(by constructor <;> simp), .inr rfl, .inr (.inr rfl), .inr (.inr rfl), .inr rfl⟩)
            have HFI : Hid _ := hfin
            clear hfin
            go_enter Try.func179, Try.ntmps179
            go_wp2_with (first | (go_at_call 77; refine (CI.out _).mono ?_; rintro e w1 ⟨rfl, rfl⟩) | (go_at_call 180; refine (CH.out _).mono ?_; rintro e w1 ⟨rfl, rfl⟩) | (go_at_call 220; refine (CT.out _).mono ?_; rintro e w1 ⟨rfl, rfl⟩) | (go_at_call 219; refine (CO.out _).mono ?_; rintro e w1 ⟨rfl, rfl⟩))
            go_ret
            exact ⟨ret_bool (by first | (rw [HFI.out]; done) | (rw [HFI.out]; simp [*])), rfl⟩
          · have hl' : (l == 0) = false := by simpa using hl
            have hfin : R = false := HR.out.trans (decide_eq_false (fun h => by have g := h.2.2.2.2; simp only at g; omega))
            have HFI : Hid _ := hfin
            clear hfin
            go_enter Try.func179, Try.ntmps179
            go_wp2_with (first | (go_at_call 77; refine (CI.out _).mono ?_; rintro e w1 ⟨rfl, rfl⟩) | (go_at_call 180; refine (CH.out _).mono ?_; rintro e w1 ⟨rfl, rfl⟩) | (go_at_call 220; refine (CT.out _).mono ?_; rintro e w1 ⟨rfl, rfl⟩) | (go_at_call 219; refine (CO.out _).mono ?_; rintro e w1 ⟨rfl, rfl⟩))
            go_ret
            exact ⟨ret_bool (by first | (rw [HFI.out]; done) | (rw [HFI.out]; simp [*])), rfl⟩
        · have hr' : (r == 0) = false := by simpa using hr
          have hfin : R = false := HR.out.trans (decide_eq_false (fun h => by have g := h.2.2.2.1; simp only at g; omega))
          have HFI : Hid _ := hfin
          clear hfin
          go_enter Try.func179, Try.ntmps179
          go_wp2_with (first | (go_at_call 77; refine (CI.out _).mono ?_; rintro e w1 ⟨rfl, rfl⟩) | (go_at_call 180; refine (CH.out _).mono ?_; rintro e w1 ⟨rfl, rfl⟩) | (go_at_call 220; refine (CT.out _).mono ?_; rintro e w1 ⟨rfl, rfl⟩) | (go_at_call 219; refine (CO.out _).mono ?_; rintro e w1 ⟨rfl, rfl⟩))
          go_ret
          exact ⟨ret_bool (by first | (rw [HFI.out]; done) | (rw [HFI.out]; simp [*])), rfl⟩
      · have hs2 : ¬ s.toList = ByteArray.toList ⟨#[]⟩ := fun h => hs ((baList _ _).1 h)
        have hs3 : s.toList.isEmpty = false := by
          cases hq : s.toList with
          | nil => exact absurd (by rw [hq]; exact emptyL.symm) hs2
          | cons a b => rfl
        have hfin : R = false := HR.out.trans (decide_eq_false (fun h => by have g := h.2.2.1; simp only at g; rcases g with g | g | g; omega; omega; exact hs g))
        have HFI : Hid _ := hfin
        clear hfin
        go_enter Try.func179, Try.ntmps179
        go_wp2_with (first | (go_at_call 77; refine (CI.out _).mono ?_; rintro e w1 ⟨rfl, rfl⟩) | (go_at_call 180; refine (CH.out _).mono ?_; rintro e w1 ⟨rfl, rfl⟩) | (go_at_call 220; refine (CT.out _).mono ?_; rintro e w1 ⟨rfl, rfl⟩) | (go_at_call 219; refine (CO.out _).mono ?_; rintro e w1 ⟨rfl, rfl⟩))
        go_ret
        exact ⟨ret_bool (by first | (rw [HFI.out]; done) | (rw [HFI.out]; simp [*])), rfl⟩
    · have hc' : (c == 0) = false := by simpa using hc
      have hfin : R = false := HR.out.trans (decide_eq_false (fun h => by have g := h.2.1; simp only at g; omega))
      have HFI : Hid _ := hfin
      clear hfin
      go_enter Try.func179, Try.ntmps179
      go_wp2_with (first | (go_at_call 77; refine (CI.out _).mono ?_; rintro e w1 ⟨rfl, rfl⟩) | (go_at_call 180; refine (CH.out _).mono ?_; rintro e w1 ⟨rfl, rfl⟩) | (go_at_call 220; refine (CT.out _).mono ?_; rintro e w1 ⟨rfl, rfl⟩) | (go_at_call 219; refine (CO.out _).mono ?_; rintro e w1 ⟨rfl, rfl⟩))
      go_ret
      exact ⟨ret_bool (by first | (rw [HFI.out]; done) | (rw [HFI.out]; simp [*])), rfl⟩
  · have CH : Hid _ := fun w' => l5Has_is 3 false w' (by decide)
    have CT : Hid _ := fun w' => l5Two_is 3 false w' (by decide)
    have CO : Hid _ := fun w' => l5One_is 3 false w' (by decide)
    by_cases hc : c = 0
    · subst hc
      by_cases hs : s = eB
      · unfold eB at hs
        subst hs
        have hs : (⟨#[]⟩ : ByteArray) = eB := rfl
        by_cases hr : r = 0
        · subst hr
          by_cases hl : l = 0
          · subst hl
            have hfin : R = true := HR.out.trans (decide_eq_true ⟨(by constructor <;> simp), .inr rfl, .inr (.inr rfl), .inr (.inr rfl), .inr rfl⟩)
            have HFI : Hid _ := hfin
            clear hfin
            go_enter Try.func179, Try.ntmps179
            go_wp2_with (first | (go_at_call 77; refine (CI.out _).mono ?_; rintro e w1 ⟨rfl, rfl⟩) | (go_at_call 180; refine (CH.out _).mono ?_; rintro e w1 ⟨rfl, rfl⟩) | (go_at_call 220; refine (CT.out _).mono ?_; rintro e w1 ⟨rfl, rfl⟩) | (go_at_call 219; refine (CO.out _).mono ?_; rintro e w1 ⟨rfl, rfl⟩))
            go_ret
            exact ⟨ret_bool (by first | (rw [HFI.out]; done) | (rw [HFI.out]; simp [*])), rfl⟩
          · have hl' : (l == 0) = false := by simpa using hl
            have hfin : R = false := HR.out.trans (decide_eq_false (fun h => by have g := h.2.2.2.2; simp only at g; omega))
            have HFI : Hid _ := hfin
            clear hfin
            go_enter Try.func179, Try.ntmps179
            go_wp2_with (first | (go_at_call 77; refine (CI.out _).mono ?_; rintro e w1 ⟨rfl, rfl⟩) | (go_at_call 180; refine (CH.out _).mono ?_; rintro e w1 ⟨rfl, rfl⟩) | (go_at_call 220; refine (CT.out _).mono ?_; rintro e w1 ⟨rfl, rfl⟩) | (go_at_call 219; refine (CO.out _).mono ?_; rintro e w1 ⟨rfl, rfl⟩))
            go_ret
            exact ⟨ret_bool (by first | (rw [HFI.out]; done) | (rw [HFI.out]; simp [*])), rfl⟩
        · have hr' : (r == 0) = false := by simpa using hr
          have hfin : R = false := HR.out.trans (decide_eq_false (fun h => by have g := h.2.2.2.1; simp only at g; omega))
          have HFI : Hid _ := hfin
          clear hfin
          go_enter Try.func179, Try.ntmps179
          go_wp2_with (first | (go_at_call 77; refine (CI.out _).mono ?_; rintro e w1 ⟨rfl, rfl⟩) | (go_at_call 180; refine (CH.out _).mono ?_; rintro e w1 ⟨rfl, rfl⟩) | (go_at_call 220; refine (CT.out _).mono ?_; rintro e w1 ⟨rfl, rfl⟩) | (go_at_call 219; refine (CO.out _).mono ?_; rintro e w1 ⟨rfl, rfl⟩))
          go_ret
          exact ⟨ret_bool (by first | (rw [HFI.out]; done) | (rw [HFI.out]; simp [*])), rfl⟩
      · have hs2 : ¬ s.toList = ByteArray.toList ⟨#[]⟩ := fun h => hs ((baList _ _).1 h)
        have hs3 : s.toList.isEmpty = false := by
          cases hq : s.toList with
          | nil => exact absurd (by rw [hq]; exact emptyL.symm) hs2
          | cons a b => rfl
        have hfin : R = false := HR.out.trans (decide_eq_false (fun h => by have g := h.2.2.1; simp only at g; rcases g with g | g | g; omega; omega; exact hs g))
        have HFI : Hid _ := hfin
        clear hfin
        go_enter Try.func179, Try.ntmps179
        go_wp2_with (first | (go_at_call 77; refine (CI.out _).mono ?_; rintro e w1 ⟨rfl, rfl⟩) | (go_at_call 180; refine (CH.out _).mono ?_; rintro e w1 ⟨rfl, rfl⟩) | (go_at_call 220; refine (CT.out _).mono ?_; rintro e w1 ⟨rfl, rfl⟩) | (go_at_call 219; refine (CO.out _).mono ?_; rintro e w1 ⟨rfl, rfl⟩))
        go_ret
        exact ⟨ret_bool (by first | (rw [HFI.out]; done) | (rw [HFI.out]; simp [*])), rfl⟩
    · have hc' : (c == 0) = false := by simpa using hc
      have hfin : R = false := HR.out.trans (decide_eq_false (fun h => by have g := h.2.1; simp only at g; omega))
      have HFI : Hid _ := hfin
      clear hfin
      go_enter Try.func179, Try.ntmps179
      go_wp2_with (first | (go_at_call 77; refine (CI.out _).mono ?_; rintro e w1 ⟨rfl, rfl⟩) | (go_at_call 180; refine (CH.out _).mono ?_; rintro e w1 ⟨rfl, rfl⟩) | (go_at_call 220; refine (CT.out _).mono ?_; rintro e w1 ⟨rfl, rfl⟩) | (go_at_call 219; refine (CO.out _).mono ?_; rintro e w1 ⟨rfl, rfl⟩))
      go_ret
      exact ⟨ret_bool (by first | (rw [HFI.out]; done) | (rw [HFI.out]; simp [*])), rfl⟩
  · have CH : Hid _ := fun w' => l5Has_is 6 false w' (by decide)
    have CT : Hid _ := fun w' => l5Two_is 6 false w' (by decide)
    have CO : Hid _ := fun w' => l5One_is 6 false w' (by decide)
    by_cases hc : c = 0
    · subst hc
      by_cases hs : s = eB
      · unfold eB at hs
        subst hs
        have hs : (⟨#[]⟩ : ByteArray) = eB := rfl
        by_cases hr : r = 0
        · subst hr
          by_cases hl : l = 0
          · subst hl
            have hfin : R = true := HR.out.trans (decide_eq_true ⟨(by constructor <;> simp), .inr rfl, .inr (.inr rfl), .inr (.inr rfl), .inr rfl⟩)
            have HFI : Hid _ := hfin
            clear hfin
            go_enter Try.func179, Try.ntmps179
            go_wp2_with (first | (go_at_call 77; refine (CI.out _).mono ?_; rintro e w1 ⟨rfl, rfl⟩) | (go_at_call 180; refine (CH.out _).mono ?_; rintro e w1 ⟨rfl, rfl⟩) | (go_at_call 220; refine (CT.out _).mono ?_; rintro e w1 ⟨rfl, rfl⟩) | (go_at_call 219; refine (CO.out _).mono ?_; rintro e w1 ⟨rfl, rfl⟩))
            go_ret
            exact ⟨ret_bool (by first | (rw [HFI.out]; done) | (rw [HFI.out]; simp [*])), rfl⟩
          · have hl' : (l == 0) = false := by simpa using hl
            have hfin : R = false := HR.out.trans (decide_eq_false (fun h => by have g := h.2.2.2.2; simp only at g; omega))
            have HFI : Hid _ := hfin
            clear hfin
            go_enter Try.func179, Try.ntmps179
            go_wp2_with (first | (go_at_call 77; refine (CI.out _).mono ?_; rintro e w1 ⟨rfl, rfl⟩) | (go_at_call 180; refine (CH.out _).mono ?_; rintro e w1 ⟨rfl, rfl⟩) | (go_at_call 220; refine (CT.out _).mono ?_; rintro e w1 ⟨rfl, rfl⟩) | (go_at_call 219; refine (CO.out _).mono ?_; rintro e w1 ⟨rfl, rfl⟩))
            go_ret
            exact ⟨ret_bool (by first | (rw [HFI.out]; done) | (rw [HFI.out]; simp [*])), rfl⟩
        · have hr' : (r == 0) = false := by simpa using hr
          have hfin : R = false := HR.out.trans (decide_eq_false (fun h => by have g := h.2.2.2.1; simp only at g; omega))
          have HFI : Hid _ := hfin
          clear hfin
          go_enter Try.func179, Try.ntmps179
          go_wp2_with (first | (go_at_call 77; refine (CI.out _).mono ?_; rintro e w1 ⟨rfl, rfl⟩) | (go_at_call 180; refine (CH.out _).mono ?_; rintro e w1 ⟨rfl, rfl⟩) | (go_at_call 220; refine (CT.out _).mono ?_; rintro e w1 ⟨rfl, rfl⟩) | (go_at_call 219; refine (CO.out _).mono ?_; rintro e w1 ⟨rfl, rfl⟩))
          go_ret
          exact ⟨ret_bool (by first | (rw [HFI.out]; done) | (rw [HFI.out]; simp [*])), rfl⟩
      · have hs2 : ¬ s.toList = ByteArray.toList ⟨#[]⟩ := fun h => hs ((baList _ _).1 h)
        have hs3 : s.toList.isEmpty = false := by
          cases hq : s.toList with
          | nil => exact absurd (by rw [hq]; exact emptyL.symm) hs2
          | cons a b => rfl
        have hfin : R = false := HR.out.trans (decide_eq_false (fun h => by have g := h.2.2.1; simp only at g; rcases g with g | g | g; omega; omega; exact hs g))
        have HFI : Hid _ := hfin
        clear hfin
        go_enter Try.func179, Try.ntmps179
        go_wp2_with (first | (go_at_call 77; refine (CI.out _).mono ?_; rintro e w1 ⟨rfl, rfl⟩) | (go_at_call 180; refine (CH.out _).mono ?_; rintro e w1 ⟨rfl, rfl⟩) | (go_at_call 220; refine (CT.out _).mono ?_; rintro e w1 ⟨rfl, rfl⟩) | (go_at_call 219; refine (CO.out _).mono ?_; rintro e w1 ⟨rfl, rfl⟩))
        go_ret
        exact ⟨ret_bool (by first | (rw [HFI.out]; done) | (rw [HFI.out]; simp [*])), rfl⟩
    · have hc' : (c == 0) = false := by simpa using hc
      have hfin : R = false := HR.out.trans (decide_eq_false (fun h => by have g := h.2.1; simp only at g; omega))
      have HFI : Hid _ := hfin
      clear hfin
      go_enter Try.func179, Try.ntmps179
      go_wp2_with (first | (go_at_call 77; refine (CI.out _).mono ?_; rintro e w1 ⟨rfl, rfl⟩) | (go_at_call 180; refine (CH.out _).mono ?_; rintro e w1 ⟨rfl, rfl⟩) | (go_at_call 220; refine (CT.out _).mono ?_; rintro e w1 ⟨rfl, rfl⟩) | (go_at_call 219; refine (CO.out _).mono ?_; rintro e w1 ⟨rfl, rfl⟩))
      go_ret
      exact ⟨ret_bool (by first | (rw [HFI.out]; done) | (rw [HFI.out]; simp [*])), rfl⟩
  · have CH : Hid _ := fun w' => l5Has_is 7 false w' (by decide)
    have CT : Hid _ := fun w' => l5Two_is 7 false w' (by decide)
    have CO : Hid _ := fun w' => l5One_is 7 false w' (by decide)
    by_cases hc : c = 0
    · subst hc
      by_cases hs : s = eB
      · unfold eB at hs
        subst hs
        have hs : (⟨#[]⟩ : ByteArray) = eB := rfl
        by_cases hr : r = 0
        · subst hr
          by_cases hl : l = 0
          · subst hl
            have hfin : R = true := HR.out.trans (decide_eq_true ⟨(by constructor <;> simp), .inr rfl, .inr (.inr rfl), .inr (.inr rfl), .inr rfl⟩)
            have HFI : Hid _ := hfin
            clear hfin
            go_enter Try.func179, Try.ntmps179
            go_wp2_with (first | (go_at_call 77; refine (CI.out _).mono ?_; rintro e w1 ⟨rfl, rfl⟩) | (go_at_call 180; refine (CH.out _).mono ?_; rintro e w1 ⟨rfl, rfl⟩) | (go_at_call 220; refine (CT.out _).mono ?_; rintro e w1 ⟨rfl, rfl⟩) | (go_at_call 219; refine (CO.out _).mono ?_; rintro e w1 ⟨rfl, rfl⟩))
            go_ret
            exact ⟨ret_bool (by first | (rw [HFI.out]; done) | (rw [HFI.out]; simp [*])), rfl⟩
          · have hl' : (l == 0) = false := by simpa using hl
            have hfin : R = false := HR.out.trans (decide_eq_false (fun h => by have g := h.2.2.2.2; simp only at g; omega))
            have HFI : Hid _ := hfin
            clear hfin
            go_enter Try.func179, Try.ntmps179
            go_wp2_with (first | (go_at_call 77; refine (CI.out _).mono ?_; rintro e w1 ⟨rfl, rfl⟩) | (go_at_call 180; refine (CH.out _).mono ?_; rintro e w1 ⟨rfl, rfl⟩) | (go_at_call 220; refine (CT.out _).mono ?_; rintro e w1 ⟨rfl, rfl⟩) | (go_at_call 219; refine (CO.out _).mono ?_; rintro e w1 ⟨rfl, rfl⟩))
            go_ret
            exact ⟨ret_bool (by first | (rw [HFI.out]; done) | (rw [HFI.out]; simp [*])), rfl⟩
        · have hr' : (r == 0) = false := by simpa using hr
          have hfin : R = false := HR.out.trans (decide_eq_false (fun h => by have g := h.2.2.2.1; simp only at g; omega))
          have HFI : Hid _ := hfin
          clear hfin
          go_enter Try.func179, Try.ntmps179
          go_wp2_with (first | (go_at_call 77; refine (CI.out _).mono ?_; rintro e w1 ⟨rfl, rfl⟩) | (go_at_call 180; refine (CH.out _).mono ?_; rintro e w1 ⟨rfl, rfl⟩) | (go_at_call 220; refine (CT.out _).mono ?_; rintro e w1 ⟨rfl, rfl⟩) | (go_at_call 219; refine (CO.out _).mono ?_; rintro e w1 ⟨rfl, rfl⟩))
          go_ret
          exact ⟨ret_bool (by first | (rw [HFI.out]; done) | (rw [HFI.out]; simp [*])), rfl⟩
      · have hs2 : ¬ s.toList = ByteArray.toList ⟨#[]⟩ := fun h => hs ((baList _ _).1 h)
        have hs3 : s.toList.isEmpty = false := by
          cases hq : s.toList with
          | nil => exact absurd (by rw [hq]; exact emptyL.symm) hs2
          | cons a b => rfl
        have hfin : R = false := HR.out.trans (decide_eq_false (fun h => by have g := h.2.2.1; simp only at g; rcases g with g | g | g; omega; omega; exact hs g))
        have HFI : Hid _ := hfin
        clear hfin
        go_enter Try.func179, Try.ntmps179
        go_wp2_with (first | (go_at_call 77; refine (CI.out _).mono ?_; rintro e w1 ⟨rfl, rfl⟩) | (go_at_call 180; refine (CH.out _).mono ?_; rintro e w1 ⟨rfl, rfl⟩) | (go_at_call 220; refine (CT.out _).mono ?_; rintro e w1 ⟨rfl, rfl⟩) | (go_at_call 219; refine (CO.out _).mono ?_; rintro e w1 ⟨rfl, rfl⟩))
        go_ret
        exact ⟨ret_bool (by first | (rw [HFI.out]; done) | (rw [HFI.out]; simp [*])), rfl⟩
    · have hc' : (c == 0) = false := by simpa using hc
      have hfin : R = false := HR.out.trans (decide_eq_false (fun h => by have g := h.2.1; simp only at g; omega))
      have HFI : Hid _ := hfin
      clear hfin
      go_enter Try.func179, Try.ntmps179
      go_wp2_with (first | (go_at_call 77; refine (CI.out _).mono ?_; rintro e w1 ⟨rfl, rfl⟩) | (go_at_call 180; refine (CH.out _).mono ?_; rintro e w1 ⟨rfl, rfl⟩) | (go_at_call 220; refine (CT.out _).mono ?_; rintro e w1 ⟨rfl, rfl⟩) | (go_at_call 219; refine (CO.out _).mono ?_; rintro e w1 ⟨rfl, rfl⟩))
      go_ret
      exact ⟨ret_bool (by first | (rw [HFI.out]; done) | (rw [HFI.out]; simp [*])), rfl⟩
end Go.Proofs.Ytocophekfbhfbaa
