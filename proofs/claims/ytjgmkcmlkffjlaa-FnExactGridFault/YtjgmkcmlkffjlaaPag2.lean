/-
  Chapter 11: GridFault, both sides.
-/
import Derived.Test.YtjgmkcmlkffjlaaPag1
import Derived.Test.YtjgmkcmlkffjlaaHlpCA
import Derived.Test.YtjgmkcmlkffjlaaArgsP
import Derived.WalkLawsBesides
namespace Go.Proofs.Ytjgmkcmlkffjlaa
open Go.RowKit
set_option linter.unusedVariables false
set_option linter.unusedSimpArgs false

/-- are there rows in a grid, and as many as may be? -/
def gdG (W : Int) (n m : Nat) : Prop := ¬ n = 0 ∧ W ∣ (n : Int) ∧ ¬ 13 < wrap64 ((n : Int) / W) ∧ n = m
instance (W : Int) (n m : Nat) : Decidable (gdG W n m) := by unfold gdG; infer_instance
/-- what is wrong with a grid -/
def gdF (W : Int) (xs : List Int) (m : Nat) : Int :=
  if W < 4 ∨ 40 < W then 3 else if ¬ gdG W xs.length m then 1 else if ∃ x ∈ xs, shown x = false then 3 else 0

theorem l11Shown_any (c : Int) (w : World) :
    Calls Try.prog 98 #[.int .i64 c] w fun e w' => e = .returned (.bool (shown c)) ∧ w' = w := by
  go_enter Try.func98, Try.ntmps98
  go_wp2_with (go_at_call 108; refine (l1Char_any _ _).mono ?_; rintro e w1 ⟨rfl, rfl⟩)
  all_goals go_ret
  all_goals refine ⟨ret_bool ?_, rfl⟩
  all_goals (rw [Bool.eq_iff_iff]; simp [shown]; first | done | omega | (simp_all; done) | (simp_all; omega))

theorem notShown_any (c : Int) (w : World) :
    Calls Try.prog 70 #[.int .i64 c] w fun e w' => e = .returned (.bool (!shown c)) ∧ w' = w := by
  go_enter Try.func70, Try.ntmps70
  go_wp2_with (go_at_call 71; refine (isShown_any _ _).mono ?_; rintro e w1 ⟨rfl, rfl⟩)
  go_ret
  exact ⟨rfl, rfl⟩

set_option maxHeartbeats 1600000 in
theorem indexNot_any (a : Option Addr) (n ca : Nat) (xs : List Int) (w : World) (hr : Rd .i64 w a n xs) (hn : n ≤ 1073741824) :
    Calls Try.prog 99 #[.slice a n ca, .func (.func 70) #[] #[]] w fun e w' => ∃ r : Int, e = .returned (.int .i64 r) ∧ w' = w ∧ ((r = -1 ∧ ∀ x ∈ xs, shown x = true) ∨ (0 ≤ r ∧ ∃ x ∈ xs, shown x = false)) := by
  have hlen := hr.1
  go_enter Try.func99, Try.ntmps99
  go_wp2
  go_loop [8] (fun t => ∃ k : Nat, t = .int .i64 k ∧ k ≤ n ∧ Hid (∀ j, j < k → shown (xs.getD j 0) = true)) (fun t => n - (intOf t).toNat)
  case atStart => exact ⟨0, rfl, Nat.zero_le _, fun j hj => absurd hj (by omega)⟩
  case round =>
    obtain ⟨k, rfl, hk, hall⟩ := hrel
    by_cases hlt : k < n
    · obtain ⟨B0, o, rfl, hcA⟩ := hr.at hlt
      have hc := hcA k hlt
      clear hcA
      have hmem : xs.getD k 0 ∈ xs := by
        rw [List.getD_eq_getElem?_getD, List.getElem?_eq_getElem (by omega)]; exact List.getElem_mem _
      have HM := hid hmem
      have hlt' : (k : Int) < (n : Int) := by omega
      obtain ⟨x, hx⟩ : ∃ x, x = xs.getD k 0 := ⟨_, rfl⟩
      rw [← hx] at hc
      have HX := hid hx
      clear hmem hx
      cases hs : shown x with
      | false =>
        have HS := hid hs
        go_wp2_with (go_at_call 70; refine (notShown_any _ _).mono ?_; rintro e w1 ⟨rfl, rfl⟩)
        go_ret
        exact ⟨k, rfl, rfl, .inr ⟨by omega, x, HX.out ▸ HM.out, HS.out⟩⟩
      | true =>
        have HS := hid hs
        go_wp2_with (go_at_call 70; refine (notShown_any _ _).mono ?_; rintro e w1 ⟨rfl, rfl⟩)
        go_round
        case rel => exact ⟨k + 1, by go_num, by omega, fun j hj => by
          by_cases hjk : j = k
          · subst hjk; rw [← HX.out]; exact HS.out
          · exact hall.out j (by omega)⟩
        case measure => simp [intOf]; omega
    · have hlt' : ¬ (k : Int) < (n : Int) := by omega
      go_wp2
      go_ret
      refine ⟨-1, rfl, rfl, .inl ⟨rfl, fun x hx => ?_⟩⟩
      obtain ⟨j, hj⟩ := List.getElem?_of_mem hx
      have hjl := (List.getElem?_eq_some_iff.1 hj).1
      have := hall.out j (by omega)
      rw [List.getD_eq_getElem?_getD, hj] at this
      exact this

theorem anyNot_any (a : Option Addr) (n ca : Nat) (xs : List Int) (w : World) (hr : Rd .i64 w a n xs) (hn : n ≤ 1073741824) :
    Calls Try.prog 69 #[.slice a n ca, .func (.func 70) #[] #[]] w fun e w' => e = .returned (.bool (decide (∃ x ∈ xs, shown x = false))) ∧ w' = w := by
  obtain ⟨R, hR⟩ : ∃ R, R = decide (∃ x ∈ xs, shown x = false) := ⟨_, rfl⟩
  rw [← hR]
  go_enter Try.func69, Try.ntmps69
  go_wp2_with fail
  refine (indexNot_any a n ca xs _ hr hn).mono ?_
  rintro e w1 ⟨r, rfl, rfl, h⟩
  rcases h with ⟨rfl, h⟩ | ⟨h0, h⟩
  · obtain rfl : R = false := hR.trans (decide_eq_false (fun ⟨x, hx, hs⟩ => by rw [h x hx] at hs; cases hs))
    clear h hR
    go_wp2
    go_ret
    exact ⟨rfl, rfl⟩
  · obtain rfl : R = true := hR.trans (decide_eq_true h)
    clear h hR
    go_wp2
    go_ret
    exact ⟨rfl, rfl⟩

set_option maxHeartbeats 3200000 in
theorem implGridFault_any (W : Int) (a b : Option Addr) (n m ca cb : Nat) (xs : List Int) (w : World) (hr : Rd .i64 w a n xs) (hn : n ≤ 1048576) (hm : m ≤ 1048576) :
    Calls Try.prog 36 #[.agg #[.int .i64 W, .slice a n ca, .slice b m cb]] w fun e w' => e = .returned (.int .i64 (gdF W xs m)) ∧ Below w.heap.size w w' := by
  have hlen := hr.1
  have IW := fun w' => isWidth_any W w'
  have HIW : Hid _ := IW
  have AN := fun w' h => anyNot_any a n ca xs w' h (by omega)
  unfold gdF
  rw [hlen]
  by_cases hW : W < 4 ∨ 40 < W
  · rw [if_pos hW]
    have hd : decide (4 ≤ W ∧ W ≤ 40) = false := decide_eq_false (by omega)
    rw [hd] at IW
    have HIW : Hid _ := IW
    clear IW AN hW hd
    go_enter Try.func36, Try.ntmps36
    go_wp2_with (go_at_call 59; refine (HIW.out _).mono ?_; rintro e w1 ⟨rfl, rfl⟩)
    go_ret
    exact ⟨rfl, (Below.refl _ _).alloc (Nat.le_refl _) _⟩
  · rw [if_neg hW]
    have hd : decide (4 ≤ W ∧ W ≤ 40) = true := decide_eq_true (by omega)
    rw [hd] at IW
    have HIW : Hid _ := IW
    have hW0 : ¬ W = 0 := by omega
    clear IW hd
    by_cases hg : gdG W n m
    · rw [if_neg (fun h => h hg)]
      obtain ⟨g1, g2, g3, g4⟩ := hg
      subst g4
      have hn0 : ¬ (n : Int) = 0 := by omega
      obtain ⟨R, hR⟩ : ∃ R, decide (∃ x ∈ xs, shown x = false) = R := ⟨_, rfl⟩
      have e : (if ∃ x ∈ xs, shown x = false then (3 : Int) else 0) = if R = true then 3 else 0 := by rw [← hR]; simp
      rw [e]
      rw [hR] at AN
      have HAN : Hid _ := AN
      clear e hR AN
      go_enter Try.func36, Try.ntmps36
      go_wp2_with (first
        | (go_at_call 59; refine (HIW.out _).mono ?_; rintro e w1 ⟨rfl, rfl⟩)
        | (go_at_call 69; refine (HAN.out _ (hr.below ((Below.refl _ _).alloc (Nat.le_refl _) _))).mono ?_; rintro e w1 ⟨rfl, rfl⟩))
      all_goals go_ret
      all_goals refine ⟨ret_int ?_, (Below.refl _ _).alloc (Nat.le_refl _) _⟩
      all_goals (first | (simp_all; done) | (simp_all; omega) | (exfalso; omega))
    · rw [if_pos hg]
      unfold gdG at hg
      clear AN
      by_cases h0 : n = 0
      · have hn0 : (n : Int) = 0 := by omega
        clear hg
        go_enter Try.func36, Try.ntmps36
        go_wp2_with (first | (go_at_call 59; refine (HIW.out _).mono ?_; rintro e w1 ⟨rfl, rfl⟩) | (go_at_call 69; exfalso; first | omega | (simp_all; done) | (simp_all; omega)))
        go_ret
        exact ⟨rfl, (Below.refl _ _).alloc (Nat.le_refl _) _⟩
      · have hn0 : ¬ (n : Int) = 0 := by omega
        by_cases hdv : W ∣ (n : Int)
        · by_cases hq : 13 < wrap64 ((n : Int) / W)
          · clear hg
            go_enter Try.func36, Try.ntmps36
            go_wp2_with (first | (go_at_call 59; refine (HIW.out _).mono ?_; rintro e w1 ⟨rfl, rfl⟩) | (go_at_call 69; exfalso; first | omega | (simp_all; done) | (simp_all; omega)))
            all_goals go_ret
            all_goals exact ⟨rfl, (Below.refl _ _).alloc (Nat.le_refl _) _⟩
          · have hm0 : ¬ (m : Int) = (n : Int) := fun h => hg ⟨h0, hdv, hq, by omega⟩
            clear hg
            go_enter Try.func36, Try.ntmps36
            go_wp2_with (first | (go_at_call 59; refine (HIW.out _).mono ?_; rintro e w1 ⟨rfl, rfl⟩) | (go_at_call 69; exfalso; first | omega | (simp_all; done) | (simp_all; omega)))
            all_goals go_ret
            all_goals exact ⟨rfl, (Below.refl _ _).alloc (Nat.le_refl _) _⟩
        · clear hg
          go_enter Try.func36, Try.ntmps36
          go_wp2_with (first | (go_at_call 59; refine (HIW.out _).mono ?_; rintro e w1 ⟨rfl, rfl⟩) | (go_at_call 69; exfalso; first | omega | (simp_all; done) | (simp_all; omega)))
          go_ret
          exact ⟨rfl, (Below.refl _ _).alloc (Nat.le_refl _) _⟩

set_option maxHeartbeats 3200000 in
theorem l11Grid_any (B : Nat) (W : Int) (a b : Option Addr) (n m ca cb : Nat) (xs : List Int) (w : World) (hr : Rd .i64 w a n xs) (hn : n ≤ 1048576) (hm : m ≤ 1048576) (c0 : w.cell? ⟨B, 0, none⟩ = some (.int .i64 W)) (c1 : w.cell? ⟨B, 1, none⟩ = some (.slice a n ca)) (c2 : w.cell? ⟨B, 2, none⟩ = some (.slice b m cb)) :
    Calls Try.prog 66 #[.pointer (some ⟨B, 0, none⟩)] w fun e w' => e = .returned (.int .i64 (gdF W xs m)) ∧ w' = w := by
  have hlen := hr.1
  unfold gdF
  rw [hlen]
  by_cases hW : W < 4 ∨ 40 < W
  · rw [if_pos hW]
    have hd : decide (4 ≤ W ∧ W ≤ 40) = false := decide_eq_false (by omega)
    have IN := fun w' => l1In_any W 4 40 w'
    rw [hd] at IN
    have HIN : Hid _ := IN
    clear IN hW hd
    go_enter Try.func66, Try.ntmps66
    go_wp2_with (go_at_call 44; refine (HIN.out _).mono ?_; rintro e w1 ⟨rfl, rfl⟩)
    go_ret
    exact ⟨rfl, rfl⟩
  · rw [if_neg hW]
    have hd : decide (4 ≤ W ∧ W ≤ 40) = true := decide_eq_true (by omega)
    have IN := fun w' => l1In_any W 4 40 w'
    rw [hd] at IN
    have HIN : Hid _ := IN
    have hW0 : ¬ W = 0 := by omega
    clear IN hd
    by_cases hg : gdG W n m
    · rw [if_neg (fun h => h hg)]
      obtain ⟨g1, g2, g3, g4⟩ := hg
      subst g4
      have hn0 : ¬ (n : Int) = 0 := by omega
      have hq : wrap64 ((n : Int) / W) ≤ 13 := by omega
      obtain ⟨R, hR⟩ : ∃ R, R = (if ∃ x ∈ xs, shown x = false then (3 : Int) else 0) := ⟨_, rfl⟩
      rw [← hR]
      have HR := hid hR
      clear hR g3
      go_enter Try.func66, Try.ntmps66
      go_wp2_with (go_at_call 44; refine (HIN.out _).mono ?_; rintro e w1 ⟨rfl, rfl⟩)
      · exfalso
        rename_i h2
        rcases h2 with h2 | h2
        · rw [beq_iff_eq] at h2; omega
        · omega
      rename_i q1 q2 K1 a1
      clear q1 q2 hq hn0 g1 g2
      go_loopw [4] (fun t wr => ∃ k : Nat, t = .int .i64 k ∧ k ≤ n ∧ Hid (∀ j, j < k → shown (xs.getD j 0) = true) ∧ wr = w1) (fun t _ => n - (intOf t).toNat)
      case atStart => exact ⟨0, rfl, Nat.zero_le _, fun j hj => absurd hj (by omega), rfl⟩
      case round =>
        obtain ⟨k, rfl, hk, hall, rfl⟩ := hrel
        by_cases hlt : k < n
        · obtain ⟨B0, o, rfl, hcA⟩ := hr.at hlt
          have hc := hcA k hlt
          clear hcA
          have hmem : xs.getD k 0 ∈ xs := by
            rw [List.getD_eq_getElem?_getD, List.getElem?_eq_getElem (by omega)]; exact List.getElem_mem _
          have HM := hid hmem
          have hlt' : (k : Int) < (n : Int) := by omega
          obtain ⟨x, hx⟩ : ∃ x, x = xs.getD k 0 := ⟨_, rfl⟩
          rw [← hx] at hc
          have HX := hid hx
          clear hmem hx
          cases hs : shown x with
          | false =>
            have HS := hid hs
            obtain rfl : R = 3 := HR.out.trans (if_pos ⟨x, HX.out ▸ HM.out, hs⟩)
            go_wp2_with (go_at_call 98; refine (l11Shown_any _ _).mono ?_; rintro e w1 ⟨rfl, rfl⟩)
            go_ret
            exact ⟨rfl, rfl⟩
          | true =>
            have HS := hid hs
            go_wp2_with (go_at_call 98; refine (l11Shown_any _ _).mono ?_; rintro e w1 ⟨rfl, rfl⟩)
            go_roundw
            case rel =>
              have hnew : Hid (∀ j, j < k + 1 → shown (xs.getD j 0) = true) := fun j hj => by
                by_cases hjk : j = k
                · subst hjk; rw [← HX.out]; exact HS.out
                · exact hall.out j (by omega)
              exact ⟨k + 1, by go_num, by omega, hnew, by first | trivial | rfl⟩
            case measure => simp [intOf]; omega
        · have hlt' : ¬ (k : Int) < (n : Int) := by omega
          have hno : R = 0 := HR.out.trans (if_neg (fun ⟨x, hx, hs⟩ => by
            obtain ⟨j, hj⟩ := List.getElem?_of_mem hx
            have hjl := (List.getElem?_eq_some_iff.1 hj).1
            have := hall.out j (by omega)
            rw [List.getD_eq_getElem?_getD, hj] at this
            rw [show shown x = true from this] at hs
            cases hs))
          subst hno
          go_wp2
          go_ret
          exact ⟨rfl, rfl⟩
    · rw [if_pos hg]
      unfold gdG at hg
      by_cases h0 : n = 0
      · have hn0 : (n : Int) = 0 := by omega
        clear hg
        go_enter Try.func66, Try.ntmps66
        go_wp2_with (go_at_call 44; refine (HIN.out _).mono ?_; rintro e w1 ⟨rfl, rfl⟩)
        all_goals first | (go_ret; exact ⟨rfl, rfl⟩) | (exfalso; first | omega | (simp_all; done) | (simp_all; omega))
      · have hn0 : ¬ (n : Int) = 0 := by omega
        by_cases hdv : W ∣ (n : Int)
        · by_cases hq : 13 < wrap64 ((n : Int) / W)
          · clear hg
            go_enter Try.func66, Try.ntmps66
            go_wp2_with (go_at_call 44; refine (HIN.out _).mono ?_; rintro e w1 ⟨rfl, rfl⟩)
            all_goals first | (go_ret; exact ⟨rfl, rfl⟩) | (exfalso; first | omega | (simp_all; done) | (simp_all; omega))
          · have hm0 : ¬ (n : Int) = (m : Int) := fun h => hg ⟨h0, hdv, hq, by omega⟩
            have hq' : wrap64 ((n : Int) / W) ≤ 13 := by omega
            clear hg hq
            go_enter Try.func66, Try.ntmps66
            go_wp2_with (go_at_call 44; refine (HIN.out _).mono ?_; rintro e w1 ⟨rfl, rfl⟩)
            all_goals first | (go_ret; exact ⟨rfl, rfl⟩) | (exfalso; first | omega | (simp_all; done) | (simp_all; omega))
        · clear hg
          go_enter Try.func66, Try.ntmps66
          go_wp2_with (go_at_call 44; refine (HIN.out _).mono ?_; rintro e w1 ⟨rfl, rfl⟩)
          all_goals first | (go_ret; exact ⟨rfl, rfl⟩) | (exfalso; first | omega | (simp_all; done) | (simp_all; omega))

theorem specGridFault_any (W : Int) (a b : Option Addr) (n m ca cb : Nat) (xs : List Int) (w : World) (hr : Rd .i64 w a n xs) (hn : n ≤ 1048576) (hm : m ≤ 1048576) :
    Calls Try.prog 34 #[.agg #[.int .i64 W, .slice a n ca, .slice b m cb]] w fun e w' => e = .returned (.int .i64 (gdF W xs m)) ∧ Below w.heap.size w w' := by
  go_enter Try.func34, Try.ntmps34
  go_wp2_with fail
  refine (l11Grid_any w.heap.size W a b n m ca cb xs _ (hr.below ((Below.refl _ _).alloc (Nat.le_refl _) _)) hn hm (by simp [go_sem]) (by simp [go_sem]) (by simp [go_sem])).mono ?_
  rintro e w1 ⟨rfl, rfl⟩
  go_wp2
  go_ret
  exact ⟨rfl, (Below.refl _ _).alloc (Nat.le_refl _) _⟩
end Go.Proofs.Ytjgmkcmlkffjlaa
