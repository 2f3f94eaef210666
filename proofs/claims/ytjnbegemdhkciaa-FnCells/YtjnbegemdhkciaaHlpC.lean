/-
  Contracts of the helpers of the exact laws over cells.
-/
import Derived.Test.YtjnbegemdhkciaaChars
import Derived.Test.YtjnbegemdhkciaaMathC
import Derived.Deep.RegionWith
namespace Go.Proofs.Ytjnbegemdhkciaa
open Go.RowKit
set_option linter.unusedVariables false

theorem cellE_at (c : C3) : (cellE c)[0]? = some (.int .i64 c.1) ∧ (cellE c)[1]? = some (.int .i64 c.2.1) ∧ (cellE c)[2]? = some (.int .i64 c.2.2) := ⟨rfl, rfl, rfl⟩

/-- The three cells of an element. -/
theorem three {w : World} {b off : Nat} {c : C3} (h : ∀ f v, (cellE c)[f]? = some v → w.cell? ⟨b, off + f, none⟩ = some v) :
    w.cell? ⟨b, off, none⟩ = some (.int .i64 c.1) ∧ w.cell? ⟨b, off + 1, none⟩ = some (.int .i64 c.2.1) ∧ w.cell? ⟨b, off + 2, none⟩ = some (.int .i64 c.2.2) :=
  ⟨h 0 _ rfl, h 1 _ rfl, h 2 _ rfl⟩

set_option maxHeartbeats 400000 in
theorem toCell_any (x y z : Int) (w : World) :
    Calls Try.prog 65 #[.agg #[.int .i64 x, .int .i64 y, .int .i64 z]] w fun e w' => e = .returned (.agg #[.int .i64 x, .int .i64 y, .int .i64 z]) ∧ Below w.heap.size w w' := by
  go_enter Try.func65, Try.ntmps65
  go_wp2
  refine bodyPost_ret (v := .agg #[.int .i64 x, .int .i64 y, .int .i64 z]) (by simp [results, Try.results65, go_sem]) rfl ⟨rfl, ?_⟩
  exact (((Below.refl _ _).alloc (Nat.le_refl _) _).alloc (by simp) _).alloc (by simp; omega) _

theorem eqCell_yes (x y z : Int) (w : World) :
    Calls Try.prog 66 #[.agg #[.int .i64 x, .int .i64 y, .int .i64 z], .agg #[.int .i64 x, .int .i64 y, .int .i64 z]] w fun e w' => e = .returned (.bool true) ∧ Below w.heap.size w w' := by
  go_enter Try.func66, Try.ntmps66
  go_wp2
  go_ret
  exact ⟨rfl, ((Below.refl _ _).alloc (Nat.le_refl _) _).alloc (by simp) _⟩

theorem szCellS_any (a : Option Addr) (n ca : Nat) (l : Int) (w : World) (h1 : n ≤ maxLen) (h2 : 0 ≤ l) (h3 : l ≤ 1073741824) :
    Calls Try.prog 39 #[.slice a n ca, .int .i64 l] w fun e w' => e = .returned (.int .i64 (if l < n then -1 else l - n)) ∧ w' = w := by
  unfold maxLen at h1
  by_cases h : l < n
  · rw [if_pos h]
    go_enter Try.func39, Try.ntmps39
    go_wp2
    go_ret
    exact ⟨rfl, rfl⟩
  · rw [if_neg h]
    go_enter Try.func39, Try.ntmps39
    go_wp2
    go_ret
    exact ⟨rfl, rfl⟩

set_option maxHeartbeats 400000 in
theorem l1Fault_any (a : Option Addr) (n ca : Nat) (cs : List C3) (w : World) (ha : RdR cellE 3 w a n cs) (h1 : n ≤ maxLen) :
    Calls Try.prog 61 #[.slice a n ca] w fun e w' => e = .returned (.int .i64 (cellsFault cs)) ∧ w' = w := by
  unfold maxLen at h1
  by_cases hn : n ≤ 2000
  · go_enter Try.func61, Try.ntmps61
    go_wp2
    go_loop [3] (fun i => ∃ k : Nat, k ≤ n ∧ i = .int .i64 k ∧ (cs.take k).all cellOk = true) (fun i => n - (intOf i).toNat)
    case atStart => exact ⟨0, Nat.zero_le _, rfl, by simp⟩
    case round =>
      obtain ⟨k, hk, rfl, hall⟩ := hrel
      have HA : Hid _ := hall
      clear hall
      by_cases hlt : k < n
      · have hlt' : (k : Int) < (n : Int) := by omega
        obtain ⟨b, off, c, rfl, hx, hc⟩ := ha.at hlt
        have h3 := three hc
        have HX : Hid _ := hx
        clear hx hc
        obtain ⟨x, y, z⟩ := c
        obtain ⟨c0, c1, c2⟩ := h3
        simp only at c0 c1 c2
        by_cases hok : cellOk (x, y, z) = true
        · obtain ⟨q1, q2, q3, q4, q5, q6, q7⟩ := cellOk_yes hok
          have q3' : (x == 127) = false := by simpa using q3
          have HO : Hid _ := hok
          clear hok q3
          go_wp2_with (first | (go_at_call 54; refine (l1Char_any _ _).mono ?_; rintro e w' ⟨rfl, rfl⟩) | (go_at_call 49; go_in))
          go_round
          case rel => exact ⟨k + 1, by omega, by go_num, all_take_succ HX.out HA.out HO.out⟩
          case measure => simp [intOf]; omega
        · have HO : Hid (cellOk (x, y, z) = false) := (by simpa using hok : cellOk (x, y, z) = false)
          rcases cellOk_no hok with q1 | ⟨q1, q2⟩
          · clear hok
            go_wp2_with (first | (go_at_call 54; refine (l1Char_any _ _).mono ?_; rintro e w' ⟨rfl, rfl⟩) | (go_at_call 49; go_in))
            go_ret
            exact ⟨ret_int (fault_bad (by rw [ha.1]; omega) HX.out HO.out).symm, rfl⟩
          · clear hok
            go_wp2_with (first | (go_at_call 54; refine (l1Char_any _ _).mono ?_; rintro e w' ⟨rfl, rfl⟩) | (go_at_call 49; go_in))
            all_goals first
              | (go_ret; exact ⟨ret_int (fault_bad (by rw [ha.1]; omega) HX.out HO.out).symm, rfl⟩)
              | (exfalso; have h9 : (32 ≤ x ∧ (x == 127) = false) ∧ (!decide (z ≤ 3)) = false := by assumption
                 simp at h9; omega)
      · go_wp2
        go_ret
        exact ⟨ret_int (fault_ok (n := k) (by rw [ha.1]; omega) (by rw [ha.1]; omega) HA.out).symm, rfl⟩
  · go_enter Try.func61, Try.ntmps61
    go_wp2
    go_ret
    exact ⟨ret_int (fault_many (by rw [ha.1]; omega)).symm, rfl⟩

theorem specCellsFault_any (a : Option Addr) (n ca : Nat) (cs : List C3) (w : World) (ha : RdR cellE 3 w a n cs) (h1 : n ≤ maxLen) :
    Calls Try.prog 43 #[.slice a n ca] w fun e w' => e = .returned (.int .i64 (cellsFault cs)) ∧ w' = w := by
  go_enter Try.func43, Try.ntmps43
  go_wp2_with fail
  refine (l1Fault_any a n ca cs _ ha h1).mono ?_
  rintro e w' ⟨rfl, rfl⟩
  go_wp2
  go_ret
  exact ⟨rfl, rfl⟩

set_option maxHeartbeats 400000 in
theorem implCellsFault_any (a : Option Addr) (n ca : Nat) (cs : List C3) (w : World) (ha : RdR cellE 3 w a n cs) (h1 : n ≤ maxLen) :
    Calls Try.prog 25 #[.slice a n ca] w fun e w' => e = .returned (.int .i64 (cellsFault cs)) ∧ Below w.heap.size w w' := by
  unfold maxLen at h1
  by_cases hn : n ≤ 2000
  · go_enter Try.func25, Try.ntmps25
    go_wp2
    go_loopw [10] (fun i wr => ∃ k : Nat, k ≤ n ∧ i = .int .i64 k ∧ (cs.take k).all cellOk = true ∧ Below w.heap.size w wr) (fun i _ => n - (intOf i).toNat)
    case atStart => exact ⟨0, Nat.zero_le _, rfl, by simp, Below.refl _ _⟩
    case round =>
      obtain ⟨k, hk, rfl, hall, hb⟩ := hrel
      have HA : Hid _ := hall
      clear hall
      have B1 : ∀ o, Below w.heap.size w (wr.alloc o) := fun o => hb.alloc hb.size o
      by_cases hlt : k < n
      · have hlt' : (k : Int) < (n : Int) := by omega
        obtain ⟨b, off, c, rfl, hx, hc⟩ := (ha.below hb).at hlt
        have h3 := three hc
        have HX : Hid _ := hx
        clear hx hc
        obtain ⟨x, y, z⟩ := c
        obtain ⟨c0, c1, c2⟩ := h3
        simp only at c0 c1 c2
        by_cases hok : cellOk (x, y, z) = true
        · obtain ⟨q1, q2, q3, q4, q5, q6, q7⟩ := cellOk_yes hok
          have q3' : shown x = true := by simp [shown, q1, q2, q3]
          have HO : Hid _ := hok
          clear hok q3 q1 q2
          go_wp2_with (go_at_call 60; refine (isShown_any _ _).mono ?_; rintro e w' ⟨rfl, rfl⟩)
          go_roundw
          case rel => exact ⟨k + 1, by omega, by go_num, all_take_succ HX.out HA.out HO.out, B1 _⟩
          case measure => simp [intOf]; omega
        · have HO : Hid (cellOk (x, y, z) = false) := (by simpa using hok : cellOk (x, y, z) = false)
          by_cases hs : shown x = true
          · have q2 := cellOk_no' hok hs
            clear hok
            go_wp2_with (go_at_call 60; refine (isShown_any _ _).mono ?_; rintro e w' ⟨rfl, rfl⟩)
            all_goals (go_ret; exact ⟨ret_int (fault_bad (by rw [ha.1]; omega) HX.out HO.out).symm, B1 _⟩)
          · have hs' : shown x = false := by simpa using hs
            clear hok hs
            go_wp2_with (go_at_call 60; refine (isShown_any _ _).mono ?_; rintro e w' ⟨rfl, rfl⟩)
            go_ret
            exact ⟨ret_int (fault_bad (by rw [ha.1]; omega) HX.out HO.out).symm, B1 _⟩
      · go_wp2
        go_ret
        exact ⟨ret_int (fault_ok (n := k) (by rw [ha.1]; omega) (by rw [ha.1]; omega) HA.out).symm, hb⟩
  · go_enter Try.func25, Try.ntmps25
    go_wp2
    go_ret
    exact ⟨ret_int (fault_many (by rw [ha.1]; omega)).symm, Below.refl _ _⟩
end Go.Proofs.Ytjnbegemdhkciaa
