/-
  CacheFault and NewCache, of the specification and of the program.
-/
import Derived.Test.YtckkkhabjfbngaaCacheM
import Derived.Test.YtckkkhabjfbngaaFiles1
import Derived.Test.YtckkkhabjfbngaaHlpB2
import Derived.Deep.RegionWith
namespace Go.Proofs.Ytckkkhabjfbngaa
open Go.RowKit
set_option linter.unusedVariables false

set_option maxHeartbeats 800000 in
theorem l3At_any (b : Nat) (a : Option Addr) (n ca : Nat) (bs : List Bk) (x : Int) (w : World) (hc : w.cell? ⟨b, 2, none⟩ = some (.slice a n ca)) (ha : RdB w a n bs) (h1 : n ≤ 1073741824) :
    Calls Try.prog 91 #[.pointer (some ⟨b, 0, none⟩), .int .i64 x] w fun e w' => e = .returned (.int .i64 (atI bs x)) ∧ w' = w := by
  have hlen := ha.len
  go_enter Try.func91, Try.ntmps91
  go_wp2
  go_loop [5] (fun i => ∃ k : Nat, k ≤ n ∧ i = .int .i64 k ∧ hasN (bs.take k) x = false) (fun i => n - (intOf i).toNat)
  case atStart => exact ⟨0, Nat.zero_le _, rfl, by simp [hasN]⟩
  case round =>
    obtain ⟨k, hk, rfl, hno⟩ := hrel
    by_cases hlt : k < n
    · obtain ⟨b1, o1, num, a1, c1, xs, rfl, hx, hc0, hc1, _⟩ := ha.at hlt
      have hlt' : (k : Int) < (n : Int) := by omega
      by_cases e : num = x
      · subst e
        have hat := atN_some hx hno
        go_wp2
        go_ret
        exact ⟨ret_int (by simp [atI, hat]), rfl⟩
      · have hs : hasN (bs.take (k + 1)) x = false := by rw [hasN_succ hx, hno]; simp [e]
        go_wp2
        go_round
        case rel => exact ⟨k + 1, by omega, by go_num, hs⟩
        case measure => simp [intOf]; omega
    · obtain rfl : k = n := by omega
      rw [List.take_of_length_le (by omega)] at hno
      have hat := atN_none hno
      go_wp2
      go_ret
      exact ⟨ret_int (by simp [atI, hat]), rfl⟩

theorem l1In_is (x y z : Int) (b : Bool) (w : World) (h : decide (y ≤ x ∧ x ≤ z) = b) :
    Calls Try.prog 55 #[.int .i64 x, .int .i64 y, .int .i64 z] w fun e w' => e = .returned (.bool b) ∧ w' = w :=
  (l1In_any x y z w).mono fun e w' ⟨he, hw⟩ => ⟨by rw [he, h], hw⟩

set_option maxHeartbeats 3200000 in
theorem l3Fault_any (b : Nat) (u z : Int) (a : Option Addr) (n ca : Nat) (bs : List Bk) (w : World) (c0 : w.cell? ⟨b, 0, none⟩ = some (.int .i64 u)) (c1 : w.cell? ⟨b, 1, none⟩ = some (.int .i64 z)) (c2 : w.cell? ⟨b, 2, none⟩ = some (.slice a n ca)) (ha : RdB w a n bs) (h1 : (n : Int) + byB bs ≤ 1073741824) :
    Calls Try.prog 65 #[.pointer (some ⟨b, 0, none⟩)] w fun e w' => e = .returned (.int .i64 (cacheFault u z bs)) ∧ Below w.heap.size w w' := by
  have hlen := ha.len
  by_cases hu : 1 ≤ u ∧ u ≤ 64
  · obtain ⟨hu1, hu2⟩ := hu
    by_cases hz : 1 ≤ z ∧ z ≤ 6
    · obtain ⟨hz1, hz2⟩ := hz
      by_cases hn : z < (n : Int)
      · have e : cacheFault u z bs = 2 := by
          unfold cacheFault
          rw [if_neg (by omega), if_pos (by omega)]
        rw [e]
        go_enter Try.func65, Try.ntmps65
        go_wp2
        go_region
        all_goals
          go_wp2
          go_ret
          exact ⟨rfl, (Below.refl _ _).drew⟩
      · have e : cacheFault u z bs = rowFault u [] bs := by
          unfold cacheFault
          rw [if_neg (by omega), if_neg (by omega)]
        rw [e]
        go_enter Try.func65, Try.ntmps65
        go_wp2
        go_region
        all_goals
          go_wp2
          go_loopw [3] (fun i wr => ∃ k : Nat, k ≤ n ∧ i = .int .i64 k ∧ rowFault u [] bs = rowFault u (bs.take k) (bs.drop k) ∧ Below w.heap.size w wr) (fun i _ => n - (intOf i).toNat)
          case atStart => exact ⟨0, Nat.zero_le _, rfl, by simp, (Below.refl _ _).drew⟩
          case round =>
            obtain ⟨k, hk, rfl, hrf, hbw⟩ := hrel
            have k0 := cell_later hbw c0
            have k2 := cell_later hbw c2
            by_cases hlt : k < n
            · obtain ⟨b1, o1, num, a1, c1', xs, rfl, hx, hc0, hc1, _⟩ := (ha.below hbw).at hlt
              rw [rowFault_step hx] at hrf
              have hlx := byB_at hx
              have hlt' : (k : Int) < (n : Int) := by omega
              by_cases hnum : 0 ≤ num ∧ num ≤ 400
              · obtain ⟨hnum1, hnum2⟩ := hnum
                by_cases hl : 1 ≤ (xs.length : Int) ∧ (xs.length : Int) ≤ u
                · obtain ⟨hl1, hl2⟩ := hl
                  by_cases hh : hasN (bs.take k) num = true
                  · obtain ⟨j, hj, e2⟩ := atN_lt hh
                    have e3 : atI bs num = (j : Int) := by simp [atI, e2]
                    have hne : ¬ (j : Int) = (k : Int) := by omega
                    have e1 : oneFault u (bs.take k) (num, xs) = 6 := by
                      unfold oneFault
                      rw [if_neg (by simp; omega), if_neg (by simp; omega), if_pos hh]
                    rw [e1, if_pos (by decide)] at hrf
                    go_wp2
                    go_region_with (go_at_call 55; refine (l1In_is (xs.length : Int) 1 u true _ (by simp; omega)).mono ?_; rintro e w2 ⟨rfl, rfl⟩)
                    all_goals
                      go_wp2_with fail
                      refine (l3At_any b (some ⟨b1, o1, none⟩) n ca bs num wr.drew k2 (ha.below hbw.drew) (by omega)).mono ?_
                      rintro e w2 ⟨rfl, rfl⟩
                      rw [e3]
                      go_wp2
                      go_ret
                      exact ⟨ret_int hrf.symm, hbw.drew⟩
                  · have hh' : hasN (bs.take k) num = false := by simpa using hh
                    have e3 : atI bs num = (k : Int) := by simp [atI, atN_some hx hh']
                    have e1 : oneFault u (bs.take k) (num, xs) = 0 := by
                      unfold oneFault
                      rw [if_neg (by simp; omega), if_neg (by simp; omega), if_neg hh]
                    rw [e1, if_neg (by simp)] at hrf
                    go_wp2
                    go_region_with (go_at_call 55; refine (l1In_is (xs.length : Int) 1 u true _ (by simp; omega)).mono ?_; rintro e w2 ⟨rfl, rfl⟩)
                    all_goals
                      go_wp2_with fail
                      refine (l3At_any b (some ⟨b1, o1, none⟩) n ca bs num wr.drew k2 (ha.below hbw.drew) (by omega)).mono ?_
                      rintro e w2 ⟨rfl, rfl⟩
                      rw [e3]
                      go_wp2
                      go_roundw
                      case rel => exact ⟨k + 1, by omega, by go_num, hrf, hbw.drew⟩
                      case measure => simp [intOf]; omega
                · have e1 : oneFault u (bs.take k) (num, xs) = 1 := by
                    unfold oneFault
                    rw [if_neg (by simp; omega), if_pos (by simp; omega)]
                  rw [e1, if_pos (by decide)] at hrf
                  by_cases hl1 : 1 ≤ (xs.length : Int)
                  · have hl2 : ¬ (xs.length : Int) ≤ u := fun h => hl ⟨hl1, h⟩
                    go_wp2
                    go_region_with (go_at_call 55; refine (l1In_is (xs.length : Int) 1 u false _ (by simp; omega)).mono ?_; rintro e w2 ⟨rfl, rfl⟩)
                    all_goals
                      go_wp2
                      go_ret
                      exact ⟨ret_int hrf.symm, hbw.drew⟩
                  · go_wp2
                    go_region_with (go_at_call 55; refine (l1In_is (xs.length : Int) 1 u false _ (by simp; omega)).mono ?_; rintro e w2 ⟨rfl, rfl⟩)
                    all_goals
                      go_wp2
                      go_ret
                      exact ⟨ret_int hrf.symm, hbw.drew⟩
              · have e1 : oneFault u (bs.take k) (num, xs) = 3 := by
                  unfold oneFault
                  rw [if_pos (by simp; omega)]
                rw [e1, if_pos (by decide)] at hrf
                by_cases hnum1 : 0 ≤ num
                · have hnum2 : ¬ num ≤ 400 := fun h => hnum ⟨hnum1, h⟩
                  go_wp2
                  go_ret
                  first | exact ⟨ret_int hrf.symm, hbw⟩ | exact ⟨rfl, hbw⟩
                · go_wp2
                  go_ret
                  first | exact ⟨ret_int hrf.symm, hbw⟩ | exact ⟨rfl, hbw⟩
            · obtain rfl : k = n := by omega
              rw [rowFault_end u (by omega)] at hrf
              go_wp2
              go_ret
              first | exact ⟨ret_int hrf.symm, hbw⟩ | exact ⟨rfl, hbw⟩
    · have e : cacheFault u z bs = 3 := by
        unfold cacheFault
        rw [if_pos (by omega)]
      rw [e]
      by_cases hz1 : 1 ≤ z
      · have hz2 : ¬ z ≤ 6 := fun h => hz ⟨hz1, h⟩
        go_enter Try.func65, Try.ntmps65
        go_wp2
        go_ret
        exact ⟨rfl, Below.refl _ _⟩
      · go_enter Try.func65, Try.ntmps65
        go_wp2
        go_ret
        exact ⟨rfl, Below.refl _ _⟩
  · have e : cacheFault u z bs = 3 := by
      unfold cacheFault
      rw [if_pos (by omega)]
    rw [e]
    by_cases hu1 : 1 ≤ u
    · have hu2 : ¬ u ≤ 64 := fun h => hu ⟨hu1, h⟩
      go_enter Try.func65, Try.ntmps65
      go_wp2
      go_ret
      exact ⟨rfl, Below.refl _ _⟩
    · go_enter Try.func65, Try.ntmps65
      go_wp2
      go_ret
      exact ⟨rfl, Below.refl _ _⟩

theorem specCacheFault_any (u z : Int) (a : Option Addr) (n ca : Nat) (bs : List Bk) (w : World) (ha : RdB w a n bs) (h1 : (n : Int) + byB bs ≤ 1073741824) :
    Calls Try.prog 29 #[.agg #[.int .i64 u, .int .i64 z, .slice a n ca]] w fun e w' => e = .returned (.int .i64 (cacheFault u z bs)) ∧ Below w.heap.size w w' := by
  go_enter Try.func29, Try.ntmps29
  go_wp2_with fail
  refine (l3Fault_any w.heap.size u z a n ca bs _ (by simp [go_sem]) (by simp [go_sem]) (by simp [go_sem]) (ha.below ((Below.refl _ _).alloc (Nat.le_refl _) _)) h1).mono ?_
  rintro e w1 ⟨rfl, hb1⟩
  go_wp2
  go_ret
  exact ⟨rfl, below_slot hb1⟩

end Go.Proofs.Ytckkkhabjfbngaa
