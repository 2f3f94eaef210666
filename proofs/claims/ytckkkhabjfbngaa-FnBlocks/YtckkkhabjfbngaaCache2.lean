/-
  CacheFault of the program.
-/
import Derived.Test.YtckkkhabjfbngaaCache1
namespace Go.Proofs.Ytckkkhabjfbngaa
open Go.RowKit
set_option linter.unusedVariables false

set_option maxHeartbeats 1600000 in
theorem blockFault_any (num u : Int) (p : Option Addr) (m cp : Nat) (xs : List Int) (a : Option Addr) (n ca : Nat) (bs : List Bk) (w : World) (hm : xs.length = m) (hm1 : m ≤ 1073741824) (ha : RdB w a n bs) (h1 : n ≤ 1073741824) :
    Calls Try.prog 59 #[.agg #[.int .i64 num, .slice p m cp], .int .i64 u, .slice a n ca] w fun e w' => e = .returned (.int .i64 (oneFault u bs (num, xs))) ∧ Below w.heap.size w w' := by
  have hlen := ha.len
  have B1 : ∀ o1, Below w.heap.size w (w.alloc o1) := fun o1 => (Below.refl _ _).alloc (Nat.le_refl _) o1
  by_cases hnum : 0 ≤ num ∧ num ≤ 400
  · obtain ⟨hnum1, hnum2⟩ := hnum
    by_cases hl : 1 ≤ (m : Int) ∧ (m : Int) ≤ u
    · obtain ⟨hl1, hl2⟩ := hl
      have e1 : oneFault u bs (num, xs) = if hasN bs num then 6 else 0 := by
        unfold oneFault
        rw [if_neg (by simp; omega), if_neg (by simp; omega)]
      rw [e1]
      obtain ⟨R, hR⟩ : ∃ R : Int, R = if hasN bs num then 6 else 0 := ⟨_, rfl⟩
      rw [← hR]
      go_enter Try.func59, Try.ntmps59
      go_wp2
      go_loopw [30] (fun i wr => ∃ k : Nat, k ≤ n ∧ i = .int .i64 k ∧ hasN (bs.take k) num = false ∧ wr.cell? ⟨w.heap.size, 0, none⟩ = some (.int .i64 num) ∧ w.heap.size < wr.heap.size ∧ Below w.heap.size w wr) (fun i _ => n - (intOf i).toNat)
      case atStart => exact ⟨0, Nat.zero_le _, rfl, by simp [hasN], by simp [go_sem], by simp, B1 _⟩
      case round =>
        obtain ⟨k, hk, rfl, hno, hcn, hz, hbw⟩ := hrel
        by_cases hlt : k < n
        · obtain ⟨b1, o1, num1, a1, c1, ys, rfl, hx, hc0, hc1, _⟩ := (ha.below hbw).at hlt
          have hs := hasN_succ hx num
          have hlt' : (k : Int) < (n : Int) := by omega
          have kk : ∀ o, (wr.alloc o).cell? ⟨w.heap.size, 0, none⟩ = some (.int .i64 num) := fun o => cell_later ((Below.refl _ _).alloc (Nat.le_refl _) o) hcn
          by_cases e : num1 = num
          · have e2 : hasN bs num = true := hasN_take (k := k + 1) (by rw [hs]; simp [e])
            go_wp2
            go_ret
            exact ⟨ret_int (by rw [hR, if_pos e2]), hbw.alloc hbw.size _⟩
          · have e2 : hasN (bs.take (k + 1)) num = false := by rw [hs, hno]; simp [e]
            go_wp2
            go_roundw
            case rel => exact ⟨k + 1, by omega, by go_num, e2, kk _, by simp; omega, hbw.alloc hbw.size _⟩
            case measure => simp [intOf]; omega
        · obtain rfl : k = n := by omega
          rw [List.take_of_length_le (by omega)] at hno
          go_wp2
          go_ret
          exact ⟨ret_int (by rw [hR, hno]; rfl), hbw⟩
    · have e1 : oneFault u bs (num, xs) = 1 := by
        unfold oneFault
        rw [if_neg (by simp; omega), if_pos (by simp; omega)]
      rw [e1]
      by_cases hl1 : 1 ≤ (m : Int)
      · have hl2 : ¬ (m : Int) ≤ u := fun h => hl ⟨hl1, h⟩
        go_enter Try.func59, Try.ntmps59
        go_wp2
        go_ret
        exact ⟨rfl, B1 _⟩
      · go_enter Try.func59, Try.ntmps59
        go_wp2
        go_ret
        exact ⟨rfl, B1 _⟩
  · have e1 : oneFault u bs (num, xs) = 3 := by
      unfold oneFault
      rw [if_pos (by simp; omega)]
    rw [e1]
    by_cases hnum1 : 0 ≤ num
    · have hnum2 : ¬ num ≤ 400 := fun h => hnum ⟨hnum1, h⟩
      go_enter Try.func59, Try.ntmps59
      go_wp2
      go_ret
      exact ⟨rfl, B1 _⟩
    · go_enter Try.func59, Try.ntmps59
      go_wp2
      go_ret
      exact ⟨rfl, B1 _⟩

theorem take_get {α : Type} {l : List α} {k j : Nat} {x : α} (h : (l.take k)[j]? = some x) : l[j]? = some x := by
  rw [List.getElem?_take] at h
  split at h
  · exact h
  · cases h

theorem RdB.take {w : World} {a : Option Addr} {n : Nat} {bs : List Bk} (h : RdB w a n bs) (k : Nat) (hk : k ≤ n) : RdB w a k (bs.take k) := by
  have hlen := h.len
  obtain ⟨us, h1, h2, h3⟩ := h
  have hul := h1.1
  refine ⟨us.take k, ⟨by simp; omega, ?_⟩, by simp; omega, fun j u b hu hb => ?_⟩
  · rcases h1.2 with h0 | ⟨b, off, rfl, hc⟩
    · left; omega
    · right
      refine ⟨b, off, rfl, fun j x hx => hc j x ?_⟩
      exact take_get hx
  · exact h3 j u b (take_get hu) (take_get hb)

set_option maxHeartbeats 1600000 in
theorem implCacheFault_any (u z : Int) (a : Option Addr) (n ca : Nat) (bs : List Bk) (w : World) (ha : RdB w a n bs) (h1 : (n : Int) + byB bs ≤ 1073741824) (hca : n ≤ ca) :
    Calls Try.prog 16 #[.agg #[.int .i64 u, .int .i64 z, .slice a n ca]] w fun e w' => e = .returned (.int .i64 (cacheFault u z bs)) ∧ Below w.heap.size w w' := by
  have hlen := ha.len
  have B1 : ∀ o1, Below w.heap.size w (w.alloc o1) := fun o1 => (Below.refl _ _).alloc (Nat.le_refl _) o1
  by_cases hu1 : u < 1
  · have e : cacheFault u z bs = 3 := by
      unfold cacheFault
      rw [if_pos (by omega)]
    rw [e]
    go_enter Try.func16, Try.ntmps16
    go_wp2
    go_ret
    exact ⟨rfl, B1 _⟩
  by_cases hu2 : 64 < u
  · have e : cacheFault u z bs = 3 := by
      unfold cacheFault
      rw [if_pos (by omega)]
    rw [e]
    go_enter Try.func16, Try.ntmps16
    go_wp2
    go_ret
    exact ⟨rfl, B1 _⟩
  by_cases hz1 : z < 1
  · have e : cacheFault u z bs = 3 := by
      unfold cacheFault
      rw [if_pos (by omega)]
    rw [e]
    go_enter Try.func16, Try.ntmps16
    go_wp2
    go_ret
    exact ⟨rfl, B1 _⟩
  by_cases hz2 : 6 < z
  · have e : cacheFault u z bs = 3 := by
      unfold cacheFault
      rw [if_pos (by omega)]
    rw [e]
    go_enter Try.func16, Try.ntmps16
    go_wp2
    go_ret
    exact ⟨rfl, B1 _⟩
  by_cases hn : z < (n : Int)
  · have e : cacheFault u z bs = 2 := by
      unfold cacheFault
      rw [if_neg (by omega), if_pos (by omega)]
    rw [e]
    go_enter Try.func16, Try.ntmps16
    go_wp2
    go_ret
    exact ⟨rfl, B1 _⟩
  have e : cacheFault u z bs = rowFault u [] bs := by
    unfold cacheFault
    rw [if_neg (by omega), if_neg (by omega)]
  rw [e]
  go_enter Try.func16, Try.ntmps16
  go_wp2
  go_loopw [33] (fun i wr => ∃ k : Nat, k ≤ n ∧ i = .int .i64 k ∧ rowFault u [] bs = rowFault u (bs.take k) (bs.drop k) ∧ wr.cell? ⟨w.heap.size, 0, none⟩ = some (.int .i64 u) ∧ wr.cell? ⟨w.heap.size, 2, none⟩ = some (.slice a n ca) ∧ w.heap.size < wr.heap.size ∧ Below w.heap.size w wr) (fun i _ => n - (intOf i).toNat)
  case atStart => exact ⟨0, Nat.zero_le _, rfl, by simp, by simp [go_sem], by simp [go_sem], by simp, B1 _⟩
  case round =>
    obtain ⟨k, hk, rfl, hrf, k0, k2, hz, hbw⟩ := hrel
    by_cases hlt : k < n
    · obtain ⟨b1, o1, num, a1, c1, xs, rfl, hx, hc0, hc1, hr1, _⟩ := (ha.below hbw).at hlt
      rw [rowFault_step hx] at hrf
      have hlx := byB_at hx
      have hlt' : (k : Int) < (n : Int) := by omega
      have B2 : ∀ o, Below w.heap.size w (wr.alloc o) := fun o => hbw.alloc hbw.size o
      have q0 : ∀ o, (wr.alloc o).cell? ⟨w.heap.size, 0, none⟩ = some (.int .i64 u) := fun o => cell_later ((Below.refl _ _).alloc (Nat.le_refl _) o) k0
      have q2 : ∀ o, (wr.alloc o).cell? ⟨w.heap.size, 2, none⟩ = some (.slice (some ⟨b1, o1, none⟩) n ca) := fun o => cell_later ((Below.refl _ _).alloc (Nat.le_refl _) o) k2
      have r1 : ∀ o, RdB (wr.alloc o).drew (some ⟨b1, o1, none⟩) k (bs.take k) := fun o => (ha.take k hk).below (B2 o).drew
      have HR : Hid _ := r1
      have HX : Hid _ := hx
      clear r1 hr1 hx
      go_wp2
      go_region_with (go_at_call 59; refine (blockFault_any num u a1 xs.length c1 xs (some ⟨b1, o1, none⟩) k ca (bs.take k) _ rfl (by omega) (HR.out _) (by omega)).mono ?_; rintro e w2 ⟨rfl, hb2⟩)
      all_goals
        have hb02 := (B2 _).drew.trans (hb2.mono (B2 _).size)
        by_cases hone : oneFault u (bs.take k) (num, xs) = 0
        · rw [hone] at hrf ⊢
          rw [if_neg (by simp)] at hrf
          go_wp2
          go_roundw
          case rel => exact ⟨k + 1, by omega, by go_num, hrf, cell_later hb2 (q0 _), cell_later hb2 (q2 _), by have := hb2.size; simp at this; omega, hb02⟩
          case measure => simp [intOf]; omega
        · rw [if_pos hone] at hrf
          generalize oneFault u (bs.take k) (num, xs) = cd at hone hrf
          go_wp2
          go_ret
          exact ⟨ret_int hrf.symm, hb02⟩
    · obtain rfl : k = n := by omega
      rw [rowFault_end u (by omega)] at hrf
      go_wp2
      go_ret
      first | exact ⟨ret_int hrf.symm, hbw⟩ | exact ⟨rfl, hbw⟩

theorem l3Bad_any (c : Int) (w : World) :
    Calls Try.prog 54 #[.int .i64 c] w fun e w' => e = .returned (.agg #[.int .i64 c, .slice none 0 0, .int .i64 0, .int .i64 0, .slice none 0 0]) ∧ Below w.heap.size w w' := by
  go_enter Try.func54, Try.ntmps54
  go_wp2
  refine bodyPost_ret (v := .agg #[.int .i64 c, .slice none 0 0, .int .i64 0, .int .i64 0, .slice none 0 0]) (by simp [results, Try.results54, go_sem]) rfl ⟨rfl, ?_⟩
  exact (Below.refl _ _).alloc (Nat.le_refl _) _
end Go.Proofs.Ytckkkhabjfbngaa
