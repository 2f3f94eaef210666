/-
  Chapter 9: which of the lines that have a pattern is found.
-/
import Derived.Test.YtaeolofailompaaFnd1
namespace Go.Proofs.Ytaeolofailompaa
open Go.RowKit
set_option linter.unusedVariables false
set_option linter.unusedSimpArgs false

theorem tm_again {x n : Int} (h0 : 0 ≤ x) (h1 : 1 ≤ n) : Int.tmod (Int.tmod x n + n) n = Int.tmod x n := by
  have h2 := tm_pos h0 h1
  rw [Int.tmod_eq_emod_of_nonneg (by omega), Int.add_emod_right, ← Int.tmod_eq_emod_of_nonneg h2.1, Int.tmod_eq_emod_of_nonneg h2.1, Int.emod_eq_of_lt h2.1 h2.2]

set_option maxHeartbeats 3200000 in
theorem hitFrom_any (a : Option Addr) (n ca : Nat) (hs : List Int) (F N : Int) (B : Bool) (w : World) (ha : Rd .i64 w a n hs) (hn1 : 1 ≤ n) (hn : n ≤ 1000000) (hp : hs.Pairwise (· < ·)) (hN : 1 ≤ N) (hN2 : N ≤ 999) :
    Calls Try.prog 147 #[.slice a n ca, .int .i64 F, .int .i64 N, .bool B] w fun e w' => e = .returned (.int .i64 (hs.getD (fndAt hs F N B).toNat 0)) ∧ w' = w := by
  have hlen := ha.1
  have SA := fun w' h => search_any a n ca hs F w' h hn hp
  have hle := leN_of (x := F) hp
  have hlt := ltN_le hs F
  rw [hlen] at hlt
  have hni : (1 : Int) ≤ (n : Int) := by omega
  have hnz : ((n : Int) == 0) = false := by simp; omega
  unfold fndAt
  rw [hlen]
  generalize ltN hs F = lt at *
  generalize leN hs F = le at *
  obtain ⟨Bk, o, rfl, hc⟩ := ha.at (show 0 < n by omega)
  cases B
  case true =>
    have hb1 := tm_bd (x := (lt : Int) - N) hni
    obtain ⟨y, hy⟩ : ∃ y, Int.tmod ((lt : Int) - N) (n : Int) = y := ⟨_, rfl⟩
    rw [hy] at hb1
    obtain ⟨hb1, hb2⟩ := hb1
    have hb3 := tm_pos (x := y + (n : Int)) (by omega) hni
    obtain ⟨k, hk⟩ : ∃ k : Nat, Int.tmod (y + (n : Int)) (n : Int) = (k : Int) := ⟨(Int.tmod (y + (n : Int)) (n : Int)).toNat, by omega⟩
    rw [hk] at hb3
    have hkn : k < n := by omega
    have hki : (k : Int) < (n : Int) := by omega
    have hk2 : (y + (n : Int)) % (n : Int) = (k : Int) := by rw [← Int.tmod_eq_emod_of_nonneg (by omega)]; exact hk
    have hk3 : y % (n : Int) = (k : Int) := by rw [← hk2, Int.add_emod_right]
    clear hb3
    have cm := hc k hkn
    have hA : (if (true : Bool) = true then (((lt : Int) - N).tmod (n : Int) + (n : Int)).tmod (n : Int) else ((le : Int) + N - 1).tmod (n : Int)) = (k : Int) := by rw [if_pos rfl, hy, hk]
    rw [hA, Int.toNat_natCast]
    generalize hs.getD k 0 = V at *
    generalize (decide (F ∈ hs)) = q at *
    clear hA
    have HSA : Hid _ := SA
    have HA := hid ha
    clear SA ha hp hc hle
    go_enter Try.func147, Try.ntmps147
    go_wp2_with fail
    refine Calls.mono (HSA.out _ HA.out) ?_
    rintro e w1 ⟨rfl, rfl⟩
    go_wp2
    go_ret
    exact ⟨rfl, rfl⟩
  case false =>
    by_cases hm : F ∈ hs
    · skip
      have hb1 := tm_bd (x := (lt : Int) + N) hni
      obtain ⟨y, hy⟩ : ∃ y, Int.tmod ((lt : Int) + N) (n : Int) = y := ⟨_, rfl⟩
      have hy2 : ((lt : Int) + N) % (n : Int) = y := by rw [← Int.tmod_eq_emod_of_nonneg (by omega)]; exact hy
      rw [hy] at hb1
      obtain ⟨hb1, hb2⟩ := hb1
      have hb3 := tm_pos (x := y + (n : Int)) (by omega) hni
      obtain ⟨k, hk⟩ : ∃ k : Nat, Int.tmod (y + (n : Int)) (n : Int) = (k : Int) := ⟨(Int.tmod (y + (n : Int)) (n : Int)).toNat, by omega⟩
      rw [hk] at hb3
      have hkn : k < n := by omega
      have hki : (k : Int) < (n : Int) := by omega
      have hk2 : (y + (n : Int)) % (n : Int) = (k : Int) := by rw [← Int.tmod_eq_emod_of_nonneg (by omega)]; exact hk
      have hk3 : y % (n : Int) = (k : Int) := by rw [← hk2, Int.add_emod_right]
      clear hb3
      have cm := hc k hkn
      rw [if_pos hm] at hle
      have hA : (if (false : Bool) = true then (((lt : Int) - N).tmod (n : Int) + (n : Int)).tmod (n : Int) else ((le : Int) + N - 1).tmod (n : Int)) = (k : Int) := by
        rw [if_neg (by decide), ← hk, ← hy, tm_again (by omega) hni]
        congr 1
        omega
      rw [hA, Int.toNat_natCast]
      rw [decide_eq_true hm] at SA
      generalize hs.getD k 0 = V at *
      clear hA hm
      have HSA : Hid _ := SA
      have HA := hid ha
      clear SA ha hp hc hle
      go_enter Try.func147, Try.ntmps147
      go_wp2_with fail
      refine Calls.mono (HSA.out _ HA.out) ?_
      rintro e w1 ⟨rfl, rfl⟩
      go_wp2
      go_ret
      exact ⟨rfl, rfl⟩
    · skip
      have hb1 := tm_bd (x := (lt : Int) + (N - 1)) hni
      obtain ⟨y, hy⟩ : ∃ y, Int.tmod ((lt : Int) + (N - 1)) (n : Int) = y := ⟨_, rfl⟩
      have hy2 : ((lt : Int) + (N - 1)) % (n : Int) = y := by rw [← Int.tmod_eq_emod_of_nonneg (by omega)]; exact hy
      rw [hy] at hb1
      obtain ⟨hb1, hb2⟩ := hb1
      have hb3 := tm_pos (x := y + (n : Int)) (by omega) hni
      obtain ⟨k, hk⟩ : ∃ k : Nat, Int.tmod (y + (n : Int)) (n : Int) = (k : Int) := ⟨(Int.tmod (y + (n : Int)) (n : Int)).toNat, by omega⟩
      rw [hk] at hb3
      have hkn : k < n := by omega
      have hki : (k : Int) < (n : Int) := by omega
      have hk2 : (y + (n : Int)) % (n : Int) = (k : Int) := by rw [← Int.tmod_eq_emod_of_nonneg (by omega)]; exact hk
      have hk3 : y % (n : Int) = (k : Int) := by rw [← hk2, Int.add_emod_right]
      clear hb3
      have cm := hc k hkn
      rw [if_neg hm] at hle
      have hA : (if (false : Bool) = true then (((lt : Int) - N).tmod (n : Int) + (n : Int)).tmod (n : Int) else ((le : Int) + N - 1).tmod (n : Int)) = (k : Int) := by
        rw [if_neg (by decide), ← hk, ← hy, tm_again (by omega) hni]
        congr 1
        omega
      rw [hA, Int.toNat_natCast]
      rw [decide_eq_false hm] at SA
      generalize hs.getD k 0 = V at *
      clear hA hm
      have HSA : Hid _ := SA
      have HA := hid ha
      clear SA ha hp hc hle
      go_enter Try.func147, Try.ntmps147
      go_wp2_with fail
      refine Calls.mono (HSA.out _ HA.out) ?_
      rintro e w1 ⟨rfl, rfl⟩
      go_wp2
      go_ret
      exact ⟨rfl, rfl⟩

set_option maxHeartbeats 3200000 in
theorem l9Find_any (a : Option Addr) (n ca : Nat) (hs : List Int) (F N : Int) (B : Bool) (w : World) (ha : Rd .i64 w a n hs) (hn : n ≤ 1000000) (hN : 1 ≤ N) (hN2 : N ≤ 999) :
    Calls Try.prog 150 #[.slice a n ca, .int .i64 F, .int .i64 N, .bool B] w fun e w' => e = .returned (.int .i64 (if hs = [] then -1 else hs.getD (fndAt hs F N B).toNat 0)) ∧ w' = w := by
  have hlen := ha.1
  by_cases hn0 : n = 0
  · subst hn0
    have he : hs = [] := List.length_eq_zero_iff.1 hlen
    rw [if_pos he]
    clear he ha hlen
    go_enter Try.func150, Try.ntmps150
    go_wp2
    go_ret
    exact ⟨rfl, rfl⟩
  rw [if_neg (by intro h; subst h; simp at hlen; omega)]
  have hlt := ltN_le hs F
  have hle := leN_le hs F
  rw [hlen] at hlt hle
  have hni : (1 : Int) ≤ (n : Int) := by omega
  have hnz : ((n : Int) == 0) = false := by simp; omega
  have hnz2 : ¬ (n : Int) = 0 := by omega
  obtain ⟨Bk, o, rfl, hc⟩ := ha.at (show 0 < n by omega)
  have HC := hid hc
  clear hc ha
  obtain ⟨R, hR⟩ : ∃ R, R = hs.getD (fndAt hs F N B).toNat 0 := ⟨_, rfl⟩
  rw [← hR]
  have HR := hid hR
  clear hR
  go_enter Try.func150, Try.ntmps150
  go_wp2
  go_loopw [10, 11, 12] (fun s10 s11 s12 wr => ∃ k : Nat, k ≤ n ∧ s10 = .int .i64 (ltN (hs.take k) F : Nat) ∧ s11 = .int .i64 (leN (hs.take k) F : Nat) ∧ s12 = .int .i64 k ∧ wr = w) (fun _ _ i _ => n - (intOf i).toNat)
  case atStart => exact ⟨0, Nat.zero_le _, rfl, rfl, rfl, rfl⟩
  case round =>
    obtain ⟨k, hk, rfl, rfl, rfl, rfl⟩ := hrel
    by_cases hlk : k < n
    · have hli : (k : Int) < (n : Int) := by omega
      have hck := HC.out k hlk
      have hs1 : hs[k]? = some (hs.getD k 0) := by rw [List.getD_eq_getElem?_getD, List.getElem?_eq_getElem (by omega)]; rfl
      have e1 := ltN_snoc (F := F) hs1
      have e2 := leN_snoc (F := F) hs1
      have b1 := ltN_le (hs.take k) F
      have b2 := leN_le (hs.take k) F
      rw [List.length_take] at b1 b2
      have b3 : ltN (hs.take k) F ≤ 1000000 := by omega
      have b4 : leN (hs.take k) F ≤ 1000000 := by omega
      generalize hs.getD k 0 = y at *
      have HE := hid (And.intro e1 e2)
      clear e1 e2 b1 b2 hs1 hlt hle
      generalize ltN (hs.take k) F = p at *
      generalize leN (hs.take k) F = q at *
      by_cases h1 : y < F
      · have h2 : y ≤ F := by omega
        go_wp2
        go_roundw
        case rel => exact ⟨k + 1, by omega, by rw [HE.out.1, if_pos h1]; go_num, by rw [HE.out.2, if_pos h2]; go_num, by go_num, by trivial⟩
        case measure => simp [intOf]; omega
      · by_cases h2 : y ≤ F
        · go_wp2
          go_roundw
          case rel => exact ⟨k + 1, by omega, by rw [HE.out.1, if_neg h1]; rfl, by rw [HE.out.2, if_pos h2]; go_num, by go_num, by trivial⟩
          case measure => simp [intOf]; omega
        · go_wp2
          go_roundw
          case rel => exact ⟨k + 1, by omega, by rw [HE.out.1, if_neg h1]; rfl, by rw [HE.out.2, if_neg h2]; rfl, by go_num, by trivial⟩
          case measure => simp [intOf]; omega
    · have hkn0 : n = k := by omega
      subst hkn0
      have hli : ¬ (n : Int) < (n : Int) := by omega
      rw [List.take_of_length_le (by omega)]
      have hR := HR.out
      unfold fndAt at hR
      rw [hlen] at hR
      clear HR
      generalize ltN hs F = lt at *
      generalize leN hs F = le at *
      have hc := HC.out
      cases B
      case true =>
        have hb1 := tm_bd (x := (lt : Int) - N) hni
        obtain ⟨y, hy⟩ : ∃ y, Int.tmod ((lt : Int) - N) (n : Int) = y := ⟨_, rfl⟩
        rw [hy] at hb1
        obtain ⟨hb1, hb2⟩ := hb1
        have hb3 := tm_pos (x := y + (n : Int)) (by omega) hni
        obtain ⟨k, hk⟩ : ∃ k : Nat, Int.tmod (y + (n : Int)) (n : Int) = (k : Int) := ⟨(Int.tmod (y + (n : Int)) (n : Int)).toNat, by omega⟩
        rw [hk] at hb3
        have hkn : k < n := by omega
        have hki : (k : Int) < (n : Int) := by omega
        have hk2 : (y + (n : Int)) % (n : Int) = (k : Int) := by rw [← Int.tmod_eq_emod_of_nonneg (by omega)]; exact hk
        have hk3 : y % (n : Int) = (k : Int) := by rw [← hk2, Int.add_emod_right]
        clear hb3
        have cm := hc k hkn
        have hA : (if (true : Bool) = true then (((lt : Int) - N).tmod (n : Int) + (n : Int)).tmod (n : Int) else ((le : Int) + N - 1).tmod (n : Int)) = (k : Int) := by rw [if_pos rfl, hy, hk]
        rw [hA, Int.toNat_natCast] at hR
        generalize hs.getD k 0 = V at *
        subst hR
        clear hA hc HC
        go_wp2
        go_ret
        exact ⟨rfl, rfl⟩
      case false =>
        have hb3 := tm_pos (x := (le : Int) + N - 1) (by omega) hni
        obtain ⟨k, hk⟩ : ∃ k : Nat, Int.tmod ((le : Int) + N - 1) (n : Int) = (k : Int) := ⟨(Int.tmod ((le : Int) + N - 1) (n : Int)).toNat, by omega⟩
        rw [hk] at hb3
        have hkn : k < n := by omega
        have hki : (k : Int) < (n : Int) := by omega
        have hk2 : ((le : Int) + N - 1) % (n : Int) = (k : Int) := by rw [← Int.tmod_eq_emod_of_nonneg (by omega)]; exact hk
        clear hb3
        have cm := hc k hkn
        have hA : (if (false : Bool) = true then (((lt : Int) - N).tmod (n : Int) + (n : Int)).tmod (n : Int) else ((le : Int) + N - 1).tmod (n : Int)) = (k : Int) := by rw [if_neg (by decide), hk]
        rw [hA, Int.toNat_natCast] at hR
        generalize hs.getD k 0 = V at *
        subst hR
        clear hA hc HC
        go_wp2
        go_ret
        exact ⟨rfl, rfl⟩
end Go.Proofs.Ytaeolofailompaa
