/-
  Chapter 9: the lines that have a pattern, and the one that is found among them; searching a rising list.
-/
import Derived.Test.YtaeolofailompaaFndM
import Derived.Test.YtaeolofailompaaLinesM
import Derived.Test.YtaeolofailompaaRows2
import Derived.Test.YtaeolofailompaaBox
import Derived.Deep.LoopGhost
import Derived.Lib.SlicesSearch
namespace Go.Proofs.Ytaeolofailompaa
open Go.RowKit
set_option linter.unusedVariables false
set_option linter.unusedSimpArgs false

theorem ltN_snoc {hs : List Int} {k : Nat} {h F : Int} (e : hs[k]? = some h) : ltN (hs.take (k + 1)) F = ltN (hs.take k) F + (if h < F then 1 else 0) := by
  unfold ltN
  rw [List.take_add_one, e]
  by_cases h1 : h < F <;> simp [List.filter_append, List.filter_cons, h1]
theorem leN_snoc {hs : List Int} {k : Nat} {h F : Int} (e : hs[k]? = some h) : leN (hs.take (k + 1)) F = leN (hs.take k) F + (if h ≤ F then 1 else 0) := by
  unfold leN
  rw [List.take_add_one, e]
  by_cases h1 : h ≤ F <;> simp [List.filter_append, List.filter_cons, h1]
theorem ltN_le (hs : List Int) (F : Int) : ltN hs F ≤ hs.length := List.length_filter_le _ _
theorem leN_le (hs : List Int) (F : Int) : leN hs F ≤ hs.length := List.length_filter_le _ _

/-- the numbers of those of the first k lines that have the pattern -/
def hitsN (is : List In) (xs : List Int) : Nat → List Int
  | 0 => []
  | k + 1 => hitsN is xs k ++ (if hasV is (cutOf xs ((lns xs).getD k (0, 0))) then [(k : Int)] else [])
def hits (is : List In) (xs : List Int) : List Int := hitsN is xs (lns xs).length
theorem hitsN_lt {is : List In} {xs : List Int} : ∀ (k : Nat), ∀ h ∈ hitsN is xs k, 0 ≤ h ∧ h < (k : Int)
  | 0, h, hm => by simp [hitsN] at hm
  | k + 1, h, hm => by
    rw [hitsN, List.mem_append] at hm
    rcases hm with hm | hm
    · have := hitsN_lt k h hm; omega
    · split at hm
      · simp at hm; omega
      · simp at hm
theorem hitsN_pw {is : List In} {xs : List Int} : ∀ (k : Nat), (hitsN is xs k).Pairwise (· < ·)
  | 0 => by simp [hitsN]
  | k + 1 => by
    rw [hitsN, List.pairwise_append]
    refine ⟨hitsN_pw k, by split <;> simp, fun a ha b hb => ?_⟩
    have h1 := hitsN_lt k a ha
    split at hb
    · simp at hb; omega
    · simp at hb
theorem hitsN_len {is : List In} {xs : List Int} : ∀ (k : Nat), (hitsN is xs k).length ≤ k
  | 0 => by simp [hitsN]
  | k + 1 => by
    have := hitsN_len (is := is) (xs := xs) k
    rw [hitsN, List.length_append]
    split <;> simp <;> omega

/-- what is told, and which line is found -/
def fdC (is : List In) (xs : List Int) (F N : Int) : Int :=
  if progFault is ≠ 0 then progFault is else if 400 < xs.length then 2 else if F < -1 ∨ ((lns xs).length : Int) < F ∨ N < 1 ∨ 999 < N then 3 else if hits is xs = [] then 4 else 0
def fdV (is : List In) (xs : List Int) (F N : Int) (B : Bool) : Int := if fdC is xs F N = 0 then (hits is xs).getD (fndAt (hits is xs) F N B).toNat 0 else 0

/-- remainders, as the program takes them -/
theorem tm_wrap {x n : Int} (h1 : 1 ≤ n) (h2 : n ≤ 1000000) : IntKind.i64.wrap (Int.tmod x n) = Int.tmod x n := by
  have h3 := Int.tmod_lt_of_pos x (show 0 < n by omega)
  have h4 : -n < Int.tmod x n := by
    have := Int.tmod_lt_of_pos (-x) (show 0 < n by omega)
    rw [Int.neg_tmod] at this
    omega
  rw [IntKind.wrap_i64] <;> omega
theorem tm_bd {x n : Int} (h1 : 1 ≤ n) : -n < Int.tmod x n ∧ Int.tmod x n < n := by
  have h3 := Int.tmod_lt_of_pos x (show 0 < n by omega)
  have := Int.tmod_lt_of_pos (-x) (show 0 < n by omega)
  rw [Int.neg_tmod] at this
  omega
theorem tm_pos {x n : Int} (h0 : 0 ≤ x) (h1 : 1 ≤ n) : 0 ≤ Int.tmod x n ∧ Int.tmod x n < n := ⟨Int.tmod_nonneg n h0, Int.tmod_lt_of_pos x (by omega)⟩

theorem isNaN1_any (x : Int) (w : World) : Calls Try.prog 233 #[.int .i64 x] w fun e w' => e = .returned (.bool false) ∧ w' = w := by
  go_enter Try.func233, Try.ntmps233
  go_wp2
  go_ret
  exact ⟨by simp, rfl⟩
theorem isNaN2_any (x : Int) (w : World) : Calls Try.prog 249 #[.int .i64 x] w fun e w' => e = .returned (.bool false) ∧ w' = w := by
  go_enter Try.func249, Try.ntmps249
  go_wp2
  go_ret
  exact ⟨by simp, rfl⟩
theorem less_any (x y : Int) (w : World) : Calls Try.prog 248 #[.int .i64 x, .int .i64 y] w fun e w' => e = .returned (.bool (decide (x < y))) ∧ w' = w := by
  go_enter Try.func248, Try.ntmps248
  go_wp2_with fail
  refine Calls.mono (isNaN1_any x _) ?_
  rintro e w1 ⟨rfl, rfl⟩
  go_wp2
  go_ret
  exact ⟨rfl, rfl⟩

theorem srt_at {hs : List Int} (hp : hs.Pairwise (· < ·)) : ∀ a b, a ≤ b → b < hs.length → hs.getD a 0 ≤ hs.getD b 0 := by
  have h := Lib.sorted_at hs hs.length (Nat.le_refl _) (by rw [List.take_length]; exact hp.imp (fun h => by omega))
  exact h
theorem srt_end {hs : List Int} {F : Int} (hp : hs.Pairwise (· < ·)) {i : Nat} (hi : i ≤ hs.length) (h1 : ∀ t, t < i → hs.getD t 0 < F) (h2 : ∀ t, i ≤ t → t < hs.length → F ≤ hs.getD t 0) :
    ltN hs F = i ∧ decide (F ∈ hs) = decide (i < hs.length ∧ hs.getD i 0 = F) := by
  obtain ⟨e1, e2⟩ := Lib.search_end hs hs.length i F (Nat.le_refl _) hi h1 h2 (srt_at hp)
  rw [List.take_length] at e1 e2
  refine ⟨?_, ?_⟩
  · rw [← e1, List.countP_eq_length_filter]; rfl
  · rw [← e2]; simp

set_option maxRecDepth 100000 in
set_option maxHeartbeats 4000000 in
theorem search_any (a : Option Addr) (n ca : Nat) (hs : List Int) (F : Int) (w : World) (ha : Rd .i64 w a n hs) (hn : n ≤ 1000000) (hp : hs.Pairwise (· < ·)) :
    Calls Try.prog 217 #[.slice a n ca, .int .i64 F] w fun e w' => e = .returned (.tuple #[.int .i64 (ltN hs F : Nat), .bool (decide (F ∈ hs))]) ∧ w' = w := by
  have hlen := ha.1
  have S := hid (srt_at hp)
  have E0 := hid (fun i (hi : i ≤ hs.length) => srt_end (F := F) hp hi)
  have RA := hid (fun j (hj : j < n) => ha.at hj)
  rw [hlen] at S E0
  clear ha hp
  go_enter Try.func217, Try.ntmps217
  go_wp2
  go_loopg [7, 8] n (fun g s7 s8 wr => ∃ lo hi : Nat, s7 = .int .i64 lo ∧ s8 = .int .i64 hi ∧ lo ≤ hi ∧ hi ≤ n ∧ hi - lo ≤ g ∧ wr = w ∧ (∀ t, t < lo → hs.getD t 0 < F) ∧ (∀ t, hi ≤ t → t < n → F ≤ hs.getD t 0))
  case atStart => exact ⟨0, n, rfl, rfl, Nat.zero_le _, Nat.le_refl _, by omega, rfl, fun t ht => absurd ht (Nat.not_lt_zero _), fun t h1 h2 => by omega⟩
  case round =>
    obtain ⟨lo, hi, rfl, rfl, hlh, hin, hg, rfl, h1, h2⟩ := hrel
    have I := hid (And.intro h1 h2)
    clear h1 h2
    by_cases hlt : lo < hi
    · obtain ⟨B, o, rfl, hc⟩ := RA.out ((lo + hi) / 2) (by omega)
      have cm := hc ((lo + hi) / 2) (by omega)
      clear hc RA
      obtain ⟨y, hy⟩ : ∃ y, hs.getD ((lo + hi) / 2) 0 = y := ⟨_, rfl⟩
      rw [hy] at cm
      have Y := hid hy
      clear hy
      by_cases hyx : y < F
      · go_wp2_with fail
        refine Calls.mono (less_any _ _ _) ?_
        rintro e w1 ⟨rfl, rfl⟩
        go_wp2
        go_roundg (hi - ((lo + hi) / 2 + 1))
        case measure => omega
        case rel =>
          refine ⟨(lo + hi) / 2 + 1, hi, by rw [show ((lo : Int) + (hi : Int)) / 2 + 1 = (((lo + hi) / 2 + 1 : Nat) : Int) by omega], rfl, by omega, hin, Nat.le_refl _, rfl, fun t ht => ?_, I.out.2⟩
          have := S.out t ((lo + hi) / 2) (by omega) (by omega)
          rw [Y.out] at this
          omega
      · go_wp2_with fail
        refine Calls.mono (less_any _ _ _) ?_
        rintro e w1 ⟨rfl, rfl⟩
        go_wp2
        go_roundg ((lo + hi) / 2 - lo)
        case measure => omega
        case rel =>
          refine ⟨lo, (lo + hi) / 2, rfl, by rw [show ((lo : Int) + (hi : Int)) / 2 = (((lo + hi) / 2 : Nat) : Int) by omega], by omega, by omega, Nat.le_refl _, rfl, I.out.1, fun t ht htn => ?_⟩
          have := S.out ((lo + hi) / 2) t ht htn
          rw [Y.out] at this
          omega
    · have : hi = lo := by omega
      subst this
      obtain ⟨e1, e2⟩ := E0.out hi hin I.out.1 I.out.2
      have E := hid (And.intro e1 e2)
      clear e1 e2
      by_cases hn2 : hi < n
      · obtain ⟨B, o, rfl, hc⟩ := RA.out hi hn2
        have cl := hc hi hn2
        clear hc RA
        obtain ⟨y, hy⟩ : ∃ y, hs.getD hi 0 = y := ⟨_, rfl⟩
        rw [hy] at cl
        have Y := hid hy
        clear hy
        by_cases hyx : y = F
        · go_wp2
          go_ret2
          refine ⟨?_, rfl⟩
          rw [E.out.1, E.out.2, Y.out, decide_eq_true (show hi < n ∧ y = F from ⟨hn2, hyx⟩)]
          first | rfl | simp [*]
        · go_wp2_with fail
          refine Calls.mono (isNaN2_any _ _) ?_
          rintro e w1 ⟨rfl, rfl⟩
          go_wp2
          go_ret2
          refine ⟨?_, rfl⟩
          rw [E.out.1, E.out.2, Y.out, decide_eq_false (show ¬ (hi < n ∧ y = F) from fun h => hyx h.2)]
          first | rfl | simp [*]
      · go_wp2
        go_ret2
        refine ⟨?_, rfl⟩
        rw [E.out.1, E.out.2, decide_eq_false (show ¬ (hi < n ∧ hs.getD hi 0 = F) from fun h => hn2 h.1)]
        first | rfl | simp [*]
end Go.Proofs.Ytaeolofailompaa
