/-
  Chapter 5: the specification's l5First, l5Behind.
-/
import Derived.Test.YtjkipdamohljpaaNode5
namespace Go.Proofs.Ytjkipdamohljpaa
open Go.RowKit
set_option linter.unusedVariables false
set_option linter.unusedSimpArgs false

set_option maxHeartbeats 1600000 in
set_option maxRecDepth 20000 in
theorem l5First_any (a : Option Addr) (n ca : Nat) (cs : List Nd) (k : Nat) (bs : List Int) (w : World) (ha : RdR ndE 5 w a n cs) (hb : Beg cs k bs) (hk : k ≤ n) (h1 : n ≤ 1073741824) (i : Nat) (hi : i < k) :
    Calls Try.prog 94 #[.slice a n ca, .int .i64 i] w fun e w' => e = .returned (.int .i64 (bs.getD i 0)) ∧ w' = w := by
  induction i using Nat.strongRecOn with
  | ind i ih =>
    obtain ⟨b, off, x, rfl, hx, hc⟩ := ha.at (show i < n by omega)
    obtain ⟨c0, c1, c2, c3, c4⟩ := five hc
    have hf := (hb.at_ i x hi hx).1.1
    have hlt : (i : Int) < (n : Int) := by omega
    obtain ⟨R, hR⟩ : ∃ R, R = bs.getD i 0 := ⟨_, rfl⟩
    rw [← hR]
    by_cases hT : x.k = 11 ∨ x.k = 12
    · have h2 := hb.two hi hx hT
      have hr := ih x.l.toNat (by omega) (by omega)
      rw [h2.2.2.2.2.2, ← hR, show ((x.l.toNat : Nat) : Int) = x.l by omega] at hr
      have CT : Hid _ := fun w' => l5Two_is x.k true w' (by simpa using hT)
      have HH : Hid _ := hr
      clear hr ih h2 hT hf hx hc hR
      obtain ⟨k', c', s', l', r'⟩ := x
      simp only at c0 c1 c2 c3 c4 CT HH
      go_enter Try.func94, Try.ntmps94
      go_wp2_with (go_at_call 108; refine (CT.out _).mono ?_; rintro e w1 ⟨rfl, rfl⟩)
      refine Calls.mono HH.out ?_
      rintro e w2 ⟨rfl, rfl⟩
      go_wp2
      go_ret
      exact ⟨rfl, rfl⟩
    · have CT : Hid _ := fun w' => l5Two_is x.k false w' (by simpa using hT)
      by_cases hO : 8 ≤ x.k ∧ x.k ≤ 10
      · have h2 := hb.one hi hx hO
        have hr := ih x.l.toNat (by omega) (by omega)
        rw [h2.2.2, ← hR, show ((x.l.toNat : Nat) : Int) = x.l by omega] at hr
        have CO : Hid _ := fun w' => l5One_is x.k true w' (by simpa using hO)
        have HH : Hid _ := hr
        clear hr ih h2 hO hf hx hc hT hR
        obtain ⟨k', c', s', l', r'⟩ := x
        simp only at c0 c1 c2 c3 c4 CT HH CO
        go_enter Try.func94, Try.ntmps94
        go_wp2_with (first | (go_at_call 108; refine (CT.out _).mono ?_; rintro e w1 ⟨rfl, rfl⟩) | (go_at_call 109; refine (CO.out _).mono ?_; rintro e w1 ⟨rfl, rfl⟩))
        refine Calls.mono HH.out ?_
        rintro e w2 ⟨rfl, rfl⟩
        go_wp2
        go_ret
        exact ⟨rfl, rfl⟩
      · have h2 := hb.leaf hi hx (by omega)
        rw [h2] at hR
        have CO : Hid _ := fun w' => l5One_is x.k false w' (by simpa using hO)
        clear ih h2 hO hf hx hc hT
        subst hR
        obtain ⟨k', c', s', l', r'⟩ := x
        simp only at c0 c1 c2 c3 c4 CT CO
        go_enter Try.func94, Try.ntmps94
        go_wp2_with (first | (go_at_call 108; refine (CT.out _).mono ?_; rintro e w1 ⟨rfl, rfl⟩) | (go_at_call 109; refine (CO.out _).mono ?_; rintro e w1 ⟨rfl, rfl⟩))
        go_ret
        exact ⟨rfl, rfl⟩

theorem beg_two {bs : List Int} {n : Nd} (h : n.k = 11 ∨ n.k = 12) : beg bs n = if (bs.length : Int) = 0 ∨ n.r ≠ bs.length - 1 then -1
    else if bs.getD (bs.length - 1) 0 = 0 ∨ n.l ≠ bs.getD (bs.length - 1) 0 - 1 then -1
    else bs.getD (bs.getD (bs.length - 1) 0 - 1).toNat 0 := if_pos h
theorem beg_one {bs : List Int} {n : Nd} (h : 8 ≤ n.k ∧ n.k ≤ 10) : beg bs n = if (bs.length : Int) = 0 ∨ n.l ≠ bs.length - 1 then -1 else bs.getD (bs.length - 1) 0 := by
  unfold beg
  rw [if_neg (by omega), if_pos h]
theorem beg_leaf {bs : List Int} {n : Nd} (h : n.k ≤ 7) : beg bs n = bs.length := by
  unfold beg
  rw [if_neg (by omega), if_neg (by omega)]
end Go.Proofs.Ytjkipdamohljpaa
