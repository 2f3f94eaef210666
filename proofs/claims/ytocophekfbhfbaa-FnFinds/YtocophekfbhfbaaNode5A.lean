/-
  Node5c, Node5d in one text.
-/
import Derived.Test.YtocophekfbhfbaaNode5
import Derived.Test.YtocophekfbhfbaaNode5b
namespace Go.Proofs.Ytocophekfbhfbaa
open Go.RowKit
set_option linter.unusedVariables false
set_option linter.unusedSimpArgs false

set_option maxHeartbeats 1600000 in
set_option maxRecDepth 20000 in
theorem l5First_any (a : Option Addr) (n ca : Nat) (cs : List Nd) (k : Nat) (bs : List Int) (w : World) (ha : RdR ndE 5 w a n cs) (hb : Beg cs k bs) (hk : k ≤ n) (h1 : n ≤ 1073741824) (i : Nat) (hi : i < k) :
    Calls Try.prog 183 #[.slice a n ca, .int .i64 i] w fun e w' => e = .returned (.int .i64 (bs.getD i 0)) ∧ w' = w := by
  induction i using Nat.strongRecOn with
  | ind i ih =>
    obtain ⟨b, off, x, rfl, hx, hc⟩ := ha.at (show i < n by omega)
    obtain ⟨c0, c1, c2, c3, c4⟩ := five hc
    have hf := (hb.at_ i x hi hx).1.1
    have hlt : (i : Int) < (n : Int) := by omega
    obtain ⟨R, hR⟩ : ∃ R, R = bs.getD i 0 := ⟨_, rfl⟩
    rw [← hR]
    by_cases hT : x.k = 11 ∨ x.k = 12
    · have h2 := hb.two hi hx hT
      have hr := ih x.l.toNat (by omega) (by omega)
      rw [h2.2.2.2.2.2, ← hR, show ((x.l.toNat : Nat) : Int) = x.l by omega] at hr
      have CT : Hid _ := fun w' => l5Two_is x.k true w' (by simpa using hT)
      have HH : Hid _ := hr
      clear hr ih h2 hT hf hx hc hR
      obtain ⟨k', c', s', l', r'⟩ := x
      simp only at c0 c1 c2 c3 c4 CT HH
      go_enter Try.func183, Try.ntmps183
      go_wp2_with (go_at_call 220; refine (CT.out _).mono ?_; rintro e w1 ⟨rfl, rfl⟩)
      refine Calls.mono HH.out ?_
      rintro e w2 ⟨rfl, rfl⟩
      go_wp2
      go_ret
      exact ⟨rfl, rfl⟩
    · have CT : Hid _ := fun w' => l5Two_is x.k false w' (by simpa using hT)
      by_cases hO : 8 ≤ x.k ∧ x.k ≤ 10
      · have h2 := hb.one hi hx hO
        have hr := ih x.l.toNat (by omega) (by omega)
        rw [h2.2.2, ← hR, show ((x.l.toNat : Nat) : Int) = x.l by omega] at hr
        have CO : Hid _ := fun w' => l5One_is x.k true w' (by simpa using hO)
        have HH : Hid _ := hr
        clear hr ih h2 hO hf hx hc hT hR
        obtain ⟨k', c', s', l', r'⟩ := x
        simp only at c0 c1 c2 c3 c4 CT HH CO
        go_enter Try.func183, Try.ntmps183
        go_wp2_with (first | (go_at_call 220; refine (CT.out _).mono ?_; rintro e w1 ⟨rfl, rfl⟩) | (go_at_call 219; refine (CO.out _).mono ?_; rintro e w1 ⟨rfl, rfl⟩))
        refine Calls.mono HH.out ?_
        rintro e w2 ⟨rfl, rfl⟩
        go_wp2
        go_ret
        exact ⟨rfl, rfl⟩
      · have h2 := hb.leaf hi hx (by omega)
        rw [h2] at hR
        have CO : Hid _ := fun w' => l5One_is x.k false w' (by simpa using hO)
        clear ih h2 hO hf hx hc hT
        subst hR
        obtain ⟨k', c', s', l', r'⟩ := x
        simp only at c0 c1 c2 c3 c4 CT CO
        go_enter Try.func183, Try.ntmps183
        go_wp2_with (first | (go_at_call 220; refine (CT.out _).mono ?_; rintro e w1 ⟨rfl, rfl⟩) | (go_at_call 219; refine (CO.out _).mono ?_; rintro e w1 ⟨rfl, rfl⟩))
        go_ret
        exact ⟨rfl, rfl⟩

theorem beg_two {bs : List Int} {n : Nd} (h : n.k = 11 ∨ n.k = 12) : beg bs n = if (bs.length : Int) = 0 ∨ n.r ≠ bs.length - 1 then -1
    else if bs.getD (bs.length - 1) 0 = 0 ∨ n.l ≠ bs.getD (bs.length - 1) 0 - 1 then -1
    else bs.getD (bs.getD (bs.length - 1) 0 - 1).toNat 0 := if_pos h
theorem beg_one {bs : List Int} {n : Nd} (h : 8 ≤ n.k ∧ n.k ≤ 10) : beg bs n = if (bs.length : Int) = 0 ∨ n.l ≠ bs.length - 1 then -1 else bs.getD (bs.length - 1) 0 := by
  unfold beg
  rw [if_neg (by omega), if_pos h]
theorem beg_leaf {bs : List Int} {n : Nd} (h : n.k ≤ 7) : beg bs n = bs.length := by
  unfold beg
  rw [if_neg (by omega), if_neg (by omega)]
end Go.Proofs.Ytocophekfbhfbaa

namespace Go.Proofs.Ytocophekfbhfbaa
open Go.RowKit
set_option linter.unusedVariables false
set_option linter.unusedSimpArgs false

set_option maxHeartbeats 1600000 in
set_option maxRecDepth 20000 in
theorem l5Behind_any (a : Option Addr) (n ca : Nat) (cs : List Nd) (k : Nat) (bs : List Int) (x : Nd) (w : World) (ha : RdR ndE 5 w a n cs) (hb : Beg cs k bs) (hx : cs[k]? = some x) (hk : k < n) (h1 : n ≤ 1073741824) (hf : FormP x) :
    Calls Try.prog 182 #[.slice a n ca, .int .i64 k] w fun e w' => e = .returned (.bool (decide (beg bs x ≠ -1))) ∧ Below w.heap.size w w' := by
  obtain ⟨b, off, x', rfl, hx', hc⟩ := ha.at hk
  obtain rfl : x = x' := by rw [hx] at hx'; simpa using hx'
  obtain ⟨c0, c1, c2, c3, c4⟩ := five hc
  have hlt : (k : Int) < (n : Int) := by omega
  have hlen := hb.len
  have hcl := ha.1
  have hkk := hf.1
  obtain ⟨R, hR⟩ : ∃ R, R = decide (beg bs x ≠ -1) := ⟨_, rfl⟩
  rw [← hR]
  have BR := Below.refl w.heap.size w
  by_cases hO : 8 ≤ x.k ∧ x.k ≤ 10
  · have CO : Hid _ := fun w' => l5One_is x.k true w' (by simpa using hO)
    rw [beg_one hO, hlen] at hR
    have hb1 := fun (h : 0 < k) => hb.bd (by omega) (i := k - 1) (by omega)
    have hR2 : R = (decide ((0 : Int) < k) && decide (x.l = (k : Int) - 1)) := by
      rw [hR]
      by_cases e1 : k = 0
      · simp [e1]
      · by_cases e2 : x.l = (k : Int) - 1
        · have := hb1 (by omega)
          rw [if_neg (by omega), decide_eq_true (by omega), decide_eq_true (by omega), decide_eq_true e2]
          rfl
        · rw [if_pos (by omega)]
          simp [e2]
    have HR : Hid _ := hR2
    clear hR hR2 hb1 hb hx hx' hc hO hf hkk
    obtain ⟨k', c', s', l', r'⟩ := x
    simp only at c0 c1 c2 c3 c4 CO HR
    by_cases e1 : k = 0
    · have e1' : decide ((0 : Int) < k) = false := decide_eq_false (by omega)
      have e1'' : ¬ (0 : Int) < k := by omega
      have E1 : Hid _ := e1
      clear e1
      go_enter Try.func182, Try.ntmps182
      go_wp2_with (go_at_call 219; refine (CO.out _).mono ?_; rintro e w1 ⟨rfl, rfl⟩)
      go_ret
      exact ⟨ret_bool (by rw [HR.out, decide_eq_false (by have := E1.out; omega)]; rfl), BR⟩
    · have e1' : (0 : Int) < k := by omega
      go_enter Try.func182, Try.ntmps182
      go_wp2_with (go_at_call 219; refine (CO.out _).mono ?_; rintro e w1 ⟨rfl, rfl⟩)
      go_ret
      exact ⟨ret_bool (by rw [HR.out, Bool.eq_iff_iff]; simp; omega), BR⟩
  have CO : Hid _ := fun w' => l5One_is x.k false w' (by simpa using hO)
  by_cases hT : x.k = 11 ∨ x.k = 12
  case neg =>
    have CT : Hid _ := fun w' => l5Two_is x.k false w' (by simpa using hT)
    rw [beg_leaf (by omega), hlen] at hR
    have hR2 : R = true := by rw [hR]; exact decide_eq_true (by omega)
    subst hR2
    clear hR hb hx hx' hc hO hT hf hkk
    obtain ⟨k', c', s', l', r'⟩ := x
    simp only at c0 c1 c2 c3 c4 CO CT
    go_enter Try.func182, Try.ntmps182
    go_wp2_with (first | (go_at_call 219; refine (CO.out _).mono ?_; rintro e w1 ⟨rfl, rfl⟩) | (go_at_call 220; refine (CT.out _).mono ?_; rintro e w1 ⟨rfl, rfl⟩))
    go_ret
    exact ⟨rfl, BR⟩
  have CT : Hid _ := fun w' => l5Two_is x.k true w' (by simpa using hT)
  rw [beg_two hT, hlen] at hR
  by_cases e1 : k ≤ 1
  · have hR2 : R = false := by
      rw [hR]
      by_cases e0 : k = 0
      · simp [e0]
      · have e0' : k = 1 := by omega
        subst e0'
        have := hb.bd (by omega) (i := 0) (by omega)
        by_cases e2 : x.r = (1 : Int) - 1
        · rw [if_neg (by simp; omega), if_pos (by left; show bs.getD 0 0 = 0; omega)]
          simp
        · rw [if_pos (by right; simpa using e2)]
          simp
    subst hR2
    have e1' : decide ((1 : Int) < k) = false := decide_eq_false (by omega)
    have e1'' : ¬ (1 : Int) < k := by omega
    clear hR hb hx hx' hc hO hT hf hkk
    obtain ⟨k', c', s', l', r'⟩ := x
    simp only at c0 c1 c2 c3 c4 CO CT
    go_enter Try.func182, Try.ntmps182
    go_wp2_with (first | (go_at_call 219; refine (CO.out _).mono ?_; rintro e w1 ⟨rfl, rfl⟩) | (go_at_call 220; refine (CT.out _).mono ?_; rintro e w1 ⟨rfl, rfl⟩))
    go_quiet (fail)
    go_wp2
    go_ret
    exact ⟨rfl, by first | exact BR | exact below_drewN BR _ | exact BR.drew⟩
  have e1' : decide ((1 : Int) < k) = true := decide_eq_true (by omega)
  have e1'' : (1 : Int) < k := by omega
  by_cases e2 : x.r = (k : Int) - 1
  case neg =>
    rw [if_pos (by right; exact e2)] at hR
    have hR2 : R = false := by rw [hR]; simp
    subst hR2
    have e2' : (x.r == (k : Int) - 1) = false := by simpa using e2
    clear hR hb hx hx' hc hO hT hf hkk
    obtain ⟨k', c', s', l', r'⟩ := x
    simp only at c0 c1 c2 c3 c4 CO CT e2'
    go_enter Try.func182, Try.ntmps182
    go_wp2_with (first | (go_at_call 219; refine (CO.out _).mono ?_; rintro e w1 ⟨rfl, rfl⟩) | (go_at_call 220; refine (CT.out _).mono ?_; rintro e w1 ⟨rfl, rfl⟩))
    go_quiet (fail)
    go_wp2
    go_ret
    exact ⟨rfl, by first | exact BR | exact below_drewN BR _ | exact BR.drew⟩
  rw [if_neg (by intro h; rcases h with h | h; omega; exact h e2)] at hR
  have hbd := hb.bd (by omega) (i := k - 1) (by omega)
  have hfirst := fun w' ha' => l5First_any (some ⟨b, off, none⟩) n ca cs k bs w' ha' hb (by omega) h1 (k - 1) (by omega)
  obtain ⟨B, hB⟩ : ∃ B, B = bs.getD (k - 1) 0 := ⟨_, rfl⟩
  rw [← hB] at hR hbd hfirst
  rw [show ((k - 1 : Nat) : Int) = (k : Int) - 1 by omega] at hfirst
  have HF : Hid _ := hfirst
  clear hfirst
  have e2' : (x.r == (k : Int) - 1) = true := by simpa using e2
  by_cases e3 : B = 0
  · rw [if_pos (.inl e3)] at hR
    have hR2 : R = false := by rw [hR]; simp
    subst hR2
    subst e3
    have hA := ha
    clear hR hb hx hx' hc hO hT hf hkk hB
    obtain ⟨k', c', s', l', r'⟩ := x
    simp only at c0 c1 c2 c3 c4 CO CT e2' e2
    subst e2
    go_enter Try.func182, Try.ntmps182
    go_wp2_with (first | (go_at_call 219; refine (CO.out _).mono ?_; rintro e w1 ⟨rfl, rfl⟩) | (go_at_call 220; refine (CT.out _).mono ?_; rintro e w1 ⟨rfl, rfl⟩))
    go_quiet ((go_at_call 183; exact Calls.quiet_of_same (HF.out _ hA)))
    go_wp2
    go_ret
    exact ⟨rfl, by first | exact BR | exact below_drewN BR _ | exact BR.drew⟩
  · have hBp : 0 < B := by omega
    have hBp' : decide (0 < B) = true := decide_eq_true hBp
    by_cases e4 : x.l = B - 1
    · rw [if_neg (by intro h; rcases h with h | h; exact e3 h; exact h e4)] at hR
      have hb2 := hb.bd (by omega) (i := (B - 1).toNat) (by omega)
      have hR2 : R = true := by rw [hR]; simp only [decide_eq_true_eq]; omega
      subst hR2
      have hA := ha
      have e4' : (x.l == B - 1) = true := by simpa using e4
      clear hR hb hx hx' hc hO hT hf hkk hB hb2
      obtain ⟨k', c', s', l', r'⟩ := x
      simp only at c0 c1 c2 c3 c4 CO CT e2' e4' e2 e4
      subst e2
      subst e4
      go_enter Try.func182, Try.ntmps182
      go_wp2_with (first | (go_at_call 219; refine (CO.out _).mono ?_; rintro e w1 ⟨rfl, rfl⟩) | (go_at_call 220; refine (CT.out _).mono ?_; rintro e w1 ⟨rfl, rfl⟩))
      go_quiet ((go_at_call 183; exact Calls.quiet_of_same (HF.out _ hA)))
      go_wp2
      go_ret
      exact ⟨rfl, by first | exact BR | exact below_drewN BR _ | exact BR.drew⟩
    · rw [if_pos (.inr e4)] at hR
      have hR2 : R = false := by rw [hR]; simp
      subst hR2
      have hA := ha
      have e4' : (x.l == B - 1) = false := by simpa using e4
      clear hR hb hx hx' hc hO hT hf hkk hB
      obtain ⟨k', c', s', l', r'⟩ := x
      simp only at c0 c1 c2 c3 c4 CO CT e2' e4' e2 e4
      subst e2
      go_enter Try.func182, Try.ntmps182
      go_wp2_with (first | (go_at_call 219; refine (CO.out _).mono ?_; rintro e w1 ⟨rfl, rfl⟩) | (go_at_call 220; refine (CT.out _).mono ?_; rintro e w1 ⟨rfl, rfl⟩))
      go_quiet ((go_at_call 183; exact Calls.quiet_of_same (HF.out _ hA)))
      go_wp2
      go_ret
      exact ⟨rfl, by first | exact BR | exact below_drewN BR _ | exact BR.drew⟩
end Go.Proofs.Ytocophekfbhfbaa
