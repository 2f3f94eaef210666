/-
  Chapter 5: the specification's text of a tree.
-/
import Derived.Test.YtjjapnggdfiinaaNode8b
namespace Go.Proofs.Ytjjapnggdfiinaa
open Go.RowKit
set_option linter.unusedVariables false
set_option linter.unusedSimpArgs false

set_option maxHeartbeats 3200000 in
set_option maxRecDepth 20000 in
theorem l5Wrap_any (a : Option Addr) (n ca : Nat) (cs : List Nd) (i : Nat) (x : Nd) (t : ByteArray) (up : Int) (right : Bool) (w : World) (ha : RdR ndE 5 w a n cs) (hx : cs[i]? = some x) (hi : i < n) (h1 : n ≤ 1048576)
    (hk : 1 ≤ x.k ∧ x.k ≤ 12) (hup : 8 ≤ up ∧ up ≤ 12) (ht : t.size ≤ 5000000000000)
    (hT : Calls Try.prog 36 #[.slice a n ca, .int .i64 i] w fun e w' => e = .returned (.string t) ∧ Below w.heap.size w w') :
    Calls Try.prog 58 #[.slice a n ca, .int .i64 i, .int .i64 up, .bool right] w fun e w' => e = .returned (.string (wrapT up right (t, x.k))) ∧ Below w.heap.size w w' := by
  obtain ⟨b, off, x', rfl, hx', hc⟩ := ha.at hi
  obtain rfl : x = x' := by rw [hx] at hx'; simpa using hx'
  obtain ⟨c0, c1, c2, c3, c4⟩ := five hc
  have hlt : (i : Int) < (n : Int) := by omega
  have HT : Hid _ := hT
  obtain ⟨R, hR⟩ : ∃ R, R = wrapT up right (t, x.k) := ⟨_, rfl⟩
  rw [← hR]
  unfold wrapT parT at hR
  simp only at hR
  have HR : Hid _ := hR
  clear hR hT hx hx' hc ha
  obtain ⟨k, c, s, l, r⟩ := x
  simp only at c0 c1 c2 c3 c4 hk HR
  have CT : Hid _ := fun w' => l5Two_is k (decide (k = 11 ∨ k = 12)) w' rfl
  have CO : Hid _ := fun w' => l5One_is up (decide (8 ≤ up ∧ up ≤ 10)) w' rfl
  have hup5 : up = 8 ∨ up = 9 ∨ up = 10 ∨ up = 11 ∨ up = 12 := by omega
  have hk4 : k = 1 ∨ k = 11 ∨ k = 12 ∨ (k ≠ 1 ∧ k ≠ 11 ∧ k ≠ 12) := by omega
  rcases hk4 with rfl | rfl | rfl | hko
  case inr.inr.inr =>
    have k1' : (k == 1) = false := by simp; omega
    have hno : wantsB up k right = false := by
      unfold wantsB
      simp only [decide_eq_false hko.1, decide_eq_false hko.2.1, decide_eq_false hko.2.2, Bool.false_and, Bool.or_false, ite_self]
    have hfin : R = t := by rw [HR.out, hno]; rfl
    have hd : decide (k = 11 ∨ k = 12) = false := decide_eq_false (by omega)
    rw [hd] at CT
    subst hfin
    clear hko hno hd hup5
    go_enter Try.func58, Try.ntmps58
    go_wp2_with fail
    refine Calls.mono HT.out ?_
    rintro e w1 ⟨rfl, hb1⟩
    go_wp2_with (go_at_call 84; refine (CT.out _).mono ?_; rintro e w2 ⟨rfl, rfl⟩)
    go_ret
    exact ⟨rfl, hb1⟩
  all_goals rcases hup5 with rfl | rfl | rfl | rfl | rfl
  all_goals cases right
  all_goals first
    | (have hfin : R = t := HR.out
       subst hfin
       go_enter Try.func58, Try.ntmps58
       go_wp2_with fail
       refine Calls.mono HT.out ?_
       rintro e w1 ⟨rfl, hb1⟩
       go_wp2_with (first | (go_at_call 84; refine (CT.out _).mono ?_; rintro e w2 ⟨rfl, rfl⟩) | (go_at_call 83; refine (CO.out _).mono ?_; rintro e w2 ⟨rfl, rfl⟩))
       go_ret
       exact ⟨rfl, hb1⟩)
    | (have hfin : R = (⟨#[40]⟩ : ByteArray) ++ t ++ (⟨#[41]⟩ : ByteArray) := HR.out
       subst hfin
       go_enter Try.func58, Try.ntmps58
       go_wp2_with fail
       refine Calls.mono HT.out ?_
       rintro e w1 ⟨rfl, hb1⟩
       go_wp2_with (first | (go_at_call 84; refine (CT.out _).mono ?_; rintro e w2 ⟨rfl, rfl⟩) | (go_at_call 83; refine (CO.out _).mono ?_; rintro e w2 ⟨rfl, rfl⟩))
       go_ret
       exact ⟨rfl, hb1⟩)
end Go.Proofs.Ytjjapnggdfiinaa
