/-
  Chapter 8: sets as lists and as rows of bools; what is reckoned from set to set: plain mathematics. It speaks of no program.
-/
import Derived.Test.YtocophekfbhfbaaTabA
import Derived.Test.YtocophekfbhfbaaRunM
namespace Go.Proofs.Ytocophekfbhfbaa
open Go.RowKit
set_option linter.unusedVariables false
set_option linter.unusedSimpArgs false

theorem rise_ext : ∀ {xs ys : List Int}, xs.Pairwise (· < ·) → ys.Pairwise (· < ·) → (∀ a, a ∈ xs ↔ a ∈ ys) → xs = ys
  | [], [], _, _, _ => rfl
  | [], y :: ys, _, _, h => absurd ((h y).2 (by simp)) (by simp)
  | x :: xs, [], _, _, h => absurd ((h x).1 (by simp)) (by simp)
  | x :: xs, y :: ys, hx, hy, h => by
    rw [List.pairwise_cons] at hx hy
    have e : x = y := by
      have h1 := (h x).1 (by simp)
      have h2 := (h y).2 (by simp)
      rcases List.mem_cons.1 h1 with rfl | h1
      · rfl
      · rcases List.mem_cons.1 h2 with rfl | h2
        · rfl
        · have a1 := hy.1 x h1
          have a2 := hx.1 y h2
          omega
    subst e
    congr 1
    refine rise_ext hx.2 hy.2 (fun a => ?_)
    have ha := h a
    simp only [List.mem_cons] at ha
    constructor
    · intro hm
      rcases ha.1 (.inr hm) with rfl | h'
      · have := hx.1 a hm; omega
      · exact h'
    · intro hm
      rcases ha.2 (.inr hm) with rfl | h'
      · have := hy.1 a hm; omega
      · exact h'

theorem placesTo_rise (bs : List Bool) : ∀ k, (placesTo bs k).Pairwise (· < ·) ∧ ∀ p ∈ placesTo bs k, p < (k : Int)
  | 0 => by simp [placesTo_zero]
  | k + 1 => by
    obtain ⟨h1, h2⟩ := placesTo_rise bs k
    cases h : bs.getD k false
    · rw [placesTo_no h]
      exact ⟨h1, fun p hp => by have := h2 p hp; omega⟩
    · rw [placesTo_yes h]
      refine ⟨?_, fun p hp => ?_⟩
      · rw [List.pairwise_append]
        exact ⟨h1, by simp, fun a ha b hb => by simp at hb; subst hb; exact h2 a ha⟩
      · rcases List.mem_append.1 hp with hp | hp
        · have := h2 p hp; omega
        · simp at hp; omega
theorem placesOf_rise (bs : List Bool) : (placesOf bs).Pairwise (· < ·) := (placesTo_rise bs _).1

theorem setGo_rise {n : Int} : ∀ {xs : List Int} {p : Int}, setGo n p xs = 0 → xs.Pairwise (· < ·) ∧ ∀ x ∈ xs, p < x
  | [], p, _ => by simp
  | a :: xs, p, h => by
    rw [setGo] at h
    by_cases h1 : a ≤ p ∨ n ≤ a
    · rw [if_pos h1] at h; omega
    · rw [if_neg h1] at h
      obtain ⟨h2, h3⟩ := setGo_rise h
      refine ⟨List.pairwise_cons.2 ⟨h3, h2⟩, fun x hx => ?_⟩
      rcases List.mem_cons.1 hx with rfl | hx
      · omega
      · have := h3 x hx; omega
theorem setFault_rise {is : List In} {xs : List Int} (h : setFault is xs = 0) : xs.Pairwise (· < ·) := by
  have hok := setFault_ok h
  unfold setFault at h
  rw [if_neg (by simpa using hok.1), if_neg (by omega)] at h
  exact (setGo_rise h).1

/-- A rising list of places and its row of bools: there and back. -/
theorem markB_back {xs : List Int} (hr : xs.Pairwise (· < ·)) (hx : ∀ x ∈ xs, 0 ≤ x ∧ x < 80) : placesOf (markB xs) = xs := by
  refine rise_ext (placesOf_rise _) hr (fun a => ?_)
  unfold placesOf
  rw [markB_len]
  exact markB_places hx (fun x h => by have := hx x h; omega) a
theorem placesOf_back {R : List Bool} (hl : R.length = 80) : markB (placesOf R) = R := by
  have hx : ∀ x ∈ placesOf R, 0 ≤ x ∧ x < 80 := by
    intro x h
    obtain ⟨q, rfl, hq⟩ := placesOf_mem.1 h
    have : q < R.length := by
      by_cases hq' : q < R.length
      · exact hq'
      · rw [getD_false_of_le (by omega)] at hq; cases hq
    omega
  apply List.ext_getElem?
  intro q
  by_cases hq : q < 80
  · have h1 := markB_mem hx q
    rw [List.getElem?_eq_getElem (by rw [markB_len]; exact hq), List.getElem?_eq_getElem (by rw [hl]; exact hq)]
    have e1 : (markB (placesOf R)).getD q false = (markB (placesOf R))[q]'(by rw [markB_len]; exact hq) := by
      rw [List.getD_eq_getElem?_getD, List.getElem?_eq_getElem (by rw [markB_len]; exact hq)]; rfl
    have e2 : R.getD q false = R[q]'(by rw [hl]; exact hq) := by
      rw [List.getD_eq_getElem?_getD, List.getElem?_eq_getElem (by rw [hl]; exact hq)]; rfl
    rw [← e1, ← e2]
    congr 1
    have h2 : (q : Int) ∈ placesOf R ↔ R.getD q false = true := by
      rw [placesOf_mem]
      constructor
      · rintro ⟨p, hp, h⟩
        have : q = p := by omega
        subst this
        exact h
      · intro h; exact ⟨q, rfl, h⟩
    rw [h2] at h1
    exact Bool.eq_iff_iff.2 h1
  · rw [List.getElem?_eq_none (by rw [markB_len]; omega), List.getElem?_eq_none (by omega)]

/-- The set to which a byte leads: of the program, of the specification. -/
def nextI (is : List In) (bs : List Bool) (d : Int) : List Bool := closeI is false false (placesOf (stepI is d (placesTo bs is.length)))
def nextS (is : List In) (xs : List Int) (d : Int) : List Int := placesOf (closeS is false false (placesOf (stepS is d xs)))
theorem nextI_len {is : List In} (hin : Inside is) (h80 : is.length ≤ 80) (d : Int) {bs : List Bool} (hl : bs.length = 80) (hb : BelowN bs is.length) : (nextI is bs d).length = 80 ∧ BelowN (nextI is bs d) is.length :=
  ⟨(next_eq hin h80 false d hl hb).2.2.2, (next_eq hin h80 false d hl hb).2.2.1⟩
theorem next_is {is : List In} (hin : Inside is) (h80 : is.length ≤ 80) (d : Int) {xs : List Int} (hr : xs.Pairwise (· < ·)) (hx : ∀ x ∈ xs, 0 ≤ x ∧ x < (is.length : Int)) : placesOf (nextI is (markB xs) d) = nextS is xs d ∧ nextI is (markB xs) d = markB (nextS is xs d) := by
  have hb := below_markB h80 hx
  have h1 := (next_eq hin h80 false d (markB_len xs) hb).1
  rw [markB_back hr (fun x h => by have := hx x h; omega)] at h1
  refine ⟨h1, ?_⟩
  have h2 := placesOf_back (nextI_len hin h80 d (markB_len xs) hb).1
  rw [show placesOf (nextI is (markB xs) d) = nextS is xs d from h1] at h2
  exact h2.symm
theorem nextS_ok {is : List In} (hin : Inside is) (h80 : is.length ≤ 80) (d : Int) {xs : List Int} (hr : xs.Pairwise (· < ·)) (hx : ∀ x ∈ xs, 0 ≤ x ∧ x < (is.length : Int)) :
    (nextS is xs d).Pairwise (· < ·) ∧ (∀ x ∈ nextS is xs d, 0 ≤ x ∧ x < (is.length : Int)) ∧ (nextS is xs d).length ≤ 80 := by
  refine ⟨placesOf_rise _, ?_, ?_⟩
  · intro x h
    rw [← (next_is hin h80 d hr hx).1] at h
    obtain ⟨q, rfl, hq⟩ := placesOf_mem.1 h
    have := (nextI_len hin h80 d (markB_len xs) (below_markB h80 hx)).2 q hq
    omega
  · rw [← (next_is hin h80 d hr hx).1]
    have h1 := placesOf_len (nextI is (markB xs) d)
    rw [(nextI_len hin h80 d (markB_len xs) (below_markB h80 hx)).1] at h1
    exact h1
/-- Two sets are the same in both ways. -/
theorem markB_eq {xs ys : List Int} (h1 : xs.Pairwise (· < ·)) (h2 : ys.Pairwise (· < ·)) (hx : ∀ x ∈ xs, 0 ≤ x ∧ x < 80) (hy : ∀ x ∈ ys, 0 ≤ x ∧ x < 80) : markB xs = markB ys ↔ xs = ys := by
  constructor
  · intro h
    rw [← markB_back h1 hx, ← markB_back h2 hy, h]
  · intro h; rw [h]
end Go.Proofs.Ytocophekfbhfbaa
