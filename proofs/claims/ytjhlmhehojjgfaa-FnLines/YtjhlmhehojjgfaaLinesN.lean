/-
  The lines of bytes, with their line feeds, make the whole: plain mathematics.
-/
import Derived.Test.YtjhlmhehojjgfaaLinesM
namespace Go.Proofs.Ytjhlmhehojjgfaa

/-- Behind i lines one stands at the place f. -/
def LnInv (xs : List Int) (i f : Nat) : Prop :=
  (lns xs).drop i = lnsA f f (xs.drop f) ∧ f ≤ xs.length + 1 ∧ i ≤ f ∧ (0 < f → f ≤ xs.length → xs.getD (f - 1) 0 = 10) ∧ (f = xs.length + 1 → 0 < xs.length ∧ xs.getD (xs.length - 1) 0 ≠ 10)

theorem LnInv.zero (xs : List Int) : LnInv xs 0 0 := ⟨by simp [lns], by omega, by omega, fun h => absurd h (by omega), fun h => absurd h (by omega)⟩

theorem lnSize_not : ∀ (xs : List Int), ∀ x ∈ xs.take (lnSize xs), x ≠ 10
  | [], x, hx => by simp at hx
  | y :: ys, x, hx => by
    by_cases hy : y = 10
    · subst hy
      have e : lnSize ((10 : Int) :: ys) = 0 := by simp [lnSize, List.findIdx_cons]
      rw [e] at hx
      simp at hx
    · have hy' : (y == 10) = false := by simpa using hy
      have e : lnSize (y :: ys) = lnSize ys + 1 := by simp [lnSize, List.findIdx_cons, hy']
      rw [e, List.take_succ_cons] at hx
      rcases List.mem_cons.1 hx with h | h
      · subst h; exact hy
      · exact lnSize_not ys x h
theorem lnSize_at : ∀ (xs : List Int), lnSize xs < xs.length → xs.getD (lnSize xs) 0 = 10
  | [], h => by simp at h
  | y :: ys, h => by
    by_cases hy : y = 10
    · subst hy
      have e : lnSize ((10 : Int) :: ys) = 0 := by simp [lnSize, List.findIdx_cons]
      rw [e]
      rfl
    · have hy' : (y == 10) = false := by simpa using hy
      have e : lnSize (y :: ys) = lnSize ys + 1 := by simp [lnSize, List.findIdx_cons, hy']
      rw [e] at h ⊢
      have := lnSize_at ys (by simpa using h)
      simpa using this

theorem getD_drop' (xs : List Int) (f j : Nat) : (xs.drop f).getD j 0 = xs.getD (f + j) 0 := by
  simp [List.getD_eq_getElem?_getD]

/-- The next line, and the place behind it. -/
theorem LnInv.step {xs : List Int} {i f : Nat} (h : LnInv xs i f) (hi : i < (lns xs).length) :
    ∃ z, f + z ≤ xs.length ∧ f < xs.length ∧ (lns xs)[i]? = some ((f : Int), (z : Int)) ∧ LnInv xs (i + 1) (f + z + 1) ∧ (∀ x ∈ (xs.drop f).take z, x ≠ 10) ∧
      (xs ++ [10]).take (f + z + 1) = (xs ++ [10]).take f ++ (xs.drop f).take z ++ [10] := by
  obtain ⟨h1, h2, h3, h4, h5⟩ := h
  have hf : f < xs.length := by
    apply Classical.byContradiction
    intro hf
    rw [lns_end xs f (by omega)] at h1
    have := congrArg List.length h1
    simp at this
    omega
  have hst := lns_step xs f hf
  have hzl := lnSize_le (xs.drop f)
  have hdl : (xs.drop f).length = xs.length - f := by simp
  have hno := lnSize_not (xs.drop f)
  have hat := lnSize_at (xs.drop f)
  generalize lnSize (xs.drop f) = z at *
  have hfz : f + z ≤ xs.length := by omega
  have hget : (lns xs)[i]? = some ((f : Int), (z : Int)) := by
    have : ((lns xs).drop i)[0]? = some ((f : Int), (z : Int)) := by rw [h1, hst]; rfl
    simpa using this
  refine ⟨z, hfz, hf, hget, ⟨?_, by omega, by omega, ?_, ?_⟩, hno, ?_⟩
  · have : (lns xs).drop (i + 1) = ((lns xs).drop i).drop 1 := by rw [List.drop_drop]
    rw [this, h1, hst]
    rfl
  · intro _ hle
    have := hat (by omega)
    rw [getD_drop'] at this
    rw [show f + z + 1 - 1 = f + z by omega]
    exact this
  · intro he
    refine ⟨by omega, ?_⟩
    have hz : z = xs.length - f := by omega
    have hm : xs.getD (xs.length - 1) 0 ∈ (xs.drop f).take z := by
      rw [List.take_of_length_le (by omega)]
      have h6 : xs.getD (xs.length - 1) 0 = (xs.drop f).getD (xs.length - 1 - f) 0 := by rw [getD_drop', show f + (xs.length - 1 - f) = xs.length - 1 by omega]
      rw [h6, List.getD_eq_getElem?_getD, List.getElem?_eq_getElem (by omega)]
      exact List.getElem_mem _
    exact hno _ hm
  · have e1 : (xs ++ [10]).take f = xs.take f := by rw [List.take_append_of_le_length (by omega)]
    have e2 : (xs ++ [10]).take (f + z) = xs.take (f + z) := by rw [List.take_append_of_le_length (by omega)]
    have e3 : xs.take (f + z) = xs.take f ++ (xs.drop f).take z := by rw [List.take_add]
    have hl : f + z < (xs ++ [10]).length := by simp; omega
    have e4 : (xs ++ [10])[f + z] = 10 := by
      by_cases hlt : f + z < xs.length
      · have := hat (by omega)
        rw [getD_drop', List.getD_eq_getElem?_getD, List.getElem?_eq_getElem hlt] at this
        rw [List.getElem_append_left hlt]
        simpa using this
      · have : f + z = xs.length := by omega
        simp [this]
    rw [List.take_succ_eq_append_getElem hl, e4, e2, e3, e1]

theorem LnInv.end {xs : List Int} {i f : Nat} (h : LnInv xs i f) (hi : (lns xs).length ≤ i) : f = xs.length ∨ f = xs.length + 1 := by
  obtain ⟨h1, h2, h3, h4, h5⟩ := h
  have : ¬ f < xs.length := by
    intro hf
    rw [List.drop_of_length_le hi, lns_step xs f hf] at h1
    cases h1
  omega

/-- At the end: the whole, or the whole and a line feed. -/
theorem LnInv.whole {xs : List Int} {i : Nat} (h : LnInv xs i xs.length) : (xs ++ [10]).take xs.length = xs ∧ (0 < xs.length → xs.getD (xs.length - 1) 0 = 10) :=
  ⟨by simp, fun h0 => h.2.2.2.1 h0 (Nat.le_refl _)⟩
theorem LnInv.more {xs : List Int} {i : Nat} (h : LnInv xs i (xs.length + 1)) : (xs ++ [10]).take (xs.length + 1) = xs ++ [10] ∧ 0 < xs.length ∧ xs.getD (xs.length - 1) 0 ≠ 10 :=
  ⟨by rw [List.take_of_length_le (by simp)], h.2.2.2.2 rfl⟩
end Go.Proofs.Ytjhlmhehojjgfaa
