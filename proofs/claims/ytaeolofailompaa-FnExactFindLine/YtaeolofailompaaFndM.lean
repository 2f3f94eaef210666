/-
  Chapter 9: the line that is found among the lines that have a pattern: plain mathematics. It speaks of no program.
-/
import Derived.Test.YtaeolofailompaaHasM
namespace Go.Proofs.Ytaeolofailompaa
open Go.RowKit
set_option linter.unusedVariables false
set_option linter.unusedSimpArgs false

/-- How many are less than x, and not more than x. -/
def ltN (hs : List Int) (x : Int) : Nat := (hs.filter (fun h => decide (h < x))).length
def leN (hs : List Int) (x : Int) : Nat := (hs.filter (fun h => decide (h ≤ x))).length
/-- In a rising list: one more where x itself is there. -/
theorem leN_of {x : Int} : ∀ {hs : List Int}, hs.Pairwise (· < ·) → leN hs x = ltN hs x + (if x ∈ hs then 1 else 0)
  | [], _ => by simp [leN, ltN]
  | h :: hs, hp => by
    rw [List.pairwise_cons] at hp
    have ih := leN_of (x := x) hp.2
    unfold leN ltN at ih ⊢
    by_cases h1 : h < x
    · have h2 : h ≤ x := by omega
      have h3 : x ≠ h := by omega
      simp only [List.filter_cons, h1, h2, decide_true, if_true, List.length_cons, List.mem_cons, h3, false_or]
      omega
    · by_cases h4 : h = x
      · subst h4
        have h5 : h ∉ hs := fun hm => by have := hp.1 h hm; omega
        simp only [h5, if_false] at ih
        simp only [List.filter_cons, h1, Int.le_refl, decide_true, decide_false, if_true, List.length_cons, List.mem_cons, true_or, Bool.false_eq_true, if_false]
        omega
      · have h2 : ¬ h ≤ x := by omega
        have h3 : x ≠ h := fun e => h4 e.symm
        simp only [List.filter_cons, h1, h2, decide_false, Bool.false_eq_true, if_false, List.mem_cons, h3, false_or]
        exact ih
/-- The place that is told: of the specification. -/
def fndAt (hs : List Int) (from_ count : Int) (back : Bool) : Int :=
  if back then (((ltN hs from_ : Int) - count).tmod hs.length + hs.length).tmod hs.length else ((leN hs from_ : Int) + count - 1).tmod hs.length
end Go.Proofs.Ytaeolofailompaa
