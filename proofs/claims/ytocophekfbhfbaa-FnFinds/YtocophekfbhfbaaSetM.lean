/-
  Chapter 7: sets of places, as rows of bools: plain mathematics. It speaks of no program.
-/
import Derived.Test.YtocophekfbhfbaaInstM
namespace Go.Proofs.Ytocophekfbhfbaa
open Go.RowKit
set_option linter.unusedVariables false
set_option linter.unusedSimpArgs false

/-- A set as an array's cells. -/
def boolsA (bs : List Bool) : Array Value := (bs.map Value.bool).toArray
theorem boolsA_size (bs : List Bool) : (boolsA bs).size = bs.length := by simp [boolsA]
theorem boolsA_at (bs : List Bool) (j : Nat) (h : j < bs.length) : (boolsA bs)[j]? = some (.bool (bs.getD j false)) := by
  simp [boolsA, List.getD_eq_getElem?_getD, h]
theorem boolsA_one (bs : List Bool) : (boolsA bs).all (·.oneCell') = true := by
  rw [Array.all_eq_true_iff_forall_mem]
  intro x hx
  simp [boolsA] at hx
  rcases hx with ⟨_, rfl⟩ | ⟨_, rfl⟩ <;> rfl
theorem boolsA_set (bs : List Bool) (j : Nat) (b : Bool) : (boolsA bs).setIfInBounds j (.bool b) = boolsA (bs.set j b) := by
  simp [boolsA, List.map_set]
theorem boolsA_zero (n : Nat) : boolsA (List.replicate n false) = (List.replicate n (Value.bool false)).toArray := by simp [boolsA]

/-- The places below k that are in a set. -/
def placesTo (bs : List Bool) (k : Nat) : List Int := ((List.range k).filter fun i => bs.getD i false).map fun (i : Nat) => (i : Int)
theorem placesTo_zero (bs : List Bool) : placesTo bs 0 = [] := rfl
theorem placesTo_yes {bs : List Bool} {k : Nat} (h : bs.getD k false = true) : placesTo bs (k + 1) = placesTo bs k ++ [(k : Int)] := by
  unfold placesTo
  rw [List.range_succ, List.filter_append, List.map_append, List.filter_cons_of_pos (by rw [h])]
  rfl
theorem placesTo_no {bs : List Bool} {k : Nat} (h : bs.getD k false = false) : placesTo bs (k + 1) = placesTo bs k := by
  unfold placesTo
  rw [List.range_succ, List.filter_append, List.map_append, List.filter_cons_of_neg (by rw [h]; simp)]
  simp
theorem placesTo_len (bs : List Bool) (k : Nat) : (placesTo bs k).length ≤ k := by
  unfold placesTo
  rw [List.length_map]
  exact Nat.le_trans (List.length_filter_le _ _) (by simp)

/-- The places of a set, rising. -/
def placesOf (bs : List Bool) : List Int := placesTo bs bs.length
theorem placesOf_len (bs : List Bool) : (placesOf bs).length ≤ bs.length := placesTo_len bs _

theorem placesTo_congr {cs bs : List Bool} {k : Nat} (h : ∀ i, i < k → cs.getD i false = bs.getD i false) : placesTo cs k = placesTo bs k := by
  unfold placesTo
  congr 1
  apply List.filter_congr
  intro i hi
  exact h i (by simpa using hi)
theorem placesTo_more {bs : List Bool} {n k : Nat} (h : ∀ i, n ≤ i → bs.getD i false = false) : placesTo bs (n + k) = placesTo bs n := by
  induction k with
  | zero => rfl
  | succ k ih => rw [← Nat.add_assoc, placesTo_no (h _ (by omega)), ih]
end Go.Proofs.Ytocophekfbhfbaa
