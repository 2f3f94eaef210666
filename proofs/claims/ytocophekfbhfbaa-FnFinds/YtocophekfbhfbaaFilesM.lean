/-
  What the functions of files answer, in plain mathematics.
-/
import Derived.Test.YtocophekfbhfbaaMath2
namespace Go.Proofs.Ytocophekfbhfbaa

def fFault (n : Nat) : Int := if 400 < n then 2 else 0
def apCode (xs ys : List Int) : Int := if 400 < xs.length + ys.length then 2 else 0
def apRes (xs ys : List Int) : List Int := if 400 < xs.length + ys.length then [] else xs ++ ys
def cutCode (xs : List Int) (I : Int) : Int := if 400 < xs.length then 2 else if I < 0 ∨ (xs.length : Int) < I then 3 else 0
def cutRes (xs : List Int) (I : Int) : List Int := if cutCode xs I = 0 then xs.take I.toNat else []
def rpCode (xs : List Int) (A N M : Int) : Int := if 400 < xs.length then 2 else if A < 0 ∨ N < 0 ∨ 400 < N ∨ M < 1 ∨ 400 < M then 3 else 0
/-- How many bytes of a file of n a read gives. -/
def rpLen (n : Nat) (A N M : Int) : Int := min (min N M) ((n : Int) - min A n)
def rpRes (xs : List Int) (A N M : Int) : List Int := if rpCode xs A N M = 0 then (xs.drop A.toNat).take (min N M).toNat else []

theorem apRes_len (xs ys : List Int) : (apRes xs ys).length ≤ 400 := by
  unfold apRes; split <;> simp <;> omega

theorem cutRes_len (xs : List Int) (I : Int) : (cutRes xs I).length ≤ 400 := by
  unfold cutRes cutCode
  by_cases h : 400 < xs.length
  · simp [h]
  · by_cases h2 : I < 0 ∨ (xs.length : Int) < I
    · simp [h, h2]
    · simp [h, h2]; omega

theorem rpRes_len (xs : List Int) (A N M : Int) : (rpRes xs A N M).length ≤ 400 := by
  unfold rpRes rpCode
  by_cases h : 400 < xs.length
  · simp [h]
  · by_cases h2 : A < 0 ∨ N < 0 ∨ 400 < N ∨ M < 1 ∨ 400 < M
    · simp [h, h2]
    · simp [h, h2]; omega
end Go.Proofs.Ytocophekfbhfbaa
