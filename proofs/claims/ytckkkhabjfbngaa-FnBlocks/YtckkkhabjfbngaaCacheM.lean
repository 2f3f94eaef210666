/-
  Plain mathematics of caches: faults, places.
-/
import Derived.Test.YtckkkhabjfbngaaBlkM
namespace Go.Proofs.Ytckkkhabjfbngaa
open Go.RowKit
set_option linter.unusedVariables false

/-- A number is among the blocks. -/
def hasN : List Bk → Int → Bool
  | [], _ => false
  | b :: bs, x => decide (b.1 = x) || hasN bs x

theorem hasN_append (xs ys : List Bk) (x : Int) : hasN (xs ++ ys) x = (hasN xs x || hasN ys x) := by
  induction xs with
  | nil => simp [hasN]
  | cons b bs ih => simp [hasN, ih, Bool.or_assoc]

theorem hasN_succ {bs : List Bk} {k : Nat} {num : Int} {xs : List Int} (h : bs[k]? = some (num, xs)) (x : Int) : hasN (bs.take (k + 1)) x = (hasN (bs.take k) x || decide (num = x)) := by
  obtain ⟨hk, e⟩ := List.getElem?_eq_some_iff.1 h
  rw [List.take_succ_eq_append_getElem hk, hasN_append, e]
  simp [hasN]

theorem hasN_take {bs : List Bk} {k : Nat} {x : Int} (h : hasN (bs.take k) x = true) : hasN bs x = true := by
  rw [← List.take_append_drop k bs, hasN_append, h]
  simp

theorem hasN_mem {bs : List Bk} {x : Int} : hasN bs x = true ↔ ∃ b ∈ bs, b.1 = x := by
  induction bs with
  | nil => simp [hasN]
  | cons b bs ih => simp [hasN, ih]

/-- The place of a number. -/
def atN : List Bk → Int → Option Nat
  | [], _ => none
  | b :: bs, x => if b.1 = x then some 0 else (atN bs x).map (· + 1)

def atI (bs : List Bk) (x : Int) : Int := match atN bs x with | some i => (i : Int) | none => -1

theorem atN_none {bs : List Bk} {x : Int} (h : hasN bs x = false) : atN bs x = none := by
  induction bs with
  | nil => rfl
  | cons b bs ih =>
    simp [hasN] at h
    simp [atN, h.1, ih h.2]

theorem atN_some {bs : List Bk} {x : Int} {k : Nat} {xs : List Int} (h : bs[k]? = some (x, xs)) (hn : hasN (bs.take k) x = false) : atN bs x = some k := by
  induction bs generalizing k with
  | nil => simp at h
  | cons b bs ih =>
    cases k with
    | zero => simp at h; simp [atN, h]
    | succ k =>
      simp [hasN] at hn
      simp at h
      simp [atN, hn.1, ih h hn.2]

theorem atN_lt {bs : List Bk} {x : Int} {k : Nat} (hn : hasN (bs.take k) x = true) : ∃ j, j < k ∧ atN bs x = some j := by
  induction bs generalizing k with
  | nil => simp [hasN] at hn
  | cons b bs ih =>
    cases k with
    | zero => simp [hasN] at hn
    | succ k =>
      simp [hasN] at hn
      by_cases e : b.1 = x
      · exact ⟨0, by omega, by simp [atN, e]⟩
      · simp [e] at hn
        obtain ⟨j, hj, e2⟩ := ih hn
        exact ⟨j + 1, by omega, by simp [atN, e, e2]⟩

/-- What is wrong with a block behind others. -/
def oneFault (u : Int) (ah : List Bk) (b : Bk) : Int :=
  if b.1 < 0 ∨ 400 < b.1 then 3 else if (b.2.length : Int) < 1 ∨ u < b.2.length then 1 else if hasN ah b.1 then 6 else 0

def rowFault (u : Int) : List Bk → List Bk → Int
  | _, [] => 0
  | ah, b :: r => if oneFault u ah b ≠ 0 then oneFault u ah b else rowFault u (ah ++ [b]) r

def cacheFault (u z : Int) (bs : List Bk) : Int :=
  if u < 1 ∨ 64 < u ∨ z < 1 ∨ 6 < z then 3 else if z < bs.length then 2 else rowFault u [] bs

theorem rowFault_step {u : Int} {bs : List Bk} {k : Nat} {num : Int} {xs : List Int} (h : bs[k]? = some (num, xs)) :
    rowFault u (bs.take k) (bs.drop k) = if oneFault u (bs.take k) (num, xs) ≠ 0 then oneFault u (bs.take k) (num, xs) else rowFault u (bs.take (k + 1)) (bs.drop (k + 1)) := by
  obtain ⟨hk, e⟩ := List.getElem?_eq_some_iff.1 h
  rw [List.drop_eq_getElem_cons hk, rowFault, e, List.take_succ_eq_append_getElem hk, e]

theorem rowFault_end (u : Int) {bs : List Bk} {k : Nat} (h : bs.length ≤ k) : rowFault u (bs.take k) (bs.drop k) = 0 := by
  rw [List.drop_of_length_le h, rowFault]
end Go.Proofs.Ytckkkhabjfbngaa
