/-
  Plain mathematics of the index of lines. It speaks of no program.
-/
import Derived.Test.YthdglflipeggpaaChg
namespace Go.Proofs.Ythdglflipeggpaa
open Go.RowKit
set_option linter.unusedVariables false

/-- The marks, one by one: none below its least place, above Z, or not above the one ahead. -/
def marksF (E Z : Int) : Int → Int → List Int → Int
  | _, _, [] => 0
  | least, ahead, m :: ms => if m < least ∨ Z < m ∨ m ≤ ahead then 3 else marksF E Z (least + E) m ms

def indexFault (E : Int) (ms : List Int) (L Z : Int) : Int :=
  if E < 1 ∨ 9 < E ∨ Z < 0 ∨ 400 < Z ∨ L < 0 ∨ Z < L then 3
  else if (ms.length : Int) ≠ Int.tdiv L E then 1
  else marksF E Z E 0 ms

/-- The mark ahead of the place k. -/
def aheadOf (ms : List Int) (k : Nat) : Int := if k = 0 then 0 else ms.getD (k - 1) 0

theorem aheadOf_zero (ms : List Int) : aheadOf ms 0 = 0 := rfl

theorem aheadOf_succ (ms : List Int) (k : Nat) : aheadOf ms (k + 1) = ms.getD k 0 := by simp [aheadOf]

theorem marksF_bad {E Z : Int} {ms : List Int} {k : Nat} {least : Int} (hk : k < ms.length) (h : ms.getD k 0 < least ∨ Z < ms.getD k 0 ∨ ms.getD k 0 ≤ aheadOf ms k) : marksF E Z least (aheadOf ms k) (ms.drop k) = 3 := by
  rw [List.drop_eq_getElem_cons hk]
  simp only [marksF]
  rw [if_pos]
  simpa [List.getD_eq_getElem?_getD, hk] using h

theorem marksF_good {E Z : Int} {ms : List Int} {k : Nat} {least : Int} (hk : k < ms.length) (h1 : ¬ ms.getD k 0 < least) (h2 : ¬ Z < ms.getD k 0) (h3 : ¬ ms.getD k 0 ≤ aheadOf ms k) : marksF E Z least (aheadOf ms k) (ms.drop k) = marksF E Z (least + E) (aheadOf ms (k + 1)) (ms.drop (k + 1)) := by
  rw [List.drop_eq_getElem_cons hk]
  simp only [marksF]
  have e : ms.getD k 0 = ms[k] := by simp [List.getD_eq_getElem?_getD, hk]
  rw [e] at h1 h2 h3
  rw [if_neg (by omega), aheadOf_succ, e]

theorem marksF_end {E Z : Int} {ms : List Int} {k : Nat} {least : Int} (hk : ms.length ≤ k) : marksF E Z least (aheadOf ms k) (ms.drop k) = 0 := by
  rw [List.drop_of_length_le hk]
  rfl

/-- How many line feeds there are behind more bytes. -/
def hearN : Int → List Int → Int
  | L, [] => L
  | L, b :: bs => if b = 10 then hearN (L + 1) bs else hearN L bs

/-- The marks that more bytes bring. -/
def hearM (E : Int) : Int → Int → List Int → List Int
  | _, _, [] => []
  | L, Z, b :: bs => if b = 10 then (if Int.tmod (L + 1) E = 0 then (Z + 1) :: hearM E (L + 1) (Z + 1) bs else hearM E (L + 1) (Z + 1) bs) else hearM E L (Z + 1) bs

theorem hearN_bounds (L : Int) (bs : List Int) : L ≤ hearN L bs ∧ hearN L bs ≤ L + (bs.length : Int) := by
  induction bs generalizing L with
  | nil => simp [hearN]
  | cons b bs ih =>
    simp only [hearN, List.length_cons, Int.natCast_add]
    split
    · have := ih (L + 1); omega
    · have := ih L; omega

theorem hearM_len (E L Z : Int) (bs : List Int) : (hearM E L Z bs).length ≤ bs.length := by
  induction bs generalizing L Z with
  | nil => simp [hearM]
  | cons b bs ih =>
    simp only [hearM, List.length_cons]
    split
    · split
      · have := ih (L + 1) (Z + 1); simp; omega
      · have := ih (L + 1) (Z + 1); omega
    · have := ih L (Z + 1); omega

section
variable {E L Z : Int} {bs : List Int} {k : Nat}

theorem drop_get (hk : k < bs.length) : bs.drop k = bs.getD k 0 :: bs.drop (k + 1) := by
  rw [List.drop_eq_getElem_cons hk]
  simp [List.getD_eq_getElem?_getD, hk]

theorem hearN_no (hk : k < bs.length) (h : ¬ bs.getD k 0 = 10) : hearN L (bs.drop k) = hearN L (bs.drop (k + 1)) := by
  rw [drop_get hk, hearN, if_neg h]

theorem hearN_yes (hk : k < bs.length) (h : bs.getD k 0 = 10) : hearN L (bs.drop k) = hearN (L + 1) (bs.drop (k + 1)) := by
  rw [drop_get hk, hearN, if_pos h]

theorem hearM_no (hk : k < bs.length) (h : ¬ bs.getD k 0 = 10) : hearM E L Z (bs.drop k) = hearM E L (Z + 1) (bs.drop (k + 1)) := by
  rw [drop_get hk, hearM, if_neg h]

theorem hearM_line (hk : k < bs.length) (h : bs.getD k 0 = 10) (h2 : ¬ Int.tmod (L + 1) E = 0) : hearM E L Z (bs.drop k) = hearM E (L + 1) (Z + 1) (bs.drop (k + 1)) := by
  rw [drop_get hk, hearM, if_pos h, if_neg h2]

theorem hearM_mark (hk : k < bs.length) (h : bs.getD k 0 = 10) (h2 : Int.tmod (L + 1) E = 0) : hearM E L Z (bs.drop k) = (Z + 1) :: hearM E (L + 1) (Z + 1) (bs.drop (k + 1)) := by
  rw [drop_get hk, hearM, if_pos h, if_pos h2]

theorem hearN_end (hk : bs.length ≤ k) : hearN L (bs.drop k) = L := by
  rw [List.drop_of_length_le hk]; rfl

theorem hearM_end (hk : bs.length ≤ k) : hearM E L Z (bs.drop k) = [] := by
  rw [List.drop_of_length_le hk]; rfl
end

/-- Where the loop over more bytes stands. -/
def Heard (E L Z : Int) (ms bs : List Int) (k : Nat) (Lk : Int) (M : List Int) : Prop :=
  hearN Lk (bs.drop k) = hearN L bs ∧ M ++ hearM E Lk (Z + k) (bs.drop k) = ms ++ hearM E L Z bs ∧ M.length ≤ ms.length + k ∧ L ≤ Lk ∧ Lk ≤ L + k

theorem Heard.start (E L Z : Int) (ms bs : List Int) : Heard E L Z ms bs 0 L ms := ⟨rfl, by simp, by simp, by omega, by simp⟩

theorem Heard.no {E L Z : Int} {ms bs : List Int} {k : Nat} {Lk : Int} {M : List Int} (h : Heard E L Z ms bs k Lk M) (hk : k < bs.length) (hb : ¬ bs.getD k 0 = 10) : Heard E L Z ms bs (k + 1) Lk M := by
  obtain ⟨h1, h2, h3, h4, h5⟩ := h
  refine ⟨by rw [← h1, hearN_no hk hb], ?_, by omega, h4, by omega⟩
  rw [← h2, hearM_no hk hb, Int.natCast_add, Int.add_assoc]
  rfl

theorem Heard.line {E L Z : Int} {ms bs : List Int} {k : Nat} {Lk : Int} {M : List Int} (h : Heard E L Z ms bs k Lk M) (hk : k < bs.length) (hb : bs.getD k 0 = 10) (hm : ¬ Int.tmod (Lk + 1) E = 0) : Heard E L Z ms bs (k + 1) (Lk + 1) M := by
  obtain ⟨h1, h2, h3, h4, h5⟩ := h
  refine ⟨by rw [← h1, hearN_yes hk hb], ?_, by omega, by omega, by omega⟩
  rw [← h2, hearM_line hk hb hm, Int.natCast_add, Int.add_assoc]
  rfl

theorem Heard.mark {E L Z : Int} {ms bs : List Int} {k : Nat} {Lk : Int} {M : List Int} (h : Heard E L Z ms bs k Lk M) (hk : k < bs.length) (hb : bs.getD k 0 = 10) (hm : Int.tmod (Lk + 1) E = 0) : Heard E L Z ms bs (k + 1) (Lk + 1) (M ++ [Z + k + 1]) := by
  obtain ⟨h1, h2, h3, h4, h5⟩ := h
  refine ⟨by rw [← h1, hearN_yes hk hb], ?_, by simp; omega, by omega, by omega⟩
  rw [← h2, hearM_mark hk hb hm, List.append_assoc, Int.natCast_add, ← Int.add_assoc]
  rfl

theorem Heard.done {E L Z : Int} {ms bs : List Int} {k : Nat} {Lk : Int} {M : List Int} (h : Heard E L Z ms bs k Lk M) (hk : bs.length ≤ k) : Lk = hearN L bs ∧ M = ms ++ hearM E L Z bs := by
  obtain ⟨h1, h2, _⟩ := h
  rw [hearN_end hk] at h1
  rw [hearM_end hk, List.append_nil] at h2
  exact ⟨h1, h2⟩
end Go.Proofs.Ythdglflipeggpaa
