/-
  Chapter 5: the specification's NodesFault: the whole.
-/
import Derived.Test.YtlemdjgpkmjihaaGreatNode5A
namespace Go.Proofs.YtlemdjgpkmjihaaGreat
open Go.RowKit
set_option linter.unusedVariables false
set_option linter.unusedSimpArgs false

theorem nf_many {cs : List Nd} (h : cs.length < 1 ∨ 24 < cs.length) : nodesFault cs = 2 := if_pos h
theorem nf_go {cs : List Nd} (h : ¬ (cs.length < 1 ∨ 24 < cs.length)) : nodesFault cs = faultGo [] (cs.drop 0) := if_neg h
theorem go_form {cs : List Nd} {k : Nat} {x : Nd} {bs : List Int} (hx : cs[k]? = some x) (h : ¬ FormP x) : faultGo bs (cs.drop k) = 1 := by rw [faultGo_at bs hx, if_pos h]
theorem go_range {cs : List Nd} {k : Nat} {x : Nd} {bs : List Int} (hx : cs[k]? = some x) (h : FormP x) (h2 : rangeB x = false) : faultGo bs (cs.drop k) = 3 := by rw [faultGo_at bs hx, if_neg (by simpa using h), if_pos h2]
theorem go_behind {cs : List Nd} {k : Nat} {x : Nd} {bs : List Int} (hx : cs[k]? = some x) (h : FormP x) (h2 : rangeB x = true) (h3 : beg bs x = -1) : faultGo bs (cs.drop k) = 1 := by rw [faultGo_at bs hx, if_neg (by simpa using h), if_neg (by simp [h2]), if_pos h3]
theorem go_next {cs : List Nd} {k : Nat} {x : Nd} {bs : List Int} (hx : cs[k]? = some x) (h : FormP x) (h2 : rangeB x = true) (h3 : beg bs x ≠ -1) : faultGo (bs ++ [beg bs x]) (cs.drop (k + 1)) = faultGo bs (cs.drop k) := by rw [faultGo_at bs hx, if_neg (by simpa using h), if_neg (by simp [h2]), if_neg h3]
theorem go_last {cs : List Nd} {k : Nat} {bs : List Int} (hb : Beg cs k bs) (hk : k = cs.length) : faultGo bs (cs.drop k) = if bs.getD (k - 1) 0 = 0 then 0 else 1 := by
  rw [List.drop_of_length_le (by omega)]
  show (if bs.getD (bs.length - 1) 0 = 0 then (0 : Int) else 1) = _
  rw [hb.len]

/-- What is still to be told. -/
def Told (bs : List Int) (ns : List Nd) (R : Int) : Prop := faultGo bs ns = R

end Go.Proofs.YtlemdjgpkmjihaaGreat