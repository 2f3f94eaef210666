/-
  Node5c, Node5d in one text.
-/
import Derived.Test.YtlemdjgpkmjihaaGreatNode5
import Derived.Test.YtlemdjgpkmjihaaGreatNode5b
namespace Go.Proofs.YtlemdjgpkmjihaaGreat
open Go.RowKit
set_option linter.unusedVariables false
set_option linter.unusedSimpArgs false

theorem beg_two {bs : List Int} {n : Nd} (h : n.k = 11 ∨ n.k = 12) : beg bs n = if (bs.length : Int) = 0 ∨ n.r ≠ bs.length - 1 then -1
    else if bs.getD (bs.length - 1) 0 = 0 ∨ n.l ≠ bs.getD (bs.length - 1) 0 - 1 then -1
    else bs.getD (bs.getD (bs.length - 1) 0 - 1).toNat 0 := if_pos h
theorem beg_one {bs : List Int} {n : Nd} (h : 8 ≤ n.k ∧ n.k ≤ 10) : beg bs n = if (bs.length : Int) = 0 ∨ n.l ≠ bs.length - 1 then -1 else bs.getD (bs.length - 1) 0 := by
  unfold beg
  rw [if_neg (by omega), if_pos h]
theorem beg_leaf {bs : List Int} {n : Nd} (h : n.k ≤ 7) : beg bs n = bs.length := by
  unfold beg
  rw [if_neg (by omega), if_neg (by omega)]
end Go.Proofs.YtlemdjgpkmjihaaGreat

namespace Go.Proofs.YtlemdjgpkmjihaaGreat
open Go.RowKit
set_option linter.unusedVariables false
set_option linter.unusedSimpArgs false

end Go.Proofs.YtlemdjgpkmjihaaGreat