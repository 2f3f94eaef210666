/-
  Draws of a long line, and of cells that may have a fault.
-/
import Derived.Test.YtocophekfbhfbaaDraw3
import Derived.Test.YtocophekfbhfbaaCells1
import Derived.Test.YtocophekfbhfbaaHlpCA
namespace Go.Proofs.Ytocophekfbhfbaa
open Go.RowKit
set_option linter.unusedVariables false

theorem l1Chance_any (B b T : Nat) (N : Int) (w : World) (hs : Src w B b T) (hT : T ≤ 1073741824) (hN : N ≤ 1073741824) :
    Calls Try.prog 103 #[.pointer (some ⟨b, 0, none⟩), .int .i64 N] w fun e w' => ∃ q : Bool, e = .returned (.bool q) ∧ Src w' B b (T + 1) ∧ w.grownBy w' (some b) := by
  go_enter Try.func103, Try.ntmps103
  go_wp2_with fail
  refine (l1Next_any B b T N _ hs hT hN).mono ?_
  rintro e w1 ⟨r, rfl, hr, hs1, hg1⟩
  clear hr
  go_wp2
  go_ret
  exact ⟨_, rfl, hs1, hg1⟩

theorem src_below {w : World} {a : Option Addr} {n : Nat} {xs : List Int} (ha : Rd .u8 w a n xs) : n = 0 ∨ ∃ b' off, a = some ⟨b', off, none⟩ ∧ b' < w.heap.size := by
  rcases ha.2 with h0 | ⟨b', off, rfl, hc⟩
  · exact .inl h0
  · by_cases h0 : n = 0
    · exact .inl h0
    · exact .inr ⟨b', off, rfl, World.block_lt_of_cell? _ _ (hc 0 (by omega))⟩

end Go.Proofs.Ytocophekfbhfbaa