/-
  Chapter 8: a new table.
-/
import Derived.Test.YtlemdjgpkmjihaaGreatTab2
import Derived.Test.YtlemdjgpkmjihaaGreatHlpX
import Derived.Test.YtlemdjgpkmjihaaGreatProgA
namespace Go.Proofs.YtlemdjgpkmjihaaGreat
open Go.RowKit
set_option linter.unusedVariables false
set_option linter.unusedSimpArgs false

/-- What NewTable tells. -/
def ntCode (z : Int) : Int := if 1 ≤ z ∧ z ≤ 12 then 0 else 3
def ntSize (z : Int) : Int := if 1 ≤ z ∧ z ≤ 12 then z else 0
def ntVal : Int := 0
def ntRows : List St := []

set_option maxHeartbeats 800000 in
theorem l8Bad_any (c : Int) (w : World) : Calls Tryz.prog 26 #[.int .i64 c] w fun e w' => e = .returned (.agg #[.int .i64 c, .int .i64 0, .int .i64 0, .slice none 0 0]) ∧ Below w.heap.size w w' := by
  go_enter Tryz.func26, Tryz.ntmps26
  go_wp2
  refine bodyPost_ret (v := .agg #[.int .i64 c, .int .i64 0, .int .i64 0, .slice none 0 0]) (by simp [results, Tryz.results26, go_sem]) rfl ⟨rfl, ?_⟩
  exact (Below.refl _ _).alloc (Nat.le_refl _) _

end Go.Proofs.YtlemdjgpkmjihaaGreat