/-
  Contracts of the cells of a line: the specification's.
-/
import Derived.Test.YtocophekfbhfbaaShown1
import Derived.Test.YtocophekfbhfbaaHlpCA
namespace Go.Proofs.Ytocophekfbhfbaa
open Go.RowKit
set_option linter.unusedVariables false

theorem cellE_one (c : C3) : ∀ u ∈ cellE c, u.oneCell' = true := by
  intro u hu
  simp [cellE] at hu
  rcases hu with rfl | rfl | rfl <;> rfl

/-- A cell more behind those that are owned. -/
theorem ownR_snoc {e : TypeId} {w : World} {base : Nat} {v : Value} {m : Nat} {cs : List C3} {c : C3} (hl : cs.length = m) (h : w.ownsRow base e 3 v (m + 1) (cs.flatMap cellE ++ cellE c)) : OwnR cellE 3 e w base v (m + 1) (cs ++ [c]) :=
  ⟨by simp [hl], by rw [List.flatMap_append]; simpa using h⟩

end Go.Proofs.Ytocophekfbhfbaa