/-
  Contracts of the helpers of the exact laws over cells.
-/
import Derived.Test.YtoggkcgldckekaaChars
import Derived.Test.YtoggkcgldckekaaMathC
import Derived.Deep.RegionWith
namespace Go.Proofs.Ytoggkcgldckekaa
open Go.RowKit
set_option linter.unusedVariables false

theorem cellE_at (c : C3) : (cellE c)[0]? = some (.int .i64 c.1) ∧ (cellE c)[1]? = some (.int .i64 c.2.1) ∧ (cellE c)[2]? = some (.int .i64 c.2.2) := ⟨rfl, rfl, rfl⟩

/-- The three cells of an element. -/
theorem three {w : World} {b off : Nat} {c : C3} (h : ∀ f v, (cellE c)[f]? = some v → w.cell? ⟨b, off + f, none⟩ = some v) :
    w.cell? ⟨b, off, none⟩ = some (.int .i64 c.1) ∧ w.cell? ⟨b, off + 1, none⟩ = some (.int .i64 c.2.1) ∧ w.cell? ⟨b, off + 2, none⟩ = some (.int .i64 c.2.2) :=
  ⟨h 0 _ rfl, h 1 _ rfl, h 2 _ rfl⟩

end Go.Proofs.Ytoggkcgldckekaa