/-
  A row of blocks is kept by a store elsewhere.
-/
import Derived.Test.YtckkkhabjfbngaaBlk
import Derived.Test.YtckkkhabjfbngaaBox
namespace Go.Proofs.Ytckkkhabjfbngaa
open Go.RowKit

theorem RowB.setB {eB eU : TypeId} {w : World} {lo hi n B : Nat} {v : Value} {bs : List Bk} (h : RowB eB eU w lo hi v n bs) (hb : B < lo ∨ hi ≤ B) (i : Nat) (u : Value) : RowB eB eU (w.setCell ⟨B, i, none⟩ u) lo hi v n bs :=
  h.chg (Chg.one (set_grown w B i u)) (by omega)
end Go.Proofs.Ytckkkhabjfbngaa
