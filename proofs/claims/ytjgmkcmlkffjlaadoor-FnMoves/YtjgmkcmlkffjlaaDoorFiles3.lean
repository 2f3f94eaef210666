/-
  Contracts of CutFile and ReadPart, the specification's and the program's.
-/
import Derived.Test.YtjgmkcmlkffjlaaDoorFiles2
namespace Go.Proofs.YtjgmkcmlkffjlaaDoor
open Go.RowKit
set_option linter.unusedVariables false

/-- A cut of what is read. -/
theorem Rd.cut {k : IntKind} {w : World} {a : Option Addr} {n : Nat} {xs : List Int} (h : Rd k w a n xs) (i m : Nat) (hm : i + m ≤ n) (b : Option Addr) (hb : 0 < m → ∀ g off, a = some ⟨g, off, none⟩ → b = some ⟨g, off + i, none⟩) : Rd k w b m ((xs.drop i).take m) := by
  have hl := h.1
  refine ⟨by simp; omega, ?_⟩
  by_cases h0 : m = 0
  · exact .inl h0
  · rcases h.2 with h2 | ⟨g, off, ha, hc⟩
    · omega
    · refine .inr ⟨g, off + i, hb (by omega) g off ha, fun j hj => ?_⟩
      rw [Nat.add_assoc, hc (i + j) (by omega)]
      simp [List.getD_eq_getElem?_getD, hj]

theorem below_drewT (w w' : World) (q : Nat) (h : Below w.heap.size w w') : Below w.heap.size w (w'.drewN q) := below_drewN h q

end Go.Proofs.YtjgmkcmlkffjlaaDoor