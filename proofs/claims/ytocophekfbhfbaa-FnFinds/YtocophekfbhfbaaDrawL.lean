/-
  Draws of layouts: contracts.
-/
import Derived.Test.YtocophekfbhfbaaDraw6
import Derived.Test.YtocophekfbhfbaaChg
import Derived.Test.YtocophekfbhfbaaBox
namespace Go.Proofs.Ytocophekfbhfbaa
open Go.RowKit
set_option linter.unusedVariables false
set_option linter.unusedSimpArgs false

theorem lit_at (W : World) (n : Nat) (zs : List Int) (m : Nat) (h : zs.length = m) (e : TypeId) (hn : W.heap.size = n) (hm : m ≤ maxLen) : Rd .i64 (W.alloc (.cells (zs.map (Value.int .i64)).toArray e)) (some ⟨n, 0, none⟩) m zs := by
  subst hn; exact lit_rd W zs m h hm

end Go.Proofs.Ytocophekfbhfbaa