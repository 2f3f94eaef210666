/-
  Contracts of what is seen at a place: the specification's.
-/
import Derived.Test.YtocophekfbhfbaaDec1
import Derived.Test.YtocophekfbhfbaaMathD
namespace Go.Proofs.Ytocophekfbhfbaa
open Go.RowKit
set_option linter.unusedVariables false

theorem info64 : (Try.prog.info? 2).map (fun i => (i.zero, i.size, i.bytes)) = some (some (.int .i64 0), 1, 8) := by kernel_rfl

theorem wrap64_u8 (u : UInt8) : wrap64 (u.toNat : Int) = u.toNat := by
  have := u.toNat_lt
  unfold wrap64
  omega

end Go.Proofs.Ytocophekfbhfbaa