/-
  Contracts of the functions that write a character: the specification's and the program's.
-/
import Derived.Test.YtoggkcgldckekaaRows
import Derived.Test.YtoggkcgldckekaaBase
import Derived.Test.YtoggkcgldckekaaMath1
import Derived.Test.YtoggkcgldckekaaHlp1
namespace Go.Proofs.Ytoggkcgldckekaa
open Go.RowKit

theorem info8c : (Try.prog.info? 5).map (fun i => (i.zero, i.size, i.bytes)) = some (some (.int .u8 0), 1, 1) := by kernel_rfl

end Go.Proofs.Ytoggkcgldckekaa