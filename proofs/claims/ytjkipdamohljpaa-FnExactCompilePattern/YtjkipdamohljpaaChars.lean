/-
  Contracts of the functions that write a character: the specification's and the program's.
-/
import Derived.Test.YtjkipdamohljpaaRows
import Derived.Test.YtjkipdamohljpaaBase
import Derived.Test.YtjkipdamohljpaaMath1
import Derived.Test.YtjkipdamohljpaaHlp1
namespace Go.Proofs.Ytjkipdamohljpaa
open Go.RowKit

theorem info8c : (Try.prog.info? 5).map (fun i => (i.zero, i.size, i.bytes)) = some (some (.int .u8 0), 1, 1) := by kernel_rfl

end Go.Proofs.Ytjkipdamohljpaa