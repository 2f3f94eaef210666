/-
  Contracts of EncodeChar: the specification's and the program's; of the helpers over its result.
-/
import Derived.Test.YtoggkcgldckekaaHlpCA
namespace Go.Proofs.Ytoggkcgldckekaa
open Go.RowKit

end Go.Proofs.Ytoggkcgldckekaa