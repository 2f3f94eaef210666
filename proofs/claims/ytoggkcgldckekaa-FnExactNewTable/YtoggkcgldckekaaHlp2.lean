/-
  Contracts of the helpers over a BytesResult.
-/
import Derived.Test.YtoggkcgldckekaaHlp1
namespace Go.Proofs.Ytoggkcgldckekaa
open Go.RowKit

end Go.Proofs.Ytoggkcgldckekaa