/-
  Contracts of the helpers over a BytesResult.
-/
import Derived.Test.YteconnoildpdpaaHlp1
namespace Go.Proofs.Yteconnoildpdpaa
open Go.RowKit

end Go.Proofs.Yteconnoildpdpaa