/-
  Contracts of EncodeChar: the specification's and the program's; of the helpers over its result.
-/
import Derived.Test.YtocophekfbhfbaaHlpCA
namespace Go.Proofs.Ytocophekfbhfbaa
open Go.RowKit

end Go.Proofs.Ytocophekfbhfbaa