/-
  Contracts of the helpers over a BytesResult.
-/
import Derived.Test.YthdglflipeggpaaHlp1
namespace Go.Proofs.Ythdglflipeggpaa
open Go.RowKit

end Go.Proofs.Ythdglflipeggpaa