/-
  Contracts of the helpers over a BytesResult.
-/
import Derived.Test.YtckkkhabjfbngaaHlp1
namespace Go.Proofs.Ytckkkhabjfbngaa
open Go.RowKit

end Go.Proofs.Ytckkkhabjfbngaa