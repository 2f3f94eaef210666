/-
  Contracts of the helpers over a BytesResult.
-/
import Derived.Test.YtogmgpnkaanjeaaHlp1
namespace Go.Proofs.Ytogmgpnkaanjeaa
open Go.RowKit

end Go.Proofs.Ytogmgpnkaanjeaa