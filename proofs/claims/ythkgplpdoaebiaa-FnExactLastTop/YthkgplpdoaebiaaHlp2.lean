/-
  Contracts of the helpers over a BytesResult.
-/
import Derived.Test.YthkgplpdoaebiaaHlp1
namespace Go.Proofs.Ythkgplpdoaebiaa
open Go.RowKit

end Go.Proofs.Ythkgplpdoaebiaa