/-
  Contracts of the helpers over a BytesResult.
-/
import Derived.Test.YtjkipdamohljpaaHlp1
namespace Go.Proofs.Ytjkipdamohljpaa
open Go.RowKit

end Go.Proofs.Ytjkipdamohljpaa