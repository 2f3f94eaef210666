/-
  Contracts of EncodeChar: the specification's and the program's; of the helpers over its result.
-/
import Derived.Test.YtjkipdamohljpaaChars
namespace Go.Proofs.Ytjkipdamohljpaa
open Go.RowKit

end Go.Proofs.Ytjkipdamohljpaa