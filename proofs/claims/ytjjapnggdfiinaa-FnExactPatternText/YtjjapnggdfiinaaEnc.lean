/-
  Contracts of EncodeChar: the specification's and the program's; of the helpers over its result.
-/
import Derived.Test.YtjjapnggdfiinaaChars
namespace Go.Proofs.Ytjjapnggdfiinaa
open Go.RowKit

end Go.Proofs.Ytjjapnggdfiinaa