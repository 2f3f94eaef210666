/-
  Contracts of EncodeChar: the specification's and the program's; of the helpers over its result.
-/
import Derived.Test.YtppielcpidcmaaaHlpCA
namespace Go.Proofs.Ytppielcpidcmaaa
open Go.RowKit

end Go.Proofs.Ytppielcpidcmaaa