/-
  Contracts of the helpers over a BytesResult.
-/
import Derived.Test.YtppielcpidcmaaaHlp1
namespace Go.Proofs.Ytppielcpidcmaaa
open Go.RowKit

end Go.Proofs.Ytppielcpidcmaaa