/-
  Contracts of the helpers over a BytesResult.
-/
import Derived.Test.YtjgmkcmlkffjlaaHlp1
namespace Go.Proofs.Ytjgmkcmlkffjlaa
open Go.RowKit

end Go.Proofs.Ytjgmkcmlkffjlaa