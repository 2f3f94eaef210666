/-
  Contracts of the exact laws' helpers over files: copies, sizes, comparisons, marks.
-/
import Derived.Test.YtoggkcgldckekaaHlp1
import Derived.Test.YtoggkcgldckekaaHlp2
import Derived.Test.YtoggkcgldckekaaChg
namespace Go.Proofs.Ytoggkcgldckekaa
open Go.RowKit
set_option linter.unusedVariables false

theorem chg_alloc {lo hi : Nat} {w w' : World} {o : Obj} (h : Chg lo hi (w.alloc o) w') : Chg lo hi w w' :=
  (Chg.of_below ((Below.refl _ _).alloc (Nat.le_refl _) o)).trans h

end Go.Proofs.Ytoggkcgldckekaa