/-
  Contracts of the exact laws' helpers over files: copies, sizes, comparisons, marks.
-/
import Derived.Test.YtjkipdamohljpaaHlp1
import Derived.Test.YtjkipdamohljpaaHlp2
import Derived.Test.YtjkipdamohljpaaChg
namespace Go.Proofs.Ytjkipdamohljpaa
open Go.RowKit
set_option linter.unusedVariables false

theorem eqByteS_yes (a b : Option Addr) (n ca cb : Nat) (xs : List Int) (w : World) (ha : Rd .u8 w a n xs) (hb : Rd .u8 w b n xs) (h1 : n ≤ maxLen) :
    Calls Try.prog 45 #[.slice a n ca, .slice b n cb] w fun e w' => e = .returned (.bool true) ∧ Below w.heap.size w w' :=
  (eqByteS_any a b n n ca cb xs xs w ha hb h1 h1).mono fun e w' ⟨he, q, hw⟩ => ⟨by rw [he]; simp, by rw [hw]; exact below_drewN (Below.refl _ _) q⟩

theorem toByteS_row (a : Option Addr) (n ca : Nat) (xs : List Int) (w : World) (ha : Rd .u8 w a n xs) (h1 : n ≤ 1073741824) :
    Calls Try.prog 42 #[.slice a n ca] w fun e w' => ∃ v, e = .returned v ∧ RowI .u8 5 w' w.heap.size w'.heap.size v n xs ∧ Below w.heap.size w w' :=
  (toByteS_any a n ca xs w ha h1).mono fun e w' ⟨v, he, ho, hb⟩ => ⟨v, he, RowI.of ho, hb⟩

theorem chg_alloc {lo hi : Nat} {w w' : World} {o : Obj} (h : Chg lo hi (w.alloc o) w') : Chg lo hi w w' :=
  (Chg.of_below ((Below.refl _ _).alloc (Nat.le_refl _) o)).trans h

end Go.Proofs.Ytjkipdamohljpaa