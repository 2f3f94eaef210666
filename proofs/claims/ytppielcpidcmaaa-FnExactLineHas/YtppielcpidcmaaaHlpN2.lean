/-
  Chapter 7: helpers of the exact laws over instructions, as rows between blocks.
-/
import Derived.Test.YtppielcpidcmaaaHlpN
namespace Go.Proofs.Ytppielcpidcmaaa
open Go.RowKit
set_option linter.unusedVariables false

theorem toInstS_row (a : Option Addr) (n ca : Nat) (cs : List In) (w : World) (ha : RdR inE 8 w a n cs) (h1 : n ≤ 1073741824) :
    Calls Try.prog 28 #[.slice a n ca] w fun e w' => ∃ v, e = .returned v ∧ RowS inE 8 107 w' w.heap.size w'.heap.size v n cs ∧ Below w.heap.size w w' :=
  (toInstS_any a n ca cs w ha h1).mono fun e w' ⟨v, he, ho, hb⟩ => ⟨v, he, RowS.of ho, hb⟩
end Go.Proofs.Ytppielcpidcmaaa
