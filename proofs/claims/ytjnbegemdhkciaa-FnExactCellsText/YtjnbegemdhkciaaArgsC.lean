/-
  Arguments opened into the words of Rows2: a slice of the laws' own cells.
-/
import Derived.Test.YtjnbegemdhkciaaRows
import Derived.Test.YtjnbegemdhkciaaMathC
import Derived.Test.YtjnbegemdhkciaaArgsR
namespace Go.Proofs.Ytjnbegemdhkciaa
open Go.ChangeShapes Go.WideShapes Go.ChangeAt Go.RowKit
set_option linter.unusedVariables false

/-- A slice of the laws' own cells, opened. -/
theorem open_cells {H : Type} {enc : TypeId × Value → H} {W : World} {a : Option Addr} {len cap : Nat} {d : DataW H} {p : List MemPlace} {base : Nat} {sp : Nat → Bool} {hd : Bool}
    (h : DataW.Trod enc Try.prog W base sp hd 58 (.slice a len cap) d p) : ∃ cs : List C3, RdR cellE 3 W a len cs ∧ len ≤ cap ∧ cap ≤ maxLen := by
  obtain ⟨cs, h1, _, h2⟩ := open_rows cellE 3 (fun _ => True) Try.underlying58 (by kernel_rfl) cellE_len (by omega) (fun n cs x hx => by
    obtain ⟨a, b, c, rfl⟩ := open_three (t := 2) Try.underlying85 Try.underlying2 (by kernel_rfl) (by kernel_rfl) rfl rfl rfl rfl rfl rfl hx
    exact ⟨(a, b, c), rfl, trivial⟩) h
  exact ⟨cs, h1, h2⟩
end Go.Proofs.Ytjnbegemdhkciaa
