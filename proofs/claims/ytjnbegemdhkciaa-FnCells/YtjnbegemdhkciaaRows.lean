/-
  No cell of these rows narrows 'for every input' (looked for: loops, veiled, ifaces, maps, wideKeys, modest, calm, conditions, laid).
  DERIVED. THE GIVEN ROWS OF THIS SEAT. 8 by the template 'for every input the law returns true; each argument reads behind the call as it read before'; 0 by the template 'total and deterministic' (their statements: YtjnbegemdhkciaaTotals.lean).
  GIVEN WITH THE SEED: the statements are not yours to turn. If you find one false, say at which input.
  Laid BY PROGRAM, IN A SANDBOX (cutbox-rows.mjs): the forced cells as the released guide's own fill.sh prints them over the translation 6c8d1f6a84ea795d… (all of the seat's roots in one cut). By AI agents, Wed Nov 11 2026. No macro, syntax, notation, axiom, sorry.
-/
import Derived.Test.YtjnbegemdhkciaaChecked
import GoSem.Claim
import GoSem.ClaimJoined
import GoSem.ClaimMapViews
import Derived.JoinedTies
import Derived.KernelRfl
namespace Go.Proofs.Ytjnbegemdhkciaa
/- THE CELL 'sum', in the pinned program and in every row, IS THE sha256 OF THE DUMP (.gsa) THAT YtjnbegemdhkciaaProg.lean LOADS. Nothing in Lean hashes anything: it is a label: what it is worth is what the hold of that sum in a sandbox is worth. -/
noncomputable def Try.pinned : Pinned := { name := "ytjnbegemdhkciaa", sum := "6c8d1f6a84ea795d0ed0c9a3e309f14e0021f125b063d851f02acfde3b688dc3", checked := Try.checked }
namespace Rows
def none {H : Type} : Left H := { results := [], args := [] }

/-- 'laws.FnChars': WHATEVER THE INPUT: true; the input reads as it did. -/
def fnCharsSpec : ChangeSpec := { name := "fnChars", fn := fun _ => fun
  | [d] => { results := [.lit (.bool true)], args := [d] }
  | _ => none }
def fnCharsRow : OpenClaim := { program := "ytjnbegemdhkciaa", sum := "6c8d1f6a84ea795d0ed0c9a3e309f14e0021f125b063d851f02acfde3b688dc3", func := "loop.example/g00414/laws.FnChars", spec := "fnChars", unfollowed := true, recurses := true, apart := false }
def FnCharsSaid : Prop := fnCharsRow.holds Try.pinned (OpenSpec.ofChange fnCharsSpec)

/-- ITS FALSE NEIGHBOUR: 'it returns false'. Refute it at one input. -/
def fnCharsWrong : ChangeSpec := { name := "fnChars", fn := fun _ => fun
  | [d] => { results := [.lit (.bool false)], args := [d] }
  | _ => none }
def FnCharsWrongFalsely : Prop := fnCharsRow.holds Try.pinned (OpenSpec.ofChange fnCharsWrong)

/-- 'laws.FnCells': WHATEVER THE INPUT: true; the input reads as it did. -/
def fnCellsSpec : ChangeSpec := { name := "fnCells", fn := fun _ => fun
  | [d] => { results := [.lit (.bool true)], args := [d] }
  | _ => none }
def fnCellsRow : OpenClaim := { program := "ytjnbegemdhkciaa", sum := "6c8d1f6a84ea795d0ed0c9a3e309f14e0021f125b063d851f02acfde3b688dc3", func := "loop.example/g00414/laws.FnCells", spec := "fnCells", unfollowed := true, recurses := true, apart := false }
def FnCellsSaid : Prop := fnCellsRow.holds Try.pinned (OpenSpec.ofChange fnCellsSpec)

/-- ITS FALSE NEIGHBOUR: 'it returns false'. Refute it at one input. -/
def fnCellsWrong : ChangeSpec := { name := "fnCells", fn := fun _ => fun
  | [d] => { results := [.lit (.bool false)], args := [d] }
  | _ => none }
def FnCellsWrongFalsely : Prop := fnCellsRow.holds Try.pinned (OpenSpec.ofChange fnCellsWrong)

/-- 'laws.FnExactDecodeAt': WHATEVER THE INPUT: true; the input reads as it did. -/
def fnExactDecodeAtSpec : ChangeSpec := { name := "fnExactDecodeAt", fn := fun _ => fun
  | [d1, d2] => { results := [.lit (.bool true)], args := [d1, d2] }
  | _ => none }
def fnExactDecodeAtRow : OpenClaim := { program := "ytjnbegemdhkciaa", sum := "6c8d1f6a84ea795d0ed0c9a3e309f14e0021f125b063d851f02acfde3b688dc3", func := "loop.example/g00414/laws.FnExactDecodeAt", spec := "fnExactDecodeAt", unfollowed := true, recurses := true, apart := false }
def FnExactDecodeAtSaid : Prop := fnExactDecodeAtRow.holds Try.pinned (OpenSpec.ofChange fnExactDecodeAtSpec)

/-- ITS FALSE NEIGHBOUR: 'it returns false'. Refute it at one input. -/
def fnExactDecodeAtWrong : ChangeSpec := { name := "fnExactDecodeAt", fn := fun _ => fun
  | [d1, d2] => { results := [.lit (.bool false)], args := [d1, d2] }
  | _ => none }
def FnExactDecodeAtWrongFalsely : Prop := fnExactDecodeAtRow.holds Try.pinned (OpenSpec.ofChange fnExactDecodeAtWrong)

/-- 'laws.FnExactEncodeChar': WHATEVER THE INPUT: true; the input reads as it did. -/
def fnExactEncodeCharSpec : ChangeSpec := { name := "fnExactEncodeChar", fn := fun _ => fun
  | [d] => { results := [.lit (.bool true)], args := [d] }
  | _ => none }
def fnExactEncodeCharRow : OpenClaim := { program := "ytjnbegemdhkciaa", sum := "6c8d1f6a84ea795d0ed0c9a3e309f14e0021f125b063d851f02acfde3b688dc3", func := "loop.example/g00414/laws.FnExactEncodeChar", spec := "fnExactEncodeChar", apart := false }
def FnExactEncodeCharSaid : Prop := fnExactEncodeCharRow.holds Try.pinned (OpenSpec.ofChange fnExactEncodeCharSpec)

/-- ITS FALSE NEIGHBOUR: 'it returns false'. Refute it at one input. -/
def fnExactEncodeCharWrong : ChangeSpec := { name := "fnExactEncodeChar", fn := fun _ => fun
  | [d] => { results := [.lit (.bool false)], args := [d] }
  | _ => none }
def FnExactEncodeCharWrongFalsely : Prop := fnExactEncodeCharRow.holds Try.pinned (OpenSpec.ofChange fnExactEncodeCharWrong)

/-- 'laws.FnExactCellsOf': WHATEVER THE INPUT: true; the input reads as it did. -/
def fnExactCellsOfSpec : ChangeSpec := { name := "fnExactCellsOf", fn := fun _ => fun
  | [d] => { results := [.lit (.bool true)], args := [d] }
  | _ => none }
def fnExactCellsOfRow : OpenClaim := { program := "ytjnbegemdhkciaa", sum := "6c8d1f6a84ea795d0ed0c9a3e309f14e0021f125b063d851f02acfde3b688dc3", func := "loop.example/g00414/laws.FnExactCellsOf", spec := "fnExactCellsOf", unfollowed := true, recurses := true, apart := false }
def FnExactCellsOfSaid : Prop := fnExactCellsOfRow.holds Try.pinned (OpenSpec.ofChange fnExactCellsOfSpec)

/-- ITS FALSE NEIGHBOUR: 'it returns false'. Refute it at one input. -/
def fnExactCellsOfWrong : ChangeSpec := { name := "fnExactCellsOf", fn := fun _ => fun
  | [d] => { results := [.lit (.bool false)], args := [d] }
  | _ => none }
def FnExactCellsOfWrongFalsely : Prop := fnExactCellsOfRow.holds Try.pinned (OpenSpec.ofChange fnExactCellsOfWrong)

/-- 'laws.FnExactWidthOf': WHATEVER THE INPUT: true; the input reads as it did. -/
def fnExactWidthOfSpec : ChangeSpec := { name := "fnExactWidthOf", fn := fun _ => fun
  | [d] => { results := [.lit (.bool true)], args := [d] }
  | _ => none }
def fnExactWidthOfRow : OpenClaim := { program := "ytjnbegemdhkciaa", sum := "6c8d1f6a84ea795d0ed0c9a3e309f14e0021f125b063d851f02acfde3b688dc3", func := "loop.example/g00414/laws.FnExactWidthOf", spec := "fnExactWidthOf", unfollowed := true, recurses := true, apart := false }
def FnExactWidthOfSaid : Prop := fnExactWidthOfRow.holds Try.pinned (OpenSpec.ofChange fnExactWidthOfSpec)

/-- ITS FALSE NEIGHBOUR: 'it returns false'. Refute it at one input. -/
def fnExactWidthOfWrong : ChangeSpec := { name := "fnExactWidthOf", fn := fun _ => fun
  | [d] => { results := [.lit (.bool false)], args := [d] }
  | _ => none }
def FnExactWidthOfWrongFalsely : Prop := fnExactWidthOfRow.holds Try.pinned (OpenSpec.ofChange fnExactWidthOfWrong)

/-- 'laws.FnExactCellsText': WHATEVER THE INPUT: true; the input reads as it did. -/
def fnExactCellsTextSpec : ChangeSpec := { name := "fnExactCellsText", fn := fun _ => fun
  | [d] => { results := [.lit (.bool true)], args := [d] }
  | _ => none }
def fnExactCellsTextRow : OpenClaim := { program := "ytjnbegemdhkciaa", sum := "6c8d1f6a84ea795d0ed0c9a3e309f14e0021f125b063d851f02acfde3b688dc3", func := "loop.example/g00414/laws.FnExactCellsText", spec := "fnExactCellsText", apart := false }
def FnExactCellsTextSaid : Prop := fnExactCellsTextRow.holds Try.pinned (OpenSpec.ofChange fnExactCellsTextSpec)

/-- ITS FALSE NEIGHBOUR: 'it returns false'. Refute it at one input. -/
def fnExactCellsTextWrong : ChangeSpec := { name := "fnExactCellsText", fn := fun _ => fun
  | [d] => { results := [.lit (.bool false)], args := [d] }
  | _ => none }
def FnExactCellsTextWrongFalsely : Prop := fnExactCellsTextRow.holds Try.pinned (OpenSpec.ofChange fnExactCellsTextWrong)

/-- 'laws.FnExactCellsFault': WHATEVER THE INPUT: true; the input reads as it did. -/
def fnExactCellsFaultSpec : ChangeSpec := { name := "fnExactCellsFault", fn := fun _ => fun
  | [d] => { results := [.lit (.bool true)], args := [d] }
  | _ => none }
def fnExactCellsFaultRow : OpenClaim := { program := "ytjnbegemdhkciaa", sum := "6c8d1f6a84ea795d0ed0c9a3e309f14e0021f125b063d851f02acfde3b688dc3", func := "loop.example/g00414/laws.FnExactCellsFault", spec := "fnExactCellsFault", apart := false }
def FnExactCellsFaultSaid : Prop := fnExactCellsFaultRow.holds Try.pinned (OpenSpec.ofChange fnExactCellsFaultSpec)

/-- ITS FALSE NEIGHBOUR: 'it returns false'. Refute it at one input. -/
def fnExactCellsFaultWrong : ChangeSpec := { name := "fnExactCellsFault", fn := fun _ => fun
  | [d] => { results := [.lit (.bool false)], args := [d] }
  | _ => none }
def FnExactCellsFaultWrongFalsely : Prop := fnExactCellsFaultRow.holds Try.pinned (OpenSpec.ofChange fnExactCellsFaultWrong)

/- THE SECOND FORM. 'bulk': how many values and letters a reading holds, each counted each time it is reached (what is shared counts as often as it is met; a slice's spare places count too). A statement '..UptoSaid' is the law's where the arguments, and the package variables that the reading takes, are together of bulk at most 1048576: NARROWER than '..Said'. Prove '..Said' where nothing that the law and all that it calls make is longer than what came in: it says more and counts as full. Else prove '..UptoSaid'. A law counts once. -/
mutual
def uptoBulk {H : Type} : DataW H → Nat
  | .lit (.string bytes) => bytes.length + 1
  | .lit _ => 1
  | .nil => 1
  | .ptr d => uptoBulk d + 1
  | .slice elems spare => uptoBulkAll elems + uptoBulkAll spare + 1
  | .agg parts => uptoBulkAll parts + 1
  | .iface _ d => uptoBulk d + 1
  | .map entries => uptoBulkEntries entries + 1
  | .held _ => 1
def uptoBulkAll {H : Type} : List (DataW H) → Nat
  | [] => 0
  | d :: r => uptoBulk d + uptoBulkAll r
def uptoBulkEntries {H : Type} : List (Lit × DataW H) → Nat
  | [] => 0
  | x :: r => uptoBulkEntry x + uptoBulkEntries r
def uptoBulkEntry {H : Type} : Lit × DataW H → Nat
  | (.string bytes, d) => bytes.length + uptoBulk d + 1
  | (_, d) => uptoBulk d + 1
 end
def uptoSmall : (H : Type) → List (DataW H) → Bool := fun _ ds => decide (uptoBulkAll ds ≤ 1048576)
def OpenSpec.upto (s : _root_.Go.ChangeSpec) : _root_.Go.OpenSpec := { _root_.Go.OpenSpec.ofChange s with cond := some uptoSmall }

/-- 'laws.FnChars', WHERE WHAT IT READS IS OF BULK AT MOST 1048576: true; the input reads as it did. -/
def fnCharsUptoRow : OpenClaim := { program := "ytjnbegemdhkciaa", sum := "6c8d1f6a84ea795d0ed0c9a3e309f14e0021f125b063d851f02acfde3b688dc3", func := "loop.example/g00414/laws.FnChars", spec := "fnChars", unfollowed := true, recurses := true, apart := false, narrowed := true }
def FnCharsUptoSaid : Prop := fnCharsUptoRow.holds Try.pinned (OpenSpec.upto fnCharsSpec)

/-- 'laws.FnCells', WHERE WHAT IT READS IS OF BULK AT MOST 1048576: true; the input reads as it did. -/
def fnCellsUptoRow : OpenClaim := { program := "ytjnbegemdhkciaa", sum := "6c8d1f6a84ea795d0ed0c9a3e309f14e0021f125b063d851f02acfde3b688dc3", func := "loop.example/g00414/laws.FnCells", spec := "fnCells", unfollowed := true, recurses := true, apart := false, narrowed := true }
def FnCellsUptoSaid : Prop := fnCellsUptoRow.holds Try.pinned (OpenSpec.upto fnCellsSpec)

/-- 'laws.FnExactDecodeAt', WHERE WHAT IT READS IS OF BULK AT MOST 1048576: true; the input reads as it did. -/
def fnExactDecodeAtUptoRow : OpenClaim := { program := "ytjnbegemdhkciaa", sum := "6c8d1f6a84ea795d0ed0c9a3e309f14e0021f125b063d851f02acfde3b688dc3", func := "loop.example/g00414/laws.FnExactDecodeAt", spec := "fnExactDecodeAt", unfollowed := true, recurses := true, apart := false, narrowed := true }
def FnExactDecodeAtUptoSaid : Prop := fnExactDecodeAtUptoRow.holds Try.pinned (OpenSpec.upto fnExactDecodeAtSpec)

/-- 'laws.FnExactEncodeChar', WHERE WHAT IT READS IS OF BULK AT MOST 1048576: true; the input reads as it did. -/
def fnExactEncodeCharUptoRow : OpenClaim := { program := "ytjnbegemdhkciaa", sum := "6c8d1f6a84ea795d0ed0c9a3e309f14e0021f125b063d851f02acfde3b688dc3", func := "loop.example/g00414/laws.FnExactEncodeChar", spec := "fnExactEncodeChar", apart := false, narrowed := true }
def FnExactEncodeCharUptoSaid : Prop := fnExactEncodeCharUptoRow.holds Try.pinned (OpenSpec.upto fnExactEncodeCharSpec)

/-- 'laws.FnExactCellsOf', WHERE WHAT IT READS IS OF BULK AT MOST 1048576: true; the input reads as it did. -/
def fnExactCellsOfUptoRow : OpenClaim := { program := "ytjnbegemdhkciaa", sum := "6c8d1f6a84ea795d0ed0c9a3e309f14e0021f125b063d851f02acfde3b688dc3", func := "loop.example/g00414/laws.FnExactCellsOf", spec := "fnExactCellsOf", unfollowed := true, recurses := true, apart := false, narrowed := true }
def FnExactCellsOfUptoSaid : Prop := fnExactCellsOfUptoRow.holds Try.pinned (OpenSpec.upto fnExactCellsOfSpec)

/-- 'laws.FnExactWidthOf', WHERE WHAT IT READS IS OF BULK AT MOST 1048576: true; the input reads as it did. -/
def fnExactWidthOfUptoRow : OpenClaim := { program := "ytjnbegemdhkciaa", sum := "6c8d1f6a84ea795d0ed0c9a3e309f14e0021f125b063d851f02acfde3b688dc3", func := "loop.example/g00414/laws.FnExactWidthOf", spec := "fnExactWidthOf", unfollowed := true, recurses := true, apart := false, narrowed := true }
def FnExactWidthOfUptoSaid : Prop := fnExactWidthOfUptoRow.holds Try.pinned (OpenSpec.upto fnExactWidthOfSpec)

/-- 'laws.FnExactCellsText', WHERE WHAT IT READS IS OF BULK AT MOST 1048576: true; the input reads as it did. -/
def fnExactCellsTextUptoRow : OpenClaim := { program := "ytjnbegemdhkciaa", sum := "6c8d1f6a84ea795d0ed0c9a3e309f14e0021f125b063d851f02acfde3b688dc3", func := "loop.example/g00414/laws.FnExactCellsText", spec := "fnExactCellsText", apart := false, narrowed := true }
def FnExactCellsTextUptoSaid : Prop := fnExactCellsTextUptoRow.holds Try.pinned (OpenSpec.upto fnExactCellsTextSpec)

/-- 'laws.FnExactCellsFault', WHERE WHAT IT READS IS OF BULK AT MOST 1048576: true; the input reads as it did. -/
def fnExactCellsFaultUptoRow : OpenClaim := { program := "ytjnbegemdhkciaa", sum := "6c8d1f6a84ea795d0ed0c9a3e309f14e0021f125b063d851f02acfde3b688dc3", func := "loop.example/g00414/laws.FnExactCellsFault", spec := "fnExactCellsFault", apart := false, narrowed := true }
def FnExactCellsFaultUptoSaid : Prop := fnExactCellsFaultUptoRow.holds Try.pinned (OpenSpec.upto fnExactCellsFaultSpec)

end Rows
end Go.Proofs.Ytjnbegemdhkciaa
