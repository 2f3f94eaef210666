/-
  No cell of these rows narrows 'for every input' (looked for: loops, veiled, ifaces, maps, wideKeys, modest, calm, conditions, laid).
  DERIVED. THE GIVEN ROWS OF THIS SEAT. 7 by the template 'for every input the law returns true; each argument reads behind the call as it read before'; 0 by the template 'total and deterministic' (their statements: YtjkipdamohljpaaTotals.lean).
  GIVEN WITH THE SEED: the statements are not yours to turn. If you find one false, say at which input.
  Laid BY PROGRAM, IN A SANDBOX (cutbox-rows.mjs): the forced cells as the released guide's own fill.sh prints them over the translation a707934c64de19de… (all of the seat's roots in one cut). By AI agents, Wed Nov 11 2026. No macro, syntax, notation, axiom, sorry.
-/
import Derived.Test.YtjkipdamohljpaaChecked
import GoSem.Claim
import GoSem.ClaimJoined
import GoSem.ClaimMapViews
import Derived.JoinedTies
import Derived.KernelRfl
namespace Go.Proofs.Ytjkipdamohljpaa
/- THE CELL 'sum', in the pinned program and in every row, IS THE sha256 OF THE DUMP (.gsa) THAT YtjkipdamohljpaaProg.lean LOADS. Nothing in Lean hashes anything: it is a label: what it is worth is what the hold of that sum in a sandbox is worth. -/
noncomputable def Try.pinned : Pinned := { name := "ytjkipdamohljpaa", sum := "a707934c64de19ded618cdb81150bcc7605eff3671f49db61fbed95b70a7b4e8", checked := Try.checked }
namespace Rows
def none {H : Type} : Left H := { results := [], args := [] }

/-- 'laws.FnCloses': WHATEVER THE INPUT: true; the input reads as it did. -/
def fnClosesSpec : ChangeSpec := { name := "fnCloses", fn := fun _ => fun
  | [d] => { results := [.lit (.bool true)], args := [d] }
  | _ => none }
def fnClosesRow : OpenClaim := { program := "ytjkipdamohljpaa", sum := "a707934c64de19ded618cdb81150bcc7605eff3671f49db61fbed95b70a7b4e8", func := "loop.example/g00414/laws.FnCloses", spec := "fnCloses", inPlace := ["internal/bytealg.IndexByteString"], recurses := true, apart := false }
def FnClosesSaid : Prop := fnClosesRow.holds Try.pinned (OpenSpec.ofChange fnClosesSpec)

/-- ITS FALSE NEIGHBOUR: 'it returns false'. Refute it at one input. -/
def fnClosesWrong : ChangeSpec := { name := "fnCloses", fn := fun _ => fun
  | [d] => { results := [.lit (.bool false)], args := [d] }
  | _ => none }
def FnClosesWrongFalsely : Prop := fnClosesRow.holds Try.pinned (OpenSpec.ofChange fnClosesWrong)

/-- 'laws.FnExactProgFault': WHATEVER THE INPUT: true; the input reads as it did. -/
def fnExactProgFaultSpec : ChangeSpec := { name := "fnExactProgFault", fn := fun _ => fun
  | [d] => { results := [.lit (.bool true)], args := [d] }
  | _ => none }
def fnExactProgFaultRow : OpenClaim := { program := "ytjkipdamohljpaa", sum := "a707934c64de19ded618cdb81150bcc7605eff3671f49db61fbed95b70a7b4e8", func := "loop.example/g00414/laws.FnExactProgFault", spec := "fnExactProgFault", apart := false }
def FnExactProgFaultSaid : Prop := fnExactProgFaultRow.holds Try.pinned (OpenSpec.ofChange fnExactProgFaultSpec)

/-- ITS FALSE NEIGHBOUR: 'it returns false'. Refute it at one input. -/
def fnExactProgFaultWrong : ChangeSpec := { name := "fnExactProgFault", fn := fun _ => fun
  | [d] => { results := [.lit (.bool false)], args := [d] }
  | _ => none }
def FnExactProgFaultWrongFalsely : Prop := fnExactProgFaultRow.holds Try.pinned (OpenSpec.ofChange fnExactProgFaultWrong)

/-- 'laws.FnExactCompilePattern': WHATEVER THE INPUT: true; the input reads as it did. -/
def fnExactCompilePatternSpec : ChangeSpec := { name := "fnExactCompilePattern", fn := fun _ => fun
  | [d] => { results := [.lit (.bool true)], args := [d] }
  | _ => none }
def fnExactCompilePatternRow : OpenClaim := { program := "ytjkipdamohljpaa", sum := "a707934c64de19ded618cdb81150bcc7605eff3671f49db61fbed95b70a7b4e8", func := "loop.example/g00414/laws.FnExactCompilePattern", spec := "fnExactCompilePattern", recurses := true, apart := false }
def FnExactCompilePatternSaid : Prop := fnExactCompilePatternRow.holds Try.pinned (OpenSpec.ofChange fnExactCompilePatternSpec)

/-- ITS FALSE NEIGHBOUR: 'it returns false'. Refute it at one input. -/
def fnExactCompilePatternWrong : ChangeSpec := { name := "fnExactCompilePattern", fn := fun _ => fun
  | [d] => { results := [.lit (.bool false)], args := [d] }
  | _ => none }
def FnExactCompilePatternWrongFalsely : Prop := fnExactCompilePatternRow.holds Try.pinned (OpenSpec.ofChange fnExactCompilePatternWrong)

/-- 'laws.FnExactCloseSet': WHATEVER THE INPUT: true; the input reads as it did. -/
def fnExactCloseSetSpec : ChangeSpec := { name := "fnExactCloseSet", fn := fun _ => fun
  | [d1, d2, d3, d4] => { results := [.lit (.bool true)], args := [d1, d2, d3, d4] }
  | _ => none }
def fnExactCloseSetRow : OpenClaim := { program := "ytjkipdamohljpaa", sum := "a707934c64de19ded618cdb81150bcc7605eff3671f49db61fbed95b70a7b4e8", func := "loop.example/g00414/laws.FnExactCloseSet", spec := "fnExactCloseSet", recurses := true, apart := false }
def FnExactCloseSetSaid : Prop := fnExactCloseSetRow.holds Try.pinned (OpenSpec.ofChange fnExactCloseSetSpec)

/-- ITS FALSE NEIGHBOUR: 'it returns false'. Refute it at one input. -/
def fnExactCloseSetWrong : ChangeSpec := { name := "fnExactCloseSet", fn := fun _ => fun
  | [d1, d2, d3, d4] => { results := [.lit (.bool false)], args := [d1, d2, d3, d4] }
  | _ => none }
def FnExactCloseSetWrongFalsely : Prop := fnExactCloseSetRow.holds Try.pinned (OpenSpec.ofChange fnExactCloseSetWrong)

/-- 'laws.FnExactStepSet': WHATEVER THE INPUT: true; the input reads as it did. -/
def fnExactStepSetSpec : ChangeSpec := { name := "fnExactStepSet", fn := fun _ => fun
  | [d1, d2, d3] => { results := [.lit (.bool true)], args := [d1, d2, d3] }
  | _ => none }
def fnExactStepSetRow : OpenClaim := { program := "ytjkipdamohljpaa", sum := "a707934c64de19ded618cdb81150bcc7605eff3671f49db61fbed95b70a7b4e8", func := "loop.example/g00414/laws.FnExactStepSet", spec := "fnExactStepSet", inPlace := ["internal/bytealg.IndexByteString"], apart := false }
def FnExactStepSetSaid : Prop := fnExactStepSetRow.holds Try.pinned (OpenSpec.ofChange fnExactStepSetSpec)

/-- ITS FALSE NEIGHBOUR: 'it returns false'. Refute it at one input. -/
def fnExactStepSetWrong : ChangeSpec := { name := "fnExactStepSet", fn := fun _ => fun
  | [d1, d2, d3] => { results := [.lit (.bool false)], args := [d1, d2, d3] }
  | _ => none }
def FnExactStepSetWrongFalsely : Prop := fnExactStepSetRow.holds Try.pinned (OpenSpec.ofChange fnExactStepSetWrong)

/-- 'laws.FnExactRunProg': WHATEVER THE INPUT: true; the input reads as it did. -/
def fnExactRunProgSpec : ChangeSpec := { name := "fnExactRunProg", fn := fun _ => fun
  | [d1, d2, d3] => { results := [.lit (.bool true)], args := [d1, d2, d3] }
  | _ => none }
def fnExactRunProgRow : OpenClaim := { program := "ytjkipdamohljpaa", sum := "a707934c64de19ded618cdb81150bcc7605eff3671f49db61fbed95b70a7b4e8", func := "loop.example/g00414/laws.FnExactRunProg", spec := "fnExactRunProg", inPlace := ["internal/bytealg.IndexByteString"], recurses := true, apart := false }
def FnExactRunProgSaid : Prop := fnExactRunProgRow.holds Try.pinned (OpenSpec.ofChange fnExactRunProgSpec)

/-- ITS FALSE NEIGHBOUR: 'it returns false'. Refute it at one input. -/
def fnExactRunProgWrong : ChangeSpec := { name := "fnExactRunProg", fn := fun _ => fun
  | [d1, d2, d3] => { results := [.lit (.bool false)], args := [d1, d2, d3] }
  | _ => none }
def FnExactRunProgWrongFalsely : Prop := fnExactRunProgRow.holds Try.pinned (OpenSpec.ofChange fnExactRunProgWrong)

/-- 'laws.FnExactSetFault': WHATEVER THE INPUT: true; the input reads as it did. -/
def fnExactSetFaultSpec : ChangeSpec := { name := "fnExactSetFault", fn := fun _ => fun
  | [d1, d2] => { results := [.lit (.bool true)], args := [d1, d2] }
  | _ => none }
def fnExactSetFaultRow : OpenClaim := { program := "ytjkipdamohljpaa", sum := "a707934c64de19ded618cdb81150bcc7605eff3671f49db61fbed95b70a7b4e8", func := "loop.example/g00414/laws.FnExactSetFault", spec := "fnExactSetFault", apart := false }
def FnExactSetFaultSaid : Prop := fnExactSetFaultRow.holds Try.pinned (OpenSpec.ofChange fnExactSetFaultSpec)

/-- ITS FALSE NEIGHBOUR: 'it returns false'. Refute it at one input. -/
def fnExactSetFaultWrong : ChangeSpec := { name := "fnExactSetFault", fn := fun _ => fun
  | [d1, d2] => { results := [.lit (.bool false)], args := [d1, d2] }
  | _ => none }
def FnExactSetFaultWrongFalsely : Prop := fnExactSetFaultRow.holds Try.pinned (OpenSpec.ofChange fnExactSetFaultWrong)

/- THE SECOND FORM. 'bulk': how many values and letters a reading holds, each counted each time it is reached (what is shared counts as often as it is met; a slice's spare places count too). A statement '..UptoSaid' is the law's where the arguments, and the package variables that the reading takes, are together of bulk at most 1048576: NARROWER than '..Said'. Prove '..Said' where nothing that the law and all that it calls make is longer than what came in: it says more and counts as full. Else prove '..UptoSaid'. A law counts once. -/
mutual
def uptoBulk {H : Type} : DataW H → Nat
  | .lit (.string bytes) => bytes.length + 1
  | .lit _ => 1
  | .nil => 1
  | .ptr d => uptoBulk d + 1
  | .slice elems spare => uptoBulkAll elems + uptoBulkAll spare + 1
  | .agg parts => uptoBulkAll parts + 1
  | .iface _ d => uptoBulk d + 1
  | .map entries => uptoBulkEntries entries + 1
  | .held _ => 1
def uptoBulkAll {H : Type} : List (DataW H) → Nat
  | [] => 0
  | d :: r => uptoBulk d + uptoBulkAll r
def uptoBulkEntries {H : Type} : List (Lit × DataW H) → Nat
  | [] => 0
  | x :: r => uptoBulkEntry x + uptoBulkEntries r
def uptoBulkEntry {H : Type} : Lit × DataW H → Nat
  | (.string bytes, d) => bytes.length + uptoBulk d + 1
  | (_, d) => uptoBulk d + 1
 end
def uptoSmall : (H : Type) → List (DataW H) → Bool := fun _ ds => decide (uptoBulkAll ds ≤ 1048576)
def OpenSpec.upto (s : _root_.Go.ChangeSpec) : _root_.Go.OpenSpec := { _root_.Go.OpenSpec.ofChange s with cond := some uptoSmall }

/-- 'laws.FnCloses', WHERE WHAT IT READS IS OF BULK AT MOST 1048576: true; the input reads as it did. -/
def fnClosesUptoRow : OpenClaim := { program := "ytjkipdamohljpaa", sum := "a707934c64de19ded618cdb81150bcc7605eff3671f49db61fbed95b70a7b4e8", func := "loop.example/g00414/laws.FnCloses", spec := "fnCloses", inPlace := ["internal/bytealg.IndexByteString"], recurses := true, apart := false, narrowed := true }
def FnClosesUptoSaid : Prop := fnClosesUptoRow.holds Try.pinned (OpenSpec.upto fnClosesSpec)

/-- 'laws.FnExactProgFault', WHERE WHAT IT READS IS OF BULK AT MOST 1048576: true; the input reads as it did. -/
def fnExactProgFaultUptoRow : OpenClaim := { program := "ytjkipdamohljpaa", sum := "a707934c64de19ded618cdb81150bcc7605eff3671f49db61fbed95b70a7b4e8", func := "loop.example/g00414/laws.FnExactProgFault", spec := "fnExactProgFault", apart := false, narrowed := true }
def FnExactProgFaultUptoSaid : Prop := fnExactProgFaultUptoRow.holds Try.pinned (OpenSpec.upto fnExactProgFaultSpec)

/-- 'laws.FnExactCompilePattern', WHERE WHAT IT READS IS OF BULK AT MOST 1048576: true; the input reads as it did. -/
def fnExactCompilePatternUptoRow : OpenClaim := { program := "ytjkipdamohljpaa", sum := "a707934c64de19ded618cdb81150bcc7605eff3671f49db61fbed95b70a7b4e8", func := "loop.example/g00414/laws.FnExactCompilePattern", spec := "fnExactCompilePattern", recurses := true, apart := false, narrowed := true }
def FnExactCompilePatternUptoSaid : Prop := fnExactCompilePatternUptoRow.holds Try.pinned (OpenSpec.upto fnExactCompilePatternSpec)

/-- 'laws.FnExactCloseSet', WHERE WHAT IT READS IS OF BULK AT MOST 1048576: true; the input reads as it did. -/
def fnExactCloseSetUptoRow : OpenClaim := { program := "ytjkipdamohljpaa", sum := "a707934c64de19ded618cdb81150bcc7605eff3671f49db61fbed95b70a7b4e8", func := "loop.example/g00414/laws.FnExactCloseSet", spec := "fnExactCloseSet", recurses := true, apart := false, narrowed := true }
def FnExactCloseSetUptoSaid : Prop := fnExactCloseSetUptoRow.holds Try.pinned (OpenSpec.upto fnExactCloseSetSpec)

/-- 'laws.FnExactStepSet', WHERE WHAT IT READS IS OF BULK AT MOST 1048576: true; the input reads as it did. -/
def fnExactStepSetUptoRow : OpenClaim := { program := "ytjkipdamohljpaa", sum := "a707934c64de19ded618cdb81150bcc7605eff3671f49db61fbed95b70a7b4e8", func := "loop.example/g00414/laws.FnExactStepSet", spec := "fnExactStepSet", inPlace := ["internal/bytealg.IndexByteString"], apart := false, narrowed := true }
def FnExactStepSetUptoSaid : Prop := fnExactStepSetUptoRow.holds Try.pinned (OpenSpec.upto fnExactStepSetSpec)

/-- 'laws.FnExactRunProg', WHERE WHAT IT READS IS OF BULK AT MOST 1048576: true; the input reads as it did. -/
def fnExactRunProgUptoRow : OpenClaim := { program := "ytjkipdamohljpaa", sum := "a707934c64de19ded618cdb81150bcc7605eff3671f49db61fbed95b70a7b4e8", func := "loop.example/g00414/laws.FnExactRunProg", spec := "fnExactRunProg", inPlace := ["internal/bytealg.IndexByteString"], recurses := true, apart := false, narrowed := true }
def FnExactRunProgUptoSaid : Prop := fnExactRunProgUptoRow.holds Try.pinned (OpenSpec.upto fnExactRunProgSpec)

/-- 'laws.FnExactSetFault', WHERE WHAT IT READS IS OF BULK AT MOST 1048576: true; the input reads as it did. -/
def fnExactSetFaultUptoRow : OpenClaim := { program := "ytjkipdamohljpaa", sum := "a707934c64de19ded618cdb81150bcc7605eff3671f49db61fbed95b70a7b4e8", func := "loop.example/g00414/laws.FnExactSetFault", spec := "fnExactSetFault", apart := false, narrowed := true }
def FnExactSetFaultUptoSaid : Prop := fnExactSetFaultUptoRow.holds Try.pinned (OpenSpec.upto fnExactSetFaultSpec)

end Rows
end Go.Proofs.Ytjkipdamohljpaa
