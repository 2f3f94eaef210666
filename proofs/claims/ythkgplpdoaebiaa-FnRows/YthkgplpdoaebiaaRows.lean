/-
  No cell of these rows narrows 'for every input' (looked for: loops, veiled, ifaces, maps, wideKeys, modest, calm, conditions, laid).
  DERIVED. THE GIVEN ROWS OF THIS SEAT. 8 by the template 'for every input the law returns true; each argument reads behind the call as it read before'; 0 by the template 'total and deterministic' (their statements: YthkgplpdoaebiaaTotals.lean).
  GIVEN WITH THE SEED: the statements are not yours to turn. If you find one false, say at which input.
  Laid BY PROGRAM, IN A SANDBOX (cutbox-rows.mjs): the forced cells as the released guide's own fill.sh prints them over the translation e34c62fd6aaaa76f… (all of the seat's roots in one cut). By AI agents, Wed Nov 11 2026. No macro, syntax, notation, axiom, sorry.
-/
import Derived.Test.YthkgplpdoaebiaaChecked
import GoSem.Claim
import GoSem.ClaimJoined
import GoSem.ClaimMapViews
import Derived.JoinedTies
import Derived.KernelRfl
namespace Go.Proofs.Ythkgplpdoaebiaa
/- THE CELL 'sum', in the pinned program and in every row, IS THE sha256 OF THE DUMP (.gsa) THAT YthkgplpdoaebiaaProg.lean LOADS. Nothing in Lean hashes anything: it is a label: what it is worth is what the hold of that sum in a sandbox is worth. -/
noncomputable def Try.pinned : Pinned := { name := "ythkgplpdoaebiaa", sum := "e34c62fd6aaaa76f95a3c6e05c59698dc8f5208de229ae7ab197d06f632fb840", checked := Try.checked }
namespace Rows
def none {H : Type} : Left H := { results := [], args := [] }

/-- 'laws.FnRows': WHATEVER THE INPUT: true; the input reads as it did. -/
def fnRowsSpec : ChangeSpec := { name := "fnRows", fn := fun _ => fun
  | [d] => { results := [.lit (.bool true)], args := [d] }
  | _ => none }
def fnRowsRow : OpenClaim := { program := "ythkgplpdoaebiaa", sum := "e34c62fd6aaaa76f95a3c6e05c59698dc8f5208de229ae7ab197d06f632fb840", func := "loop.example/g00414/laws.FnRows", spec := "fnRows", unfollowed := true, recurses := true, apart := false }
def FnRowsSaid : Prop := fnRowsRow.holds Try.pinned (OpenSpec.ofChange fnRowsSpec)

/-- ITS FALSE NEIGHBOUR: 'it returns false'. Refute it at one input. -/
def fnRowsWrong : ChangeSpec := { name := "fnRows", fn := fun _ => fun
  | [d] => { results := [.lit (.bool false)], args := [d] }
  | _ => none }
def FnRowsWrongFalsely : Prop := fnRowsRow.holds Try.pinned (OpenSpec.ofChange fnRowsWrong)

/-- 'laws.FnLasts': WHATEVER THE INPUT: true; the input reads as it did. -/
def fnLastsSpec : ChangeSpec := { name := "fnLasts", fn := fun _ => fun
  | [d] => { results := [.lit (.bool true)], args := [d] }
  | _ => none }
def fnLastsRow : OpenClaim := { program := "ythkgplpdoaebiaa", sum := "e34c62fd6aaaa76f95a3c6e05c59698dc8f5208de229ae7ab197d06f632fb840", func := "loop.example/g00414/laws.FnLasts", spec := "fnLasts", inPlace := ["internal/bytealg.IndexByte"], unfollowed := true, recurses := true, apart := false }
def FnLastsSaid : Prop := fnLastsRow.holds Try.pinned (OpenSpec.ofChange fnLastsSpec)

/-- ITS FALSE NEIGHBOUR: 'it returns false'. Refute it at one input. -/
def fnLastsWrong : ChangeSpec := { name := "fnLasts", fn := fun _ => fun
  | [d] => { results := [.lit (.bool false)], args := [d] }
  | _ => none }
def FnLastsWrongFalsely : Prop := fnLastsRow.holds Try.pinned (OpenSpec.ofChange fnLastsWrong)

/-- 'laws.FnExactLayoutFault': WHATEVER THE INPUT: true; the input reads as it did. -/
def fnExactLayoutFaultSpec : ChangeSpec := { name := "fnExactLayoutFault", fn := fun _ => fun
  | [d] => { results := [.lit (.bool true)], args := [d] }
  | _ => none }
def fnExactLayoutFaultRow : OpenClaim := { program := "ythkgplpdoaebiaa", sum := "e34c62fd6aaaa76f95a3c6e05c59698dc8f5208de229ae7ab197d06f632fb840", func := "loop.example/g00414/laws.FnExactLayoutFault", spec := "fnExactLayoutFault", apart := false }
def FnExactLayoutFaultSaid : Prop := fnExactLayoutFaultRow.holds Try.pinned (OpenSpec.ofChange fnExactLayoutFaultSpec)

/-- ITS FALSE NEIGHBOUR: 'it returns false'. Refute it at one input. -/
def fnExactLayoutFaultWrong : ChangeSpec := { name := "fnExactLayoutFault", fn := fun _ => fun
  | [d] => { results := [.lit (.bool false)], args := [d] }
  | _ => none }
def FnExactLayoutFaultWrongFalsely : Prop := fnExactLayoutFaultRow.holds Try.pinned (OpenSpec.ofChange fnExactLayoutFaultWrong)

/-- 'laws.FnExactRowCount': WHATEVER THE INPUT: true; the input reads as it did. -/
def fnExactRowCountSpec : ChangeSpec := { name := "fnExactRowCount", fn := fun _ => fun
  | [d1, d2] => { results := [.lit (.bool true)], args := [d1, d2] }
  | _ => none }
def fnExactRowCountRow : OpenClaim := { program := "ythkgplpdoaebiaa", sum := "e34c62fd6aaaa76f95a3c6e05c59698dc8f5208de229ae7ab197d06f632fb840", func := "loop.example/g00414/laws.FnExactRowCount", spec := "fnExactRowCount", unfollowed := true, recurses := true, apart := false }
def FnExactRowCountSaid : Prop := fnExactRowCountRow.holds Try.pinned (OpenSpec.ofChange fnExactRowCountSpec)

/-- ITS FALSE NEIGHBOUR: 'it returns false'. Refute it at one input. -/
def fnExactRowCountWrong : ChangeSpec := { name := "fnExactRowCount", fn := fun _ => fun
  | [d1, d2] => { results := [.lit (.bool false)], args := [d1, d2] }
  | _ => none }
def FnExactRowCountWrongFalsely : Prop := fnExactRowCountRow.holds Try.pinned (OpenSpec.ofChange fnExactRowCountWrong)

/-- 'laws.FnExactRowCells': WHATEVER THE INPUT: true; the input reads as it did. -/
def fnExactRowCellsSpec : ChangeSpec := { name := "fnExactRowCells", fn := fun _ => fun
  | [d1, d2, d3] => { results := [.lit (.bool true)], args := [d1, d2, d3] }
  | _ => none }
def fnExactRowCellsRow : OpenClaim := { program := "ythkgplpdoaebiaa", sum := "e34c62fd6aaaa76f95a3c6e05c59698dc8f5208de229ae7ab197d06f632fb840", func := "loop.example/g00414/laws.FnExactRowCells", spec := "fnExactRowCells", unfollowed := true, recurses := true, apart := false }
def FnExactRowCellsSaid : Prop := fnExactRowCellsRow.holds Try.pinned (OpenSpec.ofChange fnExactRowCellsSpec)

/-- ITS FALSE NEIGHBOUR: 'it returns false'. Refute it at one input. -/
def fnExactRowCellsWrong : ChangeSpec := { name := "fnExactRowCells", fn := fun _ => fun
  | [d1, d2, d3] => { results := [.lit (.bool false)], args := [d1, d2, d3] }
  | _ => none }
def FnExactRowCellsWrongFalsely : Prop := fnExactRowCellsRow.holds Try.pinned (OpenSpec.ofChange fnExactRowCellsWrong)

/-- 'laws.FnExactSpotFault': WHATEVER THE INPUT: true; the input reads as it did. -/
def fnExactSpotFaultSpec : ChangeSpec := { name := "fnExactSpotFault", fn := fun _ => fun
  | [d1, d2, d3] => { results := [.lit (.bool true)], args := [d1, d2, d3] }
  | _ => none }
def fnExactSpotFaultRow : OpenClaim := { program := "ythkgplpdoaebiaa", sum := "e34c62fd6aaaa76f95a3c6e05c59698dc8f5208de229ae7ab197d06f632fb840", func := "loop.example/g00414/laws.FnExactSpotFault", spec := "fnExactSpotFault", inPlace := ["internal/bytealg.IndexByte"], unfollowed := true, recurses := true, apart := false }
def FnExactSpotFaultSaid : Prop := fnExactSpotFaultRow.holds Try.pinned (OpenSpec.ofChange fnExactSpotFaultSpec)

/-- ITS FALSE NEIGHBOUR: 'it returns false'. Refute it at one input. -/
def fnExactSpotFaultWrong : ChangeSpec := { name := "fnExactSpotFault", fn := fun _ => fun
  | [d1, d2, d3] => { results := [.lit (.bool false)], args := [d1, d2, d3] }
  | _ => none }
def FnExactSpotFaultWrongFalsely : Prop := fnExactSpotFaultRow.holds Try.pinned (OpenSpec.ofChange fnExactSpotFaultWrong)

/-- 'laws.FnExactMoveSpot': WHATEVER THE INPUT: true; the input reads as it did. -/
def fnExactMoveSpotSpec : ChangeSpec := { name := "fnExactMoveSpot", fn := fun _ => fun
  | [d1, d2, d3, d4] => { results := [.lit (.bool true)], args := [d1, d2, d3, d4] }
  | _ => none }
def fnExactMoveSpotRow : OpenClaim := { program := "ythkgplpdoaebiaa", sum := "e34c62fd6aaaa76f95a3c6e05c59698dc8f5208de229ae7ab197d06f632fb840", func := "loop.example/g00414/laws.FnExactMoveSpot", spec := "fnExactMoveSpot", inPlace := ["internal/bytealg.IndexByte"], unfollowed := true, recurses := true, apart := false }
def FnExactMoveSpotSaid : Prop := fnExactMoveSpotRow.holds Try.pinned (OpenSpec.ofChange fnExactMoveSpotSpec)

/-- ITS FALSE NEIGHBOUR: 'it returns false'. Refute it at one input. -/
def fnExactMoveSpotWrong : ChangeSpec := { name := "fnExactMoveSpot", fn := fun _ => fun
  | [d1, d2, d3, d4] => { results := [.lit (.bool false)], args := [d1, d2, d3, d4] }
  | _ => none }
def FnExactMoveSpotWrongFalsely : Prop := fnExactMoveSpotRow.holds Try.pinned (OpenSpec.ofChange fnExactMoveSpotWrong)

/-- 'laws.FnExactLastTop': WHATEVER THE INPUT: true; the input reads as it did. -/
def fnExactLastTopSpec : ChangeSpec := { name := "fnExactLastTop", fn := fun _ => fun
  | [d1, d2, d3] => { results := [.lit (.bool true)], args := [d1, d2, d3] }
  | _ => none }
def fnExactLastTopRow : OpenClaim := { program := "ythkgplpdoaebiaa", sum := "e34c62fd6aaaa76f95a3c6e05c59698dc8f5208de229ae7ab197d06f632fb840", func := "loop.example/g00414/laws.FnExactLastTop", spec := "fnExactLastTop", inPlace := ["internal/bytealg.IndexByte"], unfollowed := true, recurses := true, apart := false }
def FnExactLastTopSaid : Prop := fnExactLastTopRow.holds Try.pinned (OpenSpec.ofChange fnExactLastTopSpec)

/-- ITS FALSE NEIGHBOUR: 'it returns false'. Refute it at one input. -/
def fnExactLastTopWrong : ChangeSpec := { name := "fnExactLastTop", fn := fun _ => fun
  | [d1, d2, d3] => { results := [.lit (.bool false)], args := [d1, d2, d3] }
  | _ => none }
def FnExactLastTopWrongFalsely : Prop := fnExactLastTopRow.holds Try.pinned (OpenSpec.ofChange fnExactLastTopWrong)

/- THE SECOND FORM. 'bulk': how many values and letters a reading holds, each counted each time it is reached (what is shared counts as often as it is met; a slice's spare places count too). A statement '..UptoSaid' is the law's where the arguments, and the package variables that the reading takes, are together of bulk at most 1048576: NARROWER than '..Said'. Prove '..Said' where nothing that the law and all that it calls make is longer than what came in: it says more and counts as full. Else prove '..UptoSaid'. A law counts once. -/
mutual
def uptoBulk {H : Type} : DataW H → Nat
  | .lit (.string bytes) => bytes.length + 1
  | .lit _ => 1
  | .nil => 1
  | .ptr d => uptoBulk d + 1
  | .slice elems spare => uptoBulkAll elems + uptoBulkAll spare + 1
  | .agg parts => uptoBulkAll parts + 1
  | .iface _ d => uptoBulk d + 1
  | .map entries => uptoBulkEntries entries + 1
  | .held _ => 1
def uptoBulkAll {H : Type} : List (DataW H) → Nat
  | [] => 0
  | d :: r => uptoBulk d + uptoBulkAll r
def uptoBulkEntries {H : Type} : List (Lit × DataW H) → Nat
  | [] => 0
  | x :: r => uptoBulkEntry x + uptoBulkEntries r
def uptoBulkEntry {H : Type} : Lit × DataW H → Nat
  | (.string bytes, d) => bytes.length + uptoBulk d + 1
  | (_, d) => uptoBulk d + 1
 end
def uptoSmall : (H : Type) → List (DataW H) → Bool := fun _ ds => decide (uptoBulkAll ds ≤ 1048576)
def OpenSpec.upto (s : _root_.Go.ChangeSpec) : _root_.Go.OpenSpec := { _root_.Go.OpenSpec.ofChange s with cond := some uptoSmall }

/-- 'laws.FnRows', WHERE WHAT IT READS IS OF BULK AT MOST 1048576: true; the input reads as it did. -/
def fnRowsUptoRow : OpenClaim := { program := "ythkgplpdoaebiaa", sum := "e34c62fd6aaaa76f95a3c6e05c59698dc8f5208de229ae7ab197d06f632fb840", func := "loop.example/g00414/laws.FnRows", spec := "fnRows", unfollowed := true, recurses := true, apart := false, narrowed := true }
def FnRowsUptoSaid : Prop := fnRowsUptoRow.holds Try.pinned (OpenSpec.upto fnRowsSpec)

/-- 'laws.FnLasts', WHERE WHAT IT READS IS OF BULK AT MOST 1048576: true; the input reads as it did. -/
def fnLastsUptoRow : OpenClaim := { program := "ythkgplpdoaebiaa", sum := "e34c62fd6aaaa76f95a3c6e05c59698dc8f5208de229ae7ab197d06f632fb840", func := "loop.example/g00414/laws.FnLasts", spec := "fnLasts", inPlace := ["internal/bytealg.IndexByte"], unfollowed := true, recurses := true, apart := false, narrowed := true }
def FnLastsUptoSaid : Prop := fnLastsUptoRow.holds Try.pinned (OpenSpec.upto fnLastsSpec)

/-- 'laws.FnExactLayoutFault', WHERE WHAT IT READS IS OF BULK AT MOST 1048576: true; the input reads as it did. -/
def fnExactLayoutFaultUptoRow : OpenClaim := { program := "ythkgplpdoaebiaa", sum := "e34c62fd6aaaa76f95a3c6e05c59698dc8f5208de229ae7ab197d06f632fb840", func := "loop.example/g00414/laws.FnExactLayoutFault", spec := "fnExactLayoutFault", apart := false, narrowed := true }
def FnExactLayoutFaultUptoSaid : Prop := fnExactLayoutFaultUptoRow.holds Try.pinned (OpenSpec.upto fnExactLayoutFaultSpec)

/-- 'laws.FnExactRowCount', WHERE WHAT IT READS IS OF BULK AT MOST 1048576: true; the input reads as it did. -/
def fnExactRowCountUptoRow : OpenClaim := { program := "ythkgplpdoaebiaa", sum := "e34c62fd6aaaa76f95a3c6e05c59698dc8f5208de229ae7ab197d06f632fb840", func := "loop.example/g00414/laws.FnExactRowCount", spec := "fnExactRowCount", unfollowed := true, recurses := true, apart := false, narrowed := true }
def FnExactRowCountUptoSaid : Prop := fnExactRowCountUptoRow.holds Try.pinned (OpenSpec.upto fnExactRowCountSpec)

/-- 'laws.FnExactRowCells', WHERE WHAT IT READS IS OF BULK AT MOST 1048576: true; the input reads as it did. -/
def fnExactRowCellsUptoRow : OpenClaim := { program := "ythkgplpdoaebiaa", sum := "e34c62fd6aaaa76f95a3c6e05c59698dc8f5208de229ae7ab197d06f632fb840", func := "loop.example/g00414/laws.FnExactRowCells", spec := "fnExactRowCells", unfollowed := true, recurses := true, apart := false, narrowed := true }
def FnExactRowCellsUptoSaid : Prop := fnExactRowCellsUptoRow.holds Try.pinned (OpenSpec.upto fnExactRowCellsSpec)

/-- 'laws.FnExactSpotFault', WHERE WHAT IT READS IS OF BULK AT MOST 1048576: true; the input reads as it did. -/
def fnExactSpotFaultUptoRow : OpenClaim := { program := "ythkgplpdoaebiaa", sum := "e34c62fd6aaaa76f95a3c6e05c59698dc8f5208de229ae7ab197d06f632fb840", func := "loop.example/g00414/laws.FnExactSpotFault", spec := "fnExactSpotFault", inPlace := ["internal/bytealg.IndexByte"], unfollowed := true, recurses := true, apart := false, narrowed := true }
def FnExactSpotFaultUptoSaid : Prop := fnExactSpotFaultUptoRow.holds Try.pinned (OpenSpec.upto fnExactSpotFaultSpec)

/-- 'laws.FnExactMoveSpot', WHERE WHAT IT READS IS OF BULK AT MOST 1048576: true; the input reads as it did. -/
def fnExactMoveSpotUptoRow : OpenClaim := { program := "ythkgplpdoaebiaa", sum := "e34c62fd6aaaa76f95a3c6e05c59698dc8f5208de229ae7ab197d06f632fb840", func := "loop.example/g00414/laws.FnExactMoveSpot", spec := "fnExactMoveSpot", inPlace := ["internal/bytealg.IndexByte"], unfollowed := true, recurses := true, apart := false, narrowed := true }
def FnExactMoveSpotUptoSaid : Prop := fnExactMoveSpotUptoRow.holds Try.pinned (OpenSpec.upto fnExactMoveSpotSpec)

/-- 'laws.FnExactLastTop', WHERE WHAT IT READS IS OF BULK AT MOST 1048576: true; the input reads as it did. -/
def fnExactLastTopUptoRow : OpenClaim := { program := "ythkgplpdoaebiaa", sum := "e34c62fd6aaaa76f95a3c6e05c59698dc8f5208de229ae7ab197d06f632fb840", func := "loop.example/g00414/laws.FnExactLastTop", spec := "fnExactLastTop", inPlace := ["internal/bytealg.IndexByte"], unfollowed := true, recurses := true, apart := false, narrowed := true }
def FnExactLastTopUptoSaid : Prop := fnExactLastTopUptoRow.holds Try.pinned (OpenSpec.upto fnExactLastTopSpec)

end Rows
end Go.Proofs.Ythkgplpdoaebiaa
