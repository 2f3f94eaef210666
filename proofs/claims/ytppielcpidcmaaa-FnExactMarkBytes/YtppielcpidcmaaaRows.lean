/-
  No cell of these rows narrows 'for every input' (looked for: loops, veiled, ifaces, maps, wideKeys, modest, calm, conditions, laid).
  DERIVED. THE GIVEN ROWS OF THIS SEAT. 5 by the template 'for every input the law returns true; each argument reads behind the call as it read before'; 0 by the template 'total and deterministic' (their statements: YtppielcpidcmaaaTotals.lean).
  GIVEN WITH THE SEED: the statements are not yours to turn. If you find one false, say at which input.
  Laid BY PROGRAM, IN A SANDBOX (cutbox-rows.mjs): the forced cells as the released guide's own fill.sh prints them over the translation 4fd6d3f277a40a97… (all of the seat's roots in one cut). By AI agents, Wed Nov 11 2026. No macro, syntax, notation, axiom, sorry.
-/
import Derived.Test.YtppielcpidcmaaaChecked
import GoSem.Claim
import GoSem.ClaimJoined
import GoSem.ClaimMapViews
import Derived.JoinedTies
import Derived.KernelRfl
namespace Go.Proofs.Ytppielcpidcmaaa
/- THE CELL 'sum', in the pinned program and in every row, IS THE sha256 OF THE DUMP (.gsa) THAT YtppielcpidcmaaaProg.lean LOADS. Nothing in Lean hashes anything: it is a label: what it is worth is what the hold of that sum in a sandbox is worth. -/
noncomputable def Try.pinned : Pinned := { name := "ytppielcpidcmaaa", sum := "4fd6d3f277a40a9729caca8f65c0711452a747276026ee8a178c4968802f25ed", checked := Try.checked }
namespace Rows
def none {H : Type} : Left H := { results := [], args := [] }

/-- 'laws.FnFinds': WHATEVER THE INPUT: true; the input reads as it did. -/
def fnFindsSpec : ChangeSpec := { name := "fnFinds", fn := fun _ => fun
  | [d] => { results := [.lit (.bool true)], args := [d] }
  | _ => none }
def fnFindsRow : OpenClaim := { program := "ytppielcpidcmaaa", sum := "4fd6d3f277a40a9729caca8f65c0711452a747276026ee8a178c4968802f25ed", func := "loop.example/g00414/laws.FnFinds", spec := "fnFinds", inPlace := ["internal/bytealg.IndexByte", "internal/bytealg.IndexByteString"], unfollowed := true, recurses := true, apart := false }
def FnFindsSaid : Prop := fnFindsRow.holds Try.pinned (OpenSpec.ofChange fnFindsSpec)

/-- ITS FALSE NEIGHBOUR: 'it returns false'. Refute it at one input. -/
def fnFindsWrong : ChangeSpec := { name := "fnFinds", fn := fun _ => fun
  | [d] => { results := [.lit (.bool false)], args := [d] }
  | _ => none }
def FnFindsWrongFalsely : Prop := fnFindsRow.holds Try.pinned (OpenSpec.ofChange fnFindsWrong)

/-- 'laws.FnExactSpansFault': WHATEVER THE INPUT: true; the input reads as it did. -/
def fnExactSpansFaultSpec : ChangeSpec := { name := "fnExactSpansFault", fn := fun _ => fun
  | [d] => { results := [.lit (.bool true)], args := [d] }
  | _ => none }
def fnExactSpansFaultRow : OpenClaim := { program := "ytppielcpidcmaaa", sum := "4fd6d3f277a40a9729caca8f65c0711452a747276026ee8a178c4968802f25ed", func := "loop.example/g00414/laws.FnExactSpansFault", spec := "fnExactSpansFault", apart := false }
def FnExactSpansFaultSaid : Prop := fnExactSpansFaultRow.holds Try.pinned (OpenSpec.ofChange fnExactSpansFaultSpec)

/-- ITS FALSE NEIGHBOUR: 'it returns false'. Refute it at one input. -/
def fnExactSpansFaultWrong : ChangeSpec := { name := "fnExactSpansFault", fn := fun _ => fun
  | [d] => { results := [.lit (.bool false)], args := [d] }
  | _ => none }
def FnExactSpansFaultWrongFalsely : Prop := fnExactSpansFaultRow.holds Try.pinned (OpenSpec.ofChange fnExactSpansFaultWrong)

/-- 'laws.FnExactMarkBytes': WHATEVER THE INPUT: true; the input reads as it did. -/
def fnExactMarkBytesSpec : ChangeSpec := { name := "fnExactMarkBytes", fn := fun _ => fun
  | [d1, d2] => { results := [.lit (.bool true)], args := [d1, d2] }
  | _ => none }
def fnExactMarkBytesRow : OpenClaim := { program := "ytppielcpidcmaaa", sum := "4fd6d3f277a40a9729caca8f65c0711452a747276026ee8a178c4968802f25ed", func := "loop.example/g00414/laws.FnExactMarkBytes", spec := "fnExactMarkBytes", apart := false }
def FnExactMarkBytesSaid : Prop := fnExactMarkBytesRow.holds Try.pinned (OpenSpec.ofChange fnExactMarkBytesSpec)

/-- ITS FALSE NEIGHBOUR: 'it returns false'. Refute it at one input. -/
def fnExactMarkBytesWrong : ChangeSpec := { name := "fnExactMarkBytes", fn := fun _ => fun
  | [d1, d2] => { results := [.lit (.bool false)], args := [d1, d2] }
  | _ => none }
def FnExactMarkBytesWrongFalsely : Prop := fnExactMarkBytesRow.holds Try.pinned (OpenSpec.ofChange fnExactMarkBytesWrong)

/-- 'laws.FnExactLineHas': WHATEVER THE INPUT: true; the input reads as it did. -/
def fnExactLineHasSpec : ChangeSpec := { name := "fnExactLineHas", fn := fun _ => fun
  | [d1, d2] => { results := [.lit (.bool true)], args := [d1, d2] }
  | _ => none }
def fnExactLineHasRow : OpenClaim := { program := "ytppielcpidcmaaa", sum := "4fd6d3f277a40a9729caca8f65c0711452a747276026ee8a178c4968802f25ed", func := "loop.example/g00414/laws.FnExactLineHas", spec := "fnExactLineHas", inPlace := ["internal/bytealg.IndexByteString"], recurses := true, apart := false }
def FnExactLineHasSaid : Prop := fnExactLineHasRow.holds Try.pinned (OpenSpec.ofChange fnExactLineHasSpec)

/-- ITS FALSE NEIGHBOUR: 'it returns false'. Refute it at one input. -/
def fnExactLineHasWrong : ChangeSpec := { name := "fnExactLineHas", fn := fun _ => fun
  | [d1, d2] => { results := [.lit (.bool false)], args := [d1, d2] }
  | _ => none }
def FnExactLineHasWrongFalsely : Prop := fnExactLineHasRow.holds Try.pinned (OpenSpec.ofChange fnExactLineHasWrong)

/-- 'laws.FnExactFindLine': WHATEVER THE INPUT: true; the input reads as it did. -/
def fnExactFindLineSpec : ChangeSpec := { name := "fnExactFindLine", fn := fun _ => fun
  | [d1, d2, d3, d4, d5] => { results := [.lit (.bool true)], args := [d1, d2, d3, d4, d5] }
  | _ => none }
def fnExactFindLineRow : OpenClaim := { program := "ytppielcpidcmaaa", sum := "4fd6d3f277a40a9729caca8f65c0711452a747276026ee8a178c4968802f25ed", func := "loop.example/g00414/laws.FnExactFindLine", spec := "fnExactFindLine", inPlace := ["internal/bytealg.IndexByte", "internal/bytealg.IndexByteString"], unfollowed := true, recurses := true, apart := false }
def FnExactFindLineSaid : Prop := fnExactFindLineRow.holds Try.pinned (OpenSpec.ofChange fnExactFindLineSpec)

/-- ITS FALSE NEIGHBOUR: 'it returns false'. Refute it at one input. -/
def fnExactFindLineWrong : ChangeSpec := { name := "fnExactFindLine", fn := fun _ => fun
  | [d1, d2, d3, d4, d5] => { results := [.lit (.bool false)], args := [d1, d2, d3, d4, d5] }
  | _ => none }
def FnExactFindLineWrongFalsely : Prop := fnExactFindLineRow.holds Try.pinned (OpenSpec.ofChange fnExactFindLineWrong)

/- THE SECOND FORM. 'bulk': how many values and letters a reading holds, each counted each time it is reached (what is shared counts as often as it is met; a slice's spare places count too). A statement '..UptoSaid' is the law's where the arguments, and the package variables that the reading takes, are together of bulk at most 1048576: NARROWER than '..Said'. Prove '..Said' where nothing that the law and all that it calls make is longer than what came in: it says more and counts as full. Else prove '..UptoSaid'. A law counts once. -/
mutual
def uptoBulk {H : Type} : DataW H → Nat
  | .lit (.string bytes) => bytes.length + 1
  | .lit _ => 1
  | .nil => 1
  | .ptr d => uptoBulk d + 1
  | .slice elems spare => uptoBulkAll elems + uptoBulkAll spare + 1
  | .agg parts => uptoBulkAll parts + 1
  | .iface _ d => uptoBulk d + 1
  | .map entries => uptoBulkEntries entries + 1
  | .held _ => 1
def uptoBulkAll {H : Type} : List (DataW H) → Nat
  | [] => 0
  | d :: r => uptoBulk d + uptoBulkAll r
def uptoBulkEntries {H : Type} : List (Lit × DataW H) → Nat
  | [] => 0
  | x :: r => uptoBulkEntry x + uptoBulkEntries r
def uptoBulkEntry {H : Type} : Lit × DataW H → Nat
  | (.string bytes, d) => bytes.length + uptoBulk d + 1
  | (_, d) => uptoBulk d + 1
 end
def uptoSmall : (H : Type) → List (DataW H) → Bool := fun _ ds => decide (uptoBulkAll ds ≤ 1048576)
def OpenSpec.upto (s : _root_.Go.ChangeSpec) : _root_.Go.OpenSpec := { _root_.Go.OpenSpec.ofChange s with cond := some uptoSmall }

/-- 'laws.FnFinds', WHERE WHAT IT READS IS OF BULK AT MOST 1048576: true; the input reads as it did. -/
def fnFindsUptoRow : OpenClaim := { program := "ytppielcpidcmaaa", sum := "4fd6d3f277a40a9729caca8f65c0711452a747276026ee8a178c4968802f25ed", func := "loop.example/g00414/laws.FnFinds", spec := "fnFinds", inPlace := ["internal/bytealg.IndexByte", "internal/bytealg.IndexByteString"], unfollowed := true, recurses := true, apart := false, narrowed := true }
def FnFindsUptoSaid : Prop := fnFindsUptoRow.holds Try.pinned (OpenSpec.upto fnFindsSpec)

/-- 'laws.FnExactSpansFault', WHERE WHAT IT READS IS OF BULK AT MOST 1048576: true; the input reads as it did. -/
def fnExactSpansFaultUptoRow : OpenClaim := { program := "ytppielcpidcmaaa", sum := "4fd6d3f277a40a9729caca8f65c0711452a747276026ee8a178c4968802f25ed", func := "loop.example/g00414/laws.FnExactSpansFault", spec := "fnExactSpansFault", apart := false, narrowed := true }
def FnExactSpansFaultUptoSaid : Prop := fnExactSpansFaultUptoRow.holds Try.pinned (OpenSpec.upto fnExactSpansFaultSpec)

/-- 'laws.FnExactMarkBytes', WHERE WHAT IT READS IS OF BULK AT MOST 1048576: true; the input reads as it did. -/
def fnExactMarkBytesUptoRow : OpenClaim := { program := "ytppielcpidcmaaa", sum := "4fd6d3f277a40a9729caca8f65c0711452a747276026ee8a178c4968802f25ed", func := "loop.example/g00414/laws.FnExactMarkBytes", spec := "fnExactMarkBytes", apart := false, narrowed := true }
def FnExactMarkBytesUptoSaid : Prop := fnExactMarkBytesUptoRow.holds Try.pinned (OpenSpec.upto fnExactMarkBytesSpec)

/-- 'laws.FnExactLineHas', WHERE WHAT IT READS IS OF BULK AT MOST 1048576: true; the input reads as it did. -/
def fnExactLineHasUptoRow : OpenClaim := { program := "ytppielcpidcmaaa", sum := "4fd6d3f277a40a9729caca8f65c0711452a747276026ee8a178c4968802f25ed", func := "loop.example/g00414/laws.FnExactLineHas", spec := "fnExactLineHas", inPlace := ["internal/bytealg.IndexByteString"], recurses := true, apart := false, narrowed := true }
def FnExactLineHasUptoSaid : Prop := fnExactLineHasUptoRow.holds Try.pinned (OpenSpec.upto fnExactLineHasSpec)

/-- 'laws.FnExactFindLine', WHERE WHAT IT READS IS OF BULK AT MOST 1048576: true; the input reads as it did. -/
def fnExactFindLineUptoRow : OpenClaim := { program := "ytppielcpidcmaaa", sum := "4fd6d3f277a40a9729caca8f65c0711452a747276026ee8a178c4968802f25ed", func := "loop.example/g00414/laws.FnExactFindLine", spec := "fnExactFindLine", inPlace := ["internal/bytealg.IndexByte", "internal/bytealg.IndexByteString"], unfollowed := true, recurses := true, apart := false, narrowed := true }
def FnExactFindLineUptoSaid : Prop := fnExactFindLineUptoRow.holds Try.pinned (OpenSpec.upto fnExactFindLineSpec)

end Rows
end Go.Proofs.Ytppielcpidcmaaa
