/-
  Helpers over tables, in one shape with those over other rows; a table's faults bound.
-/
import Derived.Test.YtoggkcgldckekaaHlpT2
import Derived.Test.YtoggkcgldckekaaJoin
namespace Go.Proofs.Ytoggkcgldckekaa
open Go.RowKit
set_option linter.unusedVariables false
set_option linter.unusedSimpArgs false

/-- The states of a table that the call owns. -/
def TabR (weak : Bool) (w : World) (lo hi : Nat) (v : Value) (n : Nat) (ts : List St) : Prop := RowT weak 55 2 153 w lo hi v n ts

section
variable {weak : Bool} {w w' : World} {lo hi n : Nat} {v : Value} {ts : List St}

theorem TabR.below (h : TabR weak w lo hi v n ts) (hb : Below w.heap.size w w') : TabR weak w' lo hi v n ts := RowN.below (tabOk weak) h hb

theorem TabR.chg {lo' hi' : Nat} (h : TabR weak w lo hi v n ts) (hc : Chg lo' hi' w w') (hd : hi ≤ lo' ∨ hi' ≤ lo) : TabR weak w' lo hi v n ts := RowN.chg (tabOk weak) h hc hd

theorem TabR.mono {lo' hi' : Nat} (h : TabR weak w lo hi v n ts) (h1 : lo' ≤ lo) (h2 : hi ≤ hi') : TabR weak w lo' hi' v n ts := RowN.mono (tabOk weak) h h1 h2

theorem TabR.shape (h : TabR weak w lo hi v n ts) : ∃ a cap, v = .slice a n cap ∧ n ≤ cap ∧ cap ≤ maxLen := RowN.shape suE_len h

theorem TabR.len (h : TabR weak w lo hi v n ts) : ts.length = n := RowN.len h

theorem TabR.read {a : Option Addr} {c : Nat} (h : TabR weak w lo hi (.slice a n c) n ts) : RdT w a n ts := RowT.read h

theorem TabR.setB {B : Nat} (h : TabR weak w lo hi v n ts) (hb : B < lo ∨ hi ≤ B) (i : Nat) (u : Value) : TabR weak (w.setCell ⟨B, i, none⟩ u) lo hi v n ts :=
  h.chg (Chg.one (set_grown w B i u)) (by omega)

theorem TabR.weaken (h : TabR weak w lo hi v n ts) : TabR true w lo hi v n ts := RowT.weaken h

theorem TabR.nil (weak : Bool) (w : World) (lo hi : Nat) : TabR weak w lo hi (.slice none 0 0) 0 [] := RowN.nil _ _ _
end

theorem toTable_row (z : Int) (a : Option Addr) (n ca : Nat) (ts : List St) (w : World) (ha : RdT w a n ts) (h1 : (n : Int) + stN ts ≤ 1073741824) :
    Calls Try.prog 39 #[.agg #[.int .i64 z, .slice a n ca]] w fun e w' => ∃ v, e = .returned (.agg #[.int .i64 z, v]) ∧ TabR false w' w.heap.size w'.heap.size v n ts ∧ Below w.heap.size w w' := toTable_any z a n ca ts w ha h1

theorem markTable_tab (weak : Bool) (z x0 : Int) (v : Value) (n lo hi : Nat) (ts : List St) (w : World) (ho : TabR weak w lo hi v n ts) (h1 : (n : Int) + stN ts ≤ 107374182) (h2 : 0 ≤ x0) (h3 : x0 ≤ 107374182) :
    Calls Try.prog 48 #[.agg #[.int .i64 z, v], .int .i64 x0] w fun e w' => e = .returned (.int .i64 (x0 + stC ts)) ∧ TabR weak w' lo hi v n (mkT x0 ts) ∧ Chg lo hi w w' := markTable_row weak z x0 v n lo hi ts w ho h1 h2 h3

theorem markTableResult_tab (weak : Bool) (c d z x0 : Int) (v : Value) (n lo hi : Nat) (ts : List St) (w : World) (ho : TabR weak w lo hi v n ts) (h1 : (n : Int) + stN ts ≤ 107374182) (h2 : 0 ≤ x0) (h3 : x0 ≤ 107374182) :
    Calls Try.prog 43 #[.agg #[.int .i64 c, .int .i64 d, .int .i64 z, v], .int .i64 x0] w fun e w' => e = .returned (.int .i64 (x0 + stC ts)) ∧ TabR weak w' lo hi v n (mkT x0 ts) ∧ Chg lo hi w w' := markTableResult_row weak c d z x0 v n lo hi ts w ho h1 h2 h3
end Go.Proofs.Ytoggkcgldckekaa
