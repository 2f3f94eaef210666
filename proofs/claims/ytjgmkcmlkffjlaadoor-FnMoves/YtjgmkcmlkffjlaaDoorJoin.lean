/-
  A region that draws its order, and what is known behind it whatever the order was. It speaks of no program.
-/
import Derived.Test.YtjgmkcmlkffjlaaDoorBox
import Derived.Test.YtjgmkcmlkffjlaaDoorChg
namespace Go.Proofs.YtjgmkcmlkffjlaaDoor
open Go.RowKit
set_option linter.unusedVariables false

theorem region_join {P : Program} {id : Nat} {ops : Array Oper} {b : Bool} {Q : Exit → Act → World → Prop} {a : Act} {w : World} (J : Act → Act → World → Prop)
    (h : (Code.region id ops b).wp P (fun e a' w' => e = .normal ∧ J a a' w') a w) (k : ∀ a' w', J a a' w' → Q .normal a' w') : (Code.region id ops b).wp P Q a w :=
  Code.wp_mono (fun e a' w' hj => by obtain ⟨he, hj⟩ := hj; subst he; exact k _ _ hj) h

theorem RowI.setB {k : IntKind} {e : TypeId} {w : World} {lo hi n B : Nat} {v : Value} {xs : List Int} (h : RowI k e w lo hi v n xs) (hb : B < lo ∨ hi ≤ B) (i : Nat) (u : Value) : RowI k e (w.setCell ⟨B, i, none⟩ u) lo hi v n xs :=
  h.chg (Chg.one (set_grown w B i u)) (by omega)

theorem size_set (w : World) (a : Addr) (u : Value) : (w.setCell a u).heap.size = w.heap.size := by simp [World.setCell]

theorem Blk.below {W W' : World} {B : Nat} {cs : Array Value} {t : TypeId} (h : Blk W B cs t) (hb : Below W.heap.size W W') : Blk W' B cs t :=
  h.kept (grownBy_of_below hb) (by simp)
end Go.Proofs.YtjgmkcmlkffjlaaDoor
