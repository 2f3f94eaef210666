/-
  Contracts of the exact laws' helpers over slices of lines.
-/
import Derived.Test.YtlemdjgpkmjihaaGreatLinesM
import Derived.Test.YtlemdjgpkmjihaaGreatHlp1
import Derived.Test.YtlemdjgpkmjihaaGreatHlpA
import Derived.Test.YtlemdjgpkmjihaaGreatChg
import Derived.Deep.RegionWith
namespace Go.Proofs.YtlemdjgpkmjihaaGreat
open Go.RowKit
set_option linter.unusedVariables false

/-- The two cells of an element. -/
theorem two {w : World} {b off : Nat} {c : L2} (h : ∀ f v, (lineE c)[f]? = some v → w.cell? ⟨b, off + f, none⟩ = some v) :
    w.cell? ⟨b, off, none⟩ = some (.int .i64 c.1) ∧ w.cell? ⟨b, off + 1, none⟩ = some (.int .i64 c.2) :=
  ⟨h 0 _ rfl, h 1 _ rfl⟩

/-- A whole line is stored. -/
theorem store2 {e : TypeId} {w : World} {base g n cap j : Nat} {xs : List L2} {c : L2} (h : OwnR lineE 2 e w base (.slice (some ⟨g, 0, none⟩) n cap) n xs) (hx : xs[j]? = some c) (x y : Int) :
    OwnR lineE 2 e ((w.setCell ⟨g, j * 2, none⟩ (.int .i64 x)).setCell ⟨g, j * 2 + 1, none⟩ (.int .i64 y)) base (.slice (some ⟨g, 0, none⟩) n cap) n (xs.set j (x, y)) ∧
    w.grownBy ((w.setCell ⟨g, j * 2, none⟩ (.int .i64 x)).setCell ⟨g, j * 2 + 1, none⟩ (.int .i64 y)) (some g) := by
  have hj : j < xs.length := (List.getElem?_eq_some_iff.1 hx).1
  have s0 := OwnR.store (f := 0) (u := .int .i64 x) (y := (x, c.2)) lineE_len h hx (by omega) rfl
  have x1 : (xs.set j (x, c.2))[j]? = some (x, c.2) := by simp [hj]
  have s1 := OwnR.store (f := 1) (u := .int .i64 y) (y := (x, y)) lineE_len s0.1 x1 (by omega) rfl
  rw [List.set_set] at s1
  exact ⟨s1.1, grownBy_trans s0.2 s1.2⟩

theorem markL_set (cs : List L2) (x0 : Int) (n k : Nat) (h : cs.length = n) (hk : k < n) (c : L2) :
    ((mkL x0 k ++ cs.drop k).set k (x0 + 2 * (k : Int), x0 + 2 * (k : Int) + 1)) = mkL x0 (k + 1) ++ cs.drop (k + 1) := by
  rw [List.drop_eq_getElem_cons (show k < cs.length by omega), set_mid _ _ (mkL_len _ _), mkL_succ]

end Go.Proofs.YtlemdjgpkmjihaaGreat