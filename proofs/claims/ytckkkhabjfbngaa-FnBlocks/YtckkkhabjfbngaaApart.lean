/-
  A row is kept by what turns in a box of another type.
-/
import Derived.Test.YtckkkhabjfbngaaBlk
import Derived.Test.YtckkkhabjfbngaaBox
namespace Go.Proofs.Ytckkkhabjfbngaa
open Go.RowKit
set_option linter.unusedVariables false

theorem ownsRow_apart {w w' : World} {lo : Nat} {e : TypeId} {size n : Nat} {v : Value} {xs : List Value} {B : Nat} {cs : Array Value} {t : TypeId} (h : w.ownsRow lo e size v n xs) (hb : Blk w B cs t) (ht : t ≠ e) (hg : w.grownBy w' (some B)) : w'.ownsRow lo e size v n xs := by
  have hlt := World.ownsRow.lt h
  obtain ⟨h1, h2⟩ := h
  refine ⟨h1, ?_⟩
  rcases h2 with h2 | ⟨g, cap, cur, rfl, hgl, hh, r⟩
  · exact Or.inl h2
  · have hne : g ≠ B := fun q => by
      subst q
      have hb' : w.heap[g]? = some (.cells cs t (0, 0)) := hb
      rw [hh] at hb'
      simp at hb'
      exact ht hb'.2.symm
    exact Or.inr ⟨g, cap, cur, rfl, hgl, (hg.block g (hlt g rfl).2 (by simpa using hne)).trans hh, r⟩

theorem RowI.apart {k : IntKind} {e : TypeId} {w w' : World} {lo hi n : Nat} {v : Value} {xs : List Int} {B : Nat} {cs : Array Value} {t : TypeId} (h : RowI k e w lo hi v n xs) (hb : Blk w B cs t) (ht : t ≠ e) (hg : w.grownBy w' (some B)) : RowI k e w' lo hi v n xs := ⟨ownsRow_apart h.1 hb ht hg, h.2⟩

theorem RowB.apart {eB eU : TypeId} {w w' : World} {lo hi n : Nat} {v : Value} {bs : List Bk} {B : Nat} {cs : Array Value} {t : TypeId} (h : RowB eB eU w lo hi v n bs) (hb : Blk w B cs t) (h1 : t ≠ eB) (h2 : t ≠ eU) (hg : w.grownBy w' (some B)) : RowB eB eU w' lo hi v n bs := by
  obtain ⟨us, k1, k2, k3, k4⟩ := h
  exact ⟨us, ⟨⟨k1.1.1, ownsRow_apart k1.1.2 hb h1 hg⟩, k1.2⟩, k2, fun j u b hu hv => ⟨(k3 j u b hu hv).1, (k3 j u b hu hv).2.apart hb h2 hg⟩, k4⟩
end Go.Proofs.Ytckkkhabjfbngaa
