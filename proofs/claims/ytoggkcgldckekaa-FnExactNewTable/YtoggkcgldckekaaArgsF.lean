/-
  Arguments opened: a file that came in.
-/
import Derived.Test.YtoggkcgldckekaaRows
import Derived.Test.YtoggkcgldckekaaArgs
import Derived.ChangeSame
namespace Go.Proofs.Ytoggkcgldckekaa
open Go.ChangeShapes Go.WideShapes Go.ChangeAt Go.RowKit
set_option linter.unusedVariables false

/-- Cells that read as a slice of bytes. -/
theorem open_bytes_cells {P : Program} {H : Type} {enc : TypeId × Value → H} {W : World} {T E : TypeId} {cs : List Value} {x : DataW H × List MemPlace} {base fuel : Nat} {sp : Nat → Bool} {hd : Bool}
    (hT : P.underlying T = some (.slice E)) (hE : P.underlying E = some (.int .u8)) (hc : P.cellsOf E = 1) (hf : DataW.trod enc P W base sp hd fuel T cs = some x) :
    ∃ a len cap xs, cs = [.slice a len cap] ∧ Rd .u8 W a len xs ∧ Bytes xs ∧ len ≤ cap ∧ cap ≤ maxLen := by
  rcases open_ints hT hE hc hf with ⟨hcs, _⟩ | ⟨x, l, c, zs, hcs, _, hl, hm, hz, _, hcell, hwz⟩
  · exact ⟨none, 0, 0, [], hcs, ⟨rfl, .inl rfl⟩, fun x hx => by simp at hx, by omega, by simp [maxLen]⟩
  · have hzl : l ≤ zs.length := by rw [hz]; split <;> omega
    refine ⟨some x, l, c, zs.take l, hcs, ⟨by simp; omega, ?_⟩, fun y hy => bytes_of_wf hwz y (List.mem_of_mem_take hy), hl, hm⟩
    by_cases h0 : l = 0
    · exact .inl h0
    · obtain ⟨b, off, spot⟩ := x
      have hc0 := hcell 0 (by omega)
      have hspot : spot = none := by simpa [Addr.add] using World.cell?_spot hc0
      subst hspot
      refine .inr ⟨b, off, rfl, fun j hj => ?_⟩
      have := hcell j (by omega)
      rw [Addr.add_lit] at this
      rw [this]
      simp [List.getD_eq_getElem?_getD, hj]

end Go.Proofs.Ytoggkcgldckekaa