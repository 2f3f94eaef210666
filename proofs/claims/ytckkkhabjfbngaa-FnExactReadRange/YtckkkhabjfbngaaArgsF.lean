/-
  Arguments opened: a file that came in.
-/
import Derived.Test.YtckkkhabjfbngaaRows
import Derived.Test.YtckkkhabjfbngaaArgs
import Derived.ChangeSame
namespace Go.Proofs.Ytckkkhabjfbngaa
open Go.ChangeShapes Go.WideShapes Go.ChangeAt Go.RowKit
set_option linter.unusedVariables false

/-- Cells that read as a slice of bytes. -/
theorem open_bytes_cells {P : Program} {H : Type} {enc : TypeId × Value → H} {W : World} {T E : TypeId} {cs : List Value} {x : DataW H × List MemPlace} {base fuel : Nat} {sp : Nat → Bool} {hd : Bool}
    (hT : P.underlying T = some (.slice E)) (hE : P.underlying E = some (.int .u8)) (hc : P.cellsOf E = 1) (hf : DataW.trod enc P W base sp hd fuel T cs = some x) :
    ∃ a len cap xs, cs = [.slice a len cap] ∧ Rd .u8 W a len xs ∧ Bytes xs ∧ len ≤ cap ∧ cap ≤ maxLen := by
  rcases open_ints hT hE hc hf with ⟨hcs, _⟩ | ⟨x, l, c, zs, hcs, _, hl, hm, hz, _, hcell, hwz⟩
  · exact ⟨none, 0, 0, [], hcs, ⟨rfl, .inl rfl⟩, fun x hx => by simp at hx, by omega, by simp [maxLen]⟩
  · have hzl : l ≤ zs.length := by rw [hz]; split <;> omega
    refine ⟨some x, l, c, zs.take l, hcs, ⟨by simp; omega, ?_⟩, fun y hy => bytes_of_wf hwz y (List.mem_of_mem_take hy), hl, hm⟩
    by_cases h0 : l = 0
    · exact .inl h0
    · obtain ⟨b, off, spot⟩ := x
      have hc0 := hcell 0 (by omega)
      have hspot : spot = none := by simpa [Addr.add] using World.cell?_spot hc0
      subst hspot
      refine .inr ⟨b, off, rfl, fun j hj => ?_⟩
      have := hcell j (by omega)
      rw [Addr.add_lit] at this
      rw [this]
      simp [List.getD_eq_getElem?_getD, hj]

set_option maxRecDepth 100000 in
theorem open_file {H : Type} {enc : TypeId × Value → H} {W : World} {v : Value} {d : DataW H} {p : List MemPlace} {base b0 : Nat} {r : Reach} {sp : Nat → Bool} {hd : Bool}
    (hv : Value.okWide Try.prog W r b0 62 v) (h : DataW.Trod enc Try.prog W base sp hd 62 v d p) :
    ∃ a len cap xs, v = .agg #[.slice a len cap] ∧ Rd .u8 W a len xs ∧ Bytes xs ∧ len ≤ maxLen := by
  obtain ⟨cs, rfl, hcs⟩ := okWide_struct Try.underlying62 hv
  obtain ⟨fuel, hf⟩ := h
  obtain ⟨y0, m, _, hl, hy⟩ := trod_struct1 Try.underlying62 hf
  have hc1 : Try.prog.cellsOf 62 = 1 := by kernel_rfl
  rw [hc1] at hcs
  obtain ⟨u, rfl⟩ : ∃ u, cs = #[u] := by
    obtain ⟨l⟩ := cs
    match l, hcs with
    | [u], _ => exact ⟨u, rfl⟩
  obtain ⟨a, len, cap, xs, hu, h1, h2, h3, h4⟩ := open_bytes_cells (T := 22) Try.underlying22 Try.underlying5 (by kernel_rfl) hy
  have hk : Try.prog.cellsOf 22 = 1 := by kernel_rfl
  refine ⟨a, len, cap, xs, ?_, h1, h2, by omega⟩
  simp only [Value.cells, hk] at hu
  simpa using hu
end Go.Proofs.Ytckkkhabjfbngaa
