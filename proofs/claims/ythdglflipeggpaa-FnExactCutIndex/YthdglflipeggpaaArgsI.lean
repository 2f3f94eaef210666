/-
  Arguments opened: an index that came in.
-/
import Derived.Test.YthdglflipeggpaaRows
import Derived.Test.YthdglflipeggpaaArgs
import Derived.ChangeSame
namespace Go.Proofs.Ythdglflipeggpaa
open Go.ChangeShapes Go.WideShapes Go.ChangeAt Go.RowKit
set_option linter.unusedVariables false

/-- Cells that read as a slice of integers. -/
theorem open_ints_cells {P : Program} {H : Type} {enc : TypeId × Value → H} {W : World} {T E : TypeId} {cs : List Value} {x : DataW H × List MemPlace} {base fuel : Nat} {sp : Nat → Bool} {hd : Bool}
    (hT : P.underlying T = some (.slice E)) (hE : P.underlying E = some (.int .i64)) (hc : P.cellsOf E = 1) (hf : DataW.trod enc P W base sp hd fuel T cs = some x) :
    ∃ a len cap xs, cs = [.slice a len cap] ∧ Rd .i64 W a len xs ∧ len ≤ cap ∧ cap ≤ maxLen := by
  rcases open_ints hT hE hc hf with ⟨hcs, _⟩ | ⟨x, l, c, zs, hcs, _, hl, hm, hz, _, hcell, hwz⟩
  · exact ⟨none, 0, 0, [], hcs, ⟨rfl, .inl rfl⟩, by omega, by simp [maxLen]⟩
  · have hzl : l ≤ zs.length := by rw [hz]; split <;> omega
    refine ⟨some x, l, c, zs.take l, hcs, ⟨by simp; omega, ?_⟩, hl, hm⟩
    by_cases h0 : l = 0
    · exact .inl h0
    · obtain ⟨b, off, spot⟩ := x
      have hc0 := hcell 0 (by omega)
      have hspot : spot = none := by simpa [Addr.add] using World.cell?_spot hc0
      subst hspot
      refine .inr ⟨b, off, rfl, fun j hj => ?_⟩
      have := hcell j (by omega)
      rw [Addr.add_lit] at this
      rw [this]
      simp [List.getD_eq_getElem?_getD, hj]

theorem trod_struct4 {P : Program} {H : Type} {enc : TypeId × Value → H} {w : World} {base : Nat} {spare : Nat → Bool} {held : Bool} {t : TypeId} {f0 f1 f2 f3 : Field} {fuel : Nat} {cs : List Value} {x : DataW H × List MemPlace} (ht : P.underlying t = some (.struct #[f0, f1, f2, f3])) (h : DataW.trod enc P w base spare held fuel t cs = some x) :
    ∃ y0 y1 y2 y3 n, cs.length = P.cellsOf t ∧ DataW.trod enc P w base spare held n f0.type ((cs.drop f0.offset).take (P.cellsOf f0.type)) = some y0 ∧ DataW.trod enc P w base spare held n f1.type ((cs.drop f1.offset).take (P.cellsOf f1.type)) = some y1 ∧
      DataW.trod enc P w base spare held n f2.type ((cs.drop f2.offset).take (P.cellsOf f2.type)) = some y2 ∧ DataW.trod enc P w base spare held n f3.type ((cs.drop f3.offset).take (P.cellsOf f3.type)) = some y3 := by
  obtain ⟨xs, n, _, rfl, hl, hlen, hf⟩ := DataW.trod_struct ht h
  match xs, hlen with
  | [y0, y1, y2, y3], _ => exact ⟨y0, y1, y2, y3, n, hl, by simpa using hf 0 f0 rfl, by simpa using hf 1 f1 rfl, by simpa using hf 2 f2 rfl, by simpa using hf 3 f3 rfl⟩

set_option maxRecDepth 100000 in
theorem open_index {H : Type} {enc : TypeId × Value → H} {W : World} {v : Value} {d : DataW H} {p : List MemPlace} {base b0 : Nat} {r : Reach} {sp : Nat → Bool} {hd : Bool}
    (hv : Value.okWide Try.prog W r b0 44 v) (h : DataW.Trod enc Try.prog W base sp hd 44 v d p) :
    ∃ e a len cap xs l z, v = .agg #[.int .i64 e, .slice a len cap, .int .i64 l, .int .i64 z] ∧ Rd .i64 W a len xs ∧ len ≤ maxLen := by
  obtain ⟨cs, rfl, hcs⟩ := okWide_struct Try.underlying44 hv
  obtain ⟨fuel, hf⟩ := h
  obtain ⟨y0, y1, y2, y3, m, _, h0, h1, h2, h3⟩ := trod_struct4 Try.underlying44 hf
  have hc1 : Try.prog.cellsOf 44 = 4 := by kernel_rfl
  have k0 : Try.prog.cellsOf 2 = 1 := by kernel_rfl
  have k1 : Try.prog.cellsOf 24 = 1 := by kernel_rfl
  rw [hc1] at hcs
  obtain ⟨e0, e1, e2, e3, rfl⟩ : ∃ e0 e1 e2 e3, cs = #[e0, e1, e2, e3] := by
    obtain ⟨l⟩ := cs
    match l, hcs with
    | [e0, e1, e2, e3], _ => exact ⟨e0, e1, e2, e3, rfl⟩
  simp only [Value.cells, k0, k1] at h0 h1 h2 h3
  obtain ⟨u, hu, _⟩ := DataW.trod_int Try.underlying2 h0
  obtain ⟨l, hl, _⟩ := DataW.trod_int Try.underlying2 h2
  obtain ⟨z, hz, _⟩ := DataW.trod_int Try.underlying2 h3
  obtain ⟨a, len, cap, xs, hx, hr, hlc, hcm⟩ := open_ints_cells (T := 24) Try.underlying24 Try.underlying2 (by kernel_rfl) h1
  simp at hu hl hz hx
  subst hu hl hz hx
  exact ⟨u, a, len, cap, xs, l, z, rfl, hr, by omega⟩
end Go.Proofs.Ythdglflipeggpaa
