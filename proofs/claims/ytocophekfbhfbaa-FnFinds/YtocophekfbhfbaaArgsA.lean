/-
  Args, ArgsR, ArgsF, NodeA, ArgsN in one text.
-/
import Derived.ProofKit
import Derived.OpenShut
import Derived.ChangeOld
import Derived.Below
import Derived.Deep.Slices
import Derived.Deep.Strs
import Derived.ChangeSame
import Derived.Carry
import Derived.Test.YtocophekfbhfbaaBase
import Derived.Test.YtocophekfbhfbaaMath2
import Derived.Test.YtocophekfbhfbaaRows2
import Derived.Test.YtocophekfbhfbaaRows
import Derived.Test.YtocophekfbhfbaaNodeM
import Derived.Test.YtocophekfbhfbaaInstM
namespace Go.Proofs.Ytocophekfbhfbaa
open Go.ChangeShapes Go.WideShapes Go.ChangeAt Go.RowKit
set_option linter.unusedVariables false

theorem bytes_of_wf {zs : List Int} (h : ∀ n ∈ zs, (Lit.int .u8 n).wf = true) : Bytes zs := by
  intro x hx
  have := h x hx
  simpa [Lit.wf, IntKind.min, IntKind.max, IntKind.signed, IntKind.bits] using this

theorem open_bytes {P : Program} {H : Type} {enc : TypeId × Value → H} {W : World} {T E : TypeId} {a : Option Addr} {len cap : Nat} {d : DataW H} {p : List MemPlace} {sp : Nat → Bool} {hd : Bool}
    (hT : P.underlying T = some (.slice E)) (hE : P.underlying E = some (.int .u8)) (hc : P.cellsOf E = 1) (h : DataW.Trod enc P W 0 sp hd T (.slice a len cap) d p) :
    ∃ xs, Rd .u8 W a len xs ∧ Bytes xs ∧ len ≤ maxLen := by
  obtain ⟨fuel, hf⟩ := h
  rcases open_ints hT hE hc hf with ⟨hcs, _⟩ | ⟨x, l, c, zs, hcs, _, hl, hm, hz, _, hcell, hwz⟩
  · simp [Value.cells] at hcs
    obtain ⟨rfl, rfl, rfl⟩ := hcs
    exact ⟨[], ⟨rfl, .inl rfl⟩, fun x hx => by simp at hx, by simp [maxLen]⟩
  · simp [Value.cells] at hcs
    obtain ⟨rfl, rfl, rfl⟩ := hcs
    have hzl : len ≤ zs.length := by rw [hz]; split <;> omega
    refine ⟨zs.take len, ⟨by simp; omega, ?_⟩, fun y hy => bytes_of_wf hwz y (List.mem_of_mem_take hy), by omega⟩
    by_cases h0 : len = 0
    · exact .inl h0
    · obtain ⟨b, off, spot⟩ := x
      have hc0 := hcell 0 (by omega)
      have hspot : spot = none := by simpa [Addr.add] using World.cell?_spot hc0
      subst hspot
      refine .inr ⟨b, off, rfl, fun j hj => ?_⟩
      have := hcell j (by omega)
      rw [Addr.add_lit] at this
      rw [this]
      simp [List.getD_eq_getElem?_getD, hj]
end Go.Proofs.Ytocophekfbhfbaa

namespace Go.Proofs.Ytocophekfbhfbaa
open Go.ChangeShapes Go.WideShapes Go.ChangeAt Go.RowKit
set_option linter.unusedVariables false

/-- A slice whose elements are read by 'dec' into α. -/
theorem open_rows {α : Type} [Inhabited α] (ce : α → List Value) (size : Nat) (good : α → Prop) {P : Program} {H : Type} {enc : TypeId × Value → H} {W : World} {T E : TypeId} {a : Option Addr} {len cap : Nat} {d : DataW H} {p : List MemPlace} {base : Nat} {sp : Nat → Bool} {hd : Bool}
    (hT : P.underlying T = some (.slice E)) (hc : P.cellsOf E = size) (hs : ∀ x, (ce x).length = size) (hpos : 0 < size)
    (hel : ∀ (n : Nat) (cs : List Value) (x : DataW H × List MemPlace), DataW.trod enc P W base sp hd n E cs = some x → ∃ y, cs = ce y ∧ good y)
    (h : DataW.Trod enc P W base sp hd T (.slice a len cap) d p) :
    ∃ ys : List α, RdR ce size W a len ys ∧ (∀ y ∈ ys, good y) ∧ len ≤ cap ∧ cap ≤ maxLen := by
  obtain ⟨fuel, hf⟩ := h
  rcases Deep.open_slice hT hf with ⟨hcs, _⟩ | ⟨x, l, c, m, n, D, Pl, hcs, hb, hl, hm, hmm, _, hx⟩
  · simp [Value.cells] at hcs
    obtain ⟨rfl, rfl, rfl⟩ := hcs
    exact ⟨[], ⟨rfl, .inl rfl⟩, fun y hy => by simp at hy, Nat.le_refl _, by simp [maxLen]⟩
  · simp [Value.cells] at hcs
    obtain ⟨rfl, rfl, rfl⟩ := hcs
    have hlm : len ≤ m := by rw [hmm]; split <;> omega
    obtain ⟨Y, hY⟩ := Deep.choose_lt (α := α) (n := len) (p := fun i y => good y ∧ ∀ f v, (ce y)[f]? = some v → W.cell? (x.add (i * size + f)) = some v) (fun i hi => by
      obtain ⟨cs', h1, h2⟩ := hx i (by omega)
      obtain ⟨y, rfl, hg⟩ := hel _ _ _ h2
      refine ⟨y, hg, fun f v hv => ?_⟩
      have hf : f < size := by rw [← hs y]; exact (List.getElem?_eq_some_iff.1 hv).1
      have h3 := (World.cells?_some h1).2.2 f (by rw [hc]; exact hf)
      rw [Deep.add_add, hc] at h3
      rw [h3]
      exact hv)
    refine ⟨(List.range len).map Y, ⟨by simp, ?_⟩, ?_, hl, hm⟩
    · by_cases h0 : len = 0
      · exact .inl h0
      · obtain ⟨b, off, spot⟩ := x
        have hspot : spot = none := by
          have hlen0 : 0 < (ce (Y 0)).length := by rw [hs]; exact hpos
          have := (hY 0 (by omega)).2 0 _ (List.getElem?_eq_getElem hlen0)
          simpa [Addr.add] using World.cell?_spot this
        subst hspot
        refine .inr ⟨b, off, rfl, fun j y hy f v hv => ?_⟩
        have hj : j < len := by have := (List.getElem?_eq_some_iff.1 hy).1; simpa using this
        have hyj : y = Y j := by simp [hj] at hy; exact hy.symm
        subst hyj
        have := (hY j hj).2 f v hv
        rw [Addr.add_lit] at this
        rw [Nat.add_assoc]
        exact this
    · intro y hy
      obtain ⟨i, hi, rfl⟩ := List.mem_map.1 hy
      exact (hY i (by simpa using hi)).1

/-- A struct of three integers of one kind. -/
theorem open_three {P : Program} {H : Type} {enc : TypeId × Value → H} {W : World} {E t : TypeId} {f0 f1 f2 : Field} {base : Nat} {sp : Nat → Bool} {hd : Bool} {n : Nat} {cs : List Value} {x : DataW H × List MemPlace}
    (hE : P.underlying E = some (.struct #[f0, f1, f2])) (ht : P.underlying t = some (.int .i64)) (hc : P.cellsOf t = 1) (hcE : P.cellsOf E = 3)
    (t0 : f0.type = t) (t1 : f1.type = t) (t2 : f2.type = t) (o0 : f0.offset = 0) (o1 : f1.offset = 1) (o2 : f2.offset = 2)
    (h : DataW.trod enc P W base sp hd n E cs = some x) : ∃ a b c : Int, cs = [.int .i64 a, .int .i64 b, .int .i64 c] := by
  obtain ⟨y0, y1, y2, m, _, hl, h0, h1, h2⟩ := Deep.trod_struct3 hE h
  rw [hcE] at hl
  rw [t0, o0, hc] at h0
  rw [t1, o1, hc] at h1
  rw [t2, o2, hc] at h2
  match cs, hl with
  | [u, v, z], _ =>
    obtain ⟨a, ha, _⟩ := DataW.trod_int ht h0
    obtain ⟨b, hb, _⟩ := DataW.trod_int ht h1
    obtain ⟨c, hc', _⟩ := DataW.trod_int ht h2
    simp at ha hb hc'
    exact ⟨a, b, c, by rw [ha, hb, hc']⟩
end Go.Proofs.Ytocophekfbhfbaa

namespace Go.Proofs.Ytocophekfbhfbaa
open Go.ChangeShapes Go.WideShapes Go.ChangeAt Go.RowKit
set_option linter.unusedVariables false

/-- Cells that read as a slice of bytes. -/
theorem open_bytes_cells {P : Program} {H : Type} {enc : TypeId × Value → H} {W : World} {T E : TypeId} {cs : List Value} {x : DataW H × List MemPlace} {base fuel : Nat} {sp : Nat → Bool} {hd : Bool}
    (hT : P.underlying T = some (.slice E)) (hE : P.underlying E = some (.int .u8)) (hc : P.cellsOf E = 1) (hf : DataW.trod enc P W base sp hd fuel T cs = some x) :
    ∃ a len cap xs, cs = [.slice a len cap] ∧ Rd .u8 W a len xs ∧ Bytes xs ∧ len ≤ cap ∧ cap ≤ maxLen := by
  rcases open_ints hT hE hc hf with ⟨hcs, _⟩ | ⟨x, l, c, zs, hcs, _, hl, hm, hz, _, hcell, hwz⟩
  · exact ⟨none, 0, 0, [], hcs, ⟨rfl, .inl rfl⟩, fun x hx => by simp at hx, by omega, by simp [maxLen]⟩
  · have hzl : l ≤ zs.length := by rw [hz]; split <;> omega
    refine ⟨some x, l, c, zs.take l, hcs, ⟨by simp; omega, ?_⟩, fun y hy => bytes_of_wf hwz y (List.mem_of_mem_take hy), hl, hm⟩
    by_cases h0 : l = 0
    · exact .inl h0
    · obtain ⟨b, off, spot⟩ := x
      have hc0 := hcell 0 (by omega)
      have hspot : spot = none := by simpa [Addr.add] using World.cell?_spot hc0
      subst hspot
      refine .inr ⟨b, off, rfl, fun j hj => ?_⟩
      have := hcell j (by omega)
      rw [Addr.add_lit] at this
      rw [this]
      simp [List.getD_eq_getElem?_getD, hj]

end Go.Proofs.Ytocophekfbhfbaa

namespace Go.Proofs.Ytocophekfbhfbaa
open Go.ChangeShapes Go.WideShapes Go.ChangeAt Go.RowKit
set_option linter.unusedVariables false

/-- The five cells of a node that came in. -/
theorem open_five {P : Program} {H : Type} {enc : TypeId × Value → H} {W : World} {E t u : TypeId} {f0 f1 f2 f3 f4 : Field} {base : Nat} {sp : Nat → Bool} {hd : Bool} {n : Nat} {cs : List Value} {x : DataW H × List MemPlace}
    (hE : P.underlying E = some (.struct #[f0, f1, f2, f3, f4])) (ht : P.underlying t = some (.int .i64)) (hu : P.underlying u = some .string) (hc : P.cellsOf t = 1) (hcu : P.cellsOf u = 1) (hcE : P.cellsOf E = 5)
    (t0 : f0.type = t) (t1 : f1.type = t) (t2 : f2.type = u) (t3 : f3.type = t) (t4 : f4.type = t) (o0 : f0.offset = 0) (o1 : f1.offset = 1) (o2 : f2.offset = 2) (o3 : f3.offset = 3) (o4 : f4.offset = 4)
    (h : DataW.trod enc P W base sp hd n E cs = some x) : ∃ y : Nd, cs = ndE y ∧ y.s.size ≤ maxLen := by
  obtain ⟨xs, m, _, rfl, hl, hlen, hf⟩ := DataW.trod_struct hE h
  match xs, hlen with
  | [y0, y1, y2, y3, y4], _ =>
    have h0 : DataW.trod enc P W base sp hd m f0.type ((cs.drop f0.offset).take (P.cellsOf f0.type)) = some y0 := by simpa using hf 0 f0 rfl
    have h1 : DataW.trod enc P W base sp hd m f1.type ((cs.drop f1.offset).take (P.cellsOf f1.type)) = some y1 := by simpa using hf 1 f1 rfl
    have h2 : DataW.trod enc P W base sp hd m f2.type ((cs.drop f2.offset).take (P.cellsOf f2.type)) = some y2 := by simpa using hf 2 f2 rfl
    have h3 : DataW.trod enc P W base sp hd m f3.type ((cs.drop f3.offset).take (P.cellsOf f3.type)) = some y3 := by simpa using hf 3 f3 rfl
    have h4 : DataW.trod enc P W base sp hd m f4.type ((cs.drop f4.offset).take (P.cellsOf f4.type)) = some y4 := by simpa using hf 4 f4 rfl
    rw [hcE] at hl
    rw [t0, o0, hc] at h0
    rw [t1, o1, hc] at h1
    rw [t2, o2, hcu] at h2
    rw [t3, o3, hc] at h3
    rw [t4, o4, hc] at h4
    match cs, hl with
    | [u0, u1, u2, u3, u4], _ =>
      obtain ⟨a, ha, _⟩ := DataW.trod_int ht h0
      obtain ⟨b, hb, _⟩ := DataW.trod_int ht h1
      obtain ⟨s, hs, _, hsz⟩ := DataW.trod_string hu h2
      obtain ⟨c, hc', _⟩ := DataW.trod_int ht h3
      obtain ⟨d, hd', _⟩ := DataW.trod_int ht h4
      simp at ha hb hs hc' hd'
      exact ⟨⟨a, b, s, c, d⟩, by rw [ha, hb, hs, hc', hd']; rfl, hsz⟩

end Go.Proofs.Ytocophekfbhfbaa

namespace Go.Proofs.Ytocophekfbhfbaa
open Go.ChangeShapes Go.WideShapes Go.ChangeAt Go.RowKit
set_option linter.unusedVariables false

/-- A slice of integers, opened. -/
theorem open_int64s {H : Type} {enc : TypeId × Value → H} {W : World} {a : Option Addr} {len cap : Nat} {d : DataW H} {p : List MemPlace} {base : Nat} {sp : Nat → Bool} {hd : Bool}
    (h : DataW.Trod enc Try.prog W base sp hd 60 (.slice a len cap) d p) : ∃ xs : List Int, Rd .i64 W a len xs ∧ len ≤ cap ∧ cap ≤ maxLen := by
  obtain ⟨fuel, hf⟩ := h
  rcases open_ints Try.underlying60 Try.underlying2 (by kernel_rfl) hf with ⟨hcs, _⟩ | ⟨x, l, c, zs, hcs, _, hl, hm, hz, _, hcell, hwz⟩
  · simp [Value.cells] at hcs
    obtain ⟨rfl, rfl, rfl⟩ := hcs
    exact ⟨[], ⟨rfl, .inl rfl⟩, Nat.le_refl _, by simp [maxLen]⟩
  · simp [Value.cells] at hcs
    obtain ⟨rfl, rfl, rfl⟩ := hcs
    have hzl : len ≤ zs.length := by rw [hz]; split <;> omega
    refine ⟨zs.take len, ⟨by simp; omega, ?_⟩, hl, hm⟩
    by_cases h0 : len = 0
    · exact .inl h0
    · obtain ⟨b, off, spot⟩ := x
      have hc0 := hcell 0 (by omega)
      have hspot : spot = none := by simpa [Addr.add] using World.cell?_spot hc0
      subst hspot
      refine .inr ⟨b, off, rfl, fun j hj => ?_⟩
      have := hcell j (by omega)
      rw [Addr.add_lit] at this
      rw [this]
      simp [List.getD_eq_getElem?_getD, hj]
end Go.Proofs.Ytocophekfbhfbaa
