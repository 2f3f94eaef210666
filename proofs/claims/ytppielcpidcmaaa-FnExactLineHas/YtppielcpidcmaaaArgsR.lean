/-
  Arguments opened into the words of Rows2: a slice of structs that came in.
-/
import Derived.Test.YtppielcpidcmaaaRows2
import Derived.ProofKit
import Derived.OpenShut
import Derived.ChangeOld
import Derived.Below
import Derived.Deep.Slices
import Derived.Deep.Strs
namespace Go.Proofs.Ytppielcpidcmaaa
open Go.ChangeShapes Go.WideShapes Go.ChangeAt Go.RowKit
set_option linter.unusedVariables false

/-- A slice whose elements are read by 'dec' into α. -/
theorem open_rows {α : Type} [Inhabited α] (ce : α → List Value) (size : Nat) (good : α → Prop) {P : Program} {H : Type} {enc : TypeId × Value → H} {W : World} {T E : TypeId} {a : Option Addr} {len cap : Nat} {d : DataW H} {p : List MemPlace} {base : Nat} {sp : Nat → Bool} {hd : Bool}
    (hT : P.underlying T = some (.slice E)) (hc : P.cellsOf E = size) (hs : ∀ x, (ce x).length = size) (hpos : 0 < size)
    (hel : ∀ (n : Nat) (cs : List Value) (x : DataW H × List MemPlace), DataW.trod enc P W base sp hd n E cs = some x → ∃ y, cs = ce y ∧ good y)
    (h : DataW.Trod enc P W base sp hd T (.slice a len cap) d p) :
    ∃ ys : List α, RdR ce size W a len ys ∧ (∀ y ∈ ys, good y) ∧ len ≤ cap ∧ cap ≤ maxLen := by
  obtain ⟨fuel, hf⟩ := h
  rcases Deep.open_slice hT hf with ⟨hcs, _⟩ | ⟨x, l, c, m, n, D, Pl, hcs, hb, hl, hm, hmm, _, hx⟩
  · simp [Value.cells] at hcs
    obtain ⟨rfl, rfl, rfl⟩ := hcs
    exact ⟨[], ⟨rfl, .inl rfl⟩, fun y hy => by simp at hy, Nat.le_refl _, by simp [maxLen]⟩
  · simp [Value.cells] at hcs
    obtain ⟨rfl, rfl, rfl⟩ := hcs
    have hlm : len ≤ m := by rw [hmm]; split <;> omega
    obtain ⟨Y, hY⟩ := Deep.choose_lt (α := α) (n := len) (p := fun i y => good y ∧ ∀ f v, (ce y)[f]? = some v → W.cell? (x.add (i * size + f)) = some v) (fun i hi => by
      obtain ⟨cs', h1, h2⟩ := hx i (by omega)
      obtain ⟨y, rfl, hg⟩ := hel _ _ _ h2
      refine ⟨y, hg, fun f v hv => ?_⟩
      have hf : f < size := by rw [← hs y]; exact (List.getElem?_eq_some_iff.1 hv).1
      have h3 := (World.cells?_some h1).2.2 f (by rw [hc]; exact hf)
      rw [Deep.add_add, hc] at h3
      rw [h3]
      exact hv)
    refine ⟨(List.range len).map Y, ⟨by simp, ?_⟩, ?_, hl, hm⟩
    · by_cases h0 : len = 0
      · exact .inl h0
      · obtain ⟨b, off, spot⟩ := x
        have hspot : spot = none := by
          have hlen0 : 0 < (ce (Y 0)).length := by rw [hs]; exact hpos
          have := (hY 0 (by omega)).2 0 _ (List.getElem?_eq_getElem hlen0)
          simpa [Addr.add] using World.cell?_spot this
        subst hspot
        refine .inr ⟨b, off, rfl, fun j y hy f v hv => ?_⟩
        have hj : j < len := by have := (List.getElem?_eq_some_iff.1 hy).1; simpa using this
        have hyj : y = Y j := by simp [hj] at hy; exact hy.symm
        subst hyj
        have := (hY j hj).2 f v hv
        rw [Addr.add_lit] at this
        rw [Nat.add_assoc]
        exact this
    · intro y hy
      obtain ⟨i, hi, rfl⟩ := List.mem_map.1 hy
      exact (hY i (by simpa using hi)).1

/-- A struct of three integers of one kind. -/
theorem open_three {P : Program} {H : Type} {enc : TypeId × Value → H} {W : World} {E t : TypeId} {f0 f1 f2 : Field} {base : Nat} {sp : Nat → Bool} {hd : Bool} {n : Nat} {cs : List Value} {x : DataW H × List MemPlace}
    (hE : P.underlying E = some (.struct #[f0, f1, f2])) (ht : P.underlying t = some (.int .i64)) (hc : P.cellsOf t = 1) (hcE : P.cellsOf E = 3)
    (t0 : f0.type = t) (t1 : f1.type = t) (t2 : f2.type = t) (o0 : f0.offset = 0) (o1 : f1.offset = 1) (o2 : f2.offset = 2)
    (h : DataW.trod enc P W base sp hd n E cs = some x) : ∃ a b c : Int, cs = [.int .i64 a, .int .i64 b, .int .i64 c] := by
  obtain ⟨y0, y1, y2, m, _, hl, h0, h1, h2⟩ := Deep.trod_struct3 hE h
  rw [hcE] at hl
  rw [t0, o0, hc] at h0
  rw [t1, o1, hc] at h1
  rw [t2, o2, hc] at h2
  match cs, hl with
  | [u, v, z], _ =>
    obtain ⟨a, ha, _⟩ := DataW.trod_int ht h0
    obtain ⟨b, hb, _⟩ := DataW.trod_int ht h1
    obtain ⟨c, hc', _⟩ := DataW.trod_int ht h2
    simp at ha hb hc'
    exact ⟨a, b, c, by rw [ha, hb, hc']⟩
end Go.Proofs.Ytppielcpidcmaaa
