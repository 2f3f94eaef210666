/-
  Arguments opened: a node, a slice of nodes.
-/
import Derived.Test.YtppielcpidcmaaaRows
import Derived.Test.YtppielcpidcmaaaNodeM
import Derived.Test.YtppielcpidcmaaaArgsR
namespace Go.Proofs.Ytppielcpidcmaaa
open Go.ChangeShapes Go.WideShapes Go.ChangeAt Go.RowKit
set_option linter.unusedVariables false

/-- The five cells of a node that came in. -/
theorem open_five {P : Program} {H : Type} {enc : TypeId × Value → H} {W : World} {E t u : TypeId} {f0 f1 f2 f3 f4 : Field} {base : Nat} {sp : Nat → Bool} {hd : Bool} {n : Nat} {cs : List Value} {x : DataW H × List MemPlace}
    (hE : P.underlying E = some (.struct #[f0, f1, f2, f3, f4])) (ht : P.underlying t = some (.int .i64)) (hu : P.underlying u = some .string) (hc : P.cellsOf t = 1) (hcu : P.cellsOf u = 1) (hcE : P.cellsOf E = 5)
    (t0 : f0.type = t) (t1 : f1.type = t) (t2 : f2.type = u) (t3 : f3.type = t) (t4 : f4.type = t) (o0 : f0.offset = 0) (o1 : f1.offset = 1) (o2 : f2.offset = 2) (o3 : f3.offset = 3) (o4 : f4.offset = 4)
    (h : DataW.trod enc P W base sp hd n E cs = some x) : ∃ y : Nd, cs = ndE y ∧ y.s.size ≤ maxLen := by
  obtain ⟨xs, m, _, rfl, hl, hlen, hf⟩ := DataW.trod_struct hE h
  match xs, hlen with
  | [y0, y1, y2, y3, y4], _ =>
    have h0 : DataW.trod enc P W base sp hd m f0.type ((cs.drop f0.offset).take (P.cellsOf f0.type)) = some y0 := by simpa using hf 0 f0 rfl
    have h1 : DataW.trod enc P W base sp hd m f1.type ((cs.drop f1.offset).take (P.cellsOf f1.type)) = some y1 := by simpa using hf 1 f1 rfl
    have h2 : DataW.trod enc P W base sp hd m f2.type ((cs.drop f2.offset).take (P.cellsOf f2.type)) = some y2 := by simpa using hf 2 f2 rfl
    have h3 : DataW.trod enc P W base sp hd m f3.type ((cs.drop f3.offset).take (P.cellsOf f3.type)) = some y3 := by simpa using hf 3 f3 rfl
    have h4 : DataW.trod enc P W base sp hd m f4.type ((cs.drop f4.offset).take (P.cellsOf f4.type)) = some y4 := by simpa using hf 4 f4 rfl
    rw [hcE] at hl
    rw [t0, o0, hc] at h0
    rw [t1, o1, hc] at h1
    rw [t2, o2, hcu] at h2
    rw [t3, o3, hc] at h3
    rw [t4, o4, hc] at h4
    match cs, hl with
    | [u0, u1, u2, u3, u4], _ =>
      obtain ⟨a, ha, _⟩ := DataW.trod_int ht h0
      obtain ⟨b, hb, _⟩ := DataW.trod_int ht h1
      obtain ⟨s, hs, _, hsz⟩ := DataW.trod_string hu h2
      obtain ⟨c, hc', _⟩ := DataW.trod_int ht h3
      obtain ⟨d, hd', _⟩ := DataW.trod_int ht h4
      simp at ha hb hs hc' hd'
      exact ⟨⟨a, b, s, c, d⟩, by rw [ha, hb, hs, hc', hd']; rfl, hsz⟩

theorem open_nd {H : Type} {enc : TypeId × Value → H} {W : World} {base : Nat} {sp : Nat → Bool} {hd : Bool} {n : Nat} {cs : List Value} {x : DataW H × List MemPlace}
    (h : DataW.trod enc Try.prog W base sp hd n 102 cs = some x) : ∃ y : Nd, cs = ndE y ∧ y.s.size ≤ maxLen :=
  open_five (t := 2) (u := 9) Try.underlying102 Try.underlying2 Try.underlying9 (by kernel_rfl) (by kernel_rfl) (by kernel_rfl) rfl rfl rfl rfl rfl rfl rfl rfl rfl rfl h

set_option maxRecDepth 100000 in
/-- A node by value. -/
theorem open_node {H : Type} {enc : TypeId × Value → H} {W : World} {v : Value} {d : DataW H} {p : List MemPlace} {base b0 : Nat} {r : Reach} {sp : Nat → Bool} {hd : Bool}
    (hv : Value.okWide Try.prog W r b0 102 v) (h : DataW.Trod enc Try.prog W base sp hd 102 v d p) : ∃ y : Nd, v = .agg #[.int .i64 y.k, .int .i64 y.c, .string y.s, .int .i64 y.l, .int .i64 y.r] ∧ y.s.size ≤ maxLen := by
  obtain ⟨cs, rfl, hsz⟩ := okWide_struct Try.underlying102 hv
  obtain ⟨fuel, hf⟩ := h
  obtain ⟨y, hy, hs⟩ := open_nd hf
  refine ⟨y, ?_, hs⟩
  congr 1
  apply Array.ext'
  simpa [Value.cells, ndE] using hy

end Go.Proofs.Ytppielcpidcmaaa