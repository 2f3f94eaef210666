/-
  Arguments opened: a slice of instructions, a slice of integers.
-/
import Derived.Test.YtppielcpidcmaaaInstM
import Derived.Test.YtppielcpidcmaaaNodeA
import Derived.Test.YtppielcpidcmaaaArgs
import Derived.Carry
import Derived.ChangeSame
namespace Go.Proofs.Ytppielcpidcmaaa
open Go.ChangeShapes Go.WideShapes Go.ChangeAt Go.RowKit
set_option linter.unusedVariables false

set_option maxRecDepth 100000 in
theorem open_in {H : Type} {enc : TypeId × Value → H} {W : World} {base : Nat} {sp : Nat → Bool} {hd : Bool} {n : Nat} {cs : List Value} {x : DataW H × List MemPlace}
    (h : DataW.trod enc Try.prog W base sp hd n 104 cs = some x) : ∃ y : In, cs = inE y ∧ y.s.size ≤ maxLen := by
  obtain ⟨xs, m, _, rfl, hl, hlen, hf⟩ := DataW.trod_struct Try.underlying104 h
  have hcE : Try.prog.cellsOf 104 = 8 := by kernel_rfl
  have hc : Try.prog.cellsOf 2 = 1 := by kernel_rfl
  have hcN : Try.prog.cellsOf 102 = 5 := by kernel_rfl
  match xs, hlen with
  | [y0, y1, y2, y3], _ =>
    have h0 : DataW.trod enc Try.prog W base sp hd m 2 ((cs.drop 0).take (Try.prog.cellsOf 2)) = some y0 := by simpa using hf 0 _ rfl
    have h1 : DataW.trod enc Try.prog W base sp hd m 102 ((cs.drop 1).take (Try.prog.cellsOf 102)) = some y1 := by simpa using hf 1 _ rfl
    have h2 : DataW.trod enc Try.prog W base sp hd m 2 ((cs.drop 6).take (Try.prog.cellsOf 2)) = some y2 := by simpa using hf 2 _ rfl
    have h3 : DataW.trod enc Try.prog W base sp hd m 2 ((cs.drop 7).take (Try.prog.cellsOf 2)) = some y3 := by simpa using hf 3 _ rfl
    rw [hcE] at hl
    rw [hc] at h0 h2 h3
    rw [hcN] at h1
    match cs, hl with
    | [u0, u1, u2, u3, u4, u5, u6, u7], _ =>
      obtain ⟨a, ha, _⟩ := DataW.trod_int Try.underlying2 h0
      obtain ⟨y, hy, hys⟩ := open_nd h1
      obtain ⟨c, hc', _⟩ := DataW.trod_int Try.underlying2 h2
      obtain ⟨d, hd', _⟩ := DataW.trod_int Try.underlying2 h3
      simp [ndE] at ha hy hc' hd'
      obtain ⟨e1, e2, e3, e4, e5⟩ := hy
      exact ⟨⟨a, y.k, y.c, y.s, y.l, y.r, c, d⟩, by rw [ha, e1, e2, e3, e4, e5, hc', hd']; rfl, hys⟩

/-- A slice of instructions, opened. -/
theorem open_insts {H : Type} {enc : TypeId × Value → H} {W : World} {a : Option Addr} {len cap : Nat} {d : DataW H} {p : List MemPlace} {base : Nat} {sp : Nat → Bool} {hd : Bool}
    (h : DataW.Trod enc Try.prog W base sp hd 55 (.slice a len cap) d p) : ∃ cs : List In, RdR inE 8 W a len cs ∧ (∀ y ∈ cs, y.s.size ≤ maxLen) ∧ len ≤ cap ∧ cap ≤ maxLen :=
  open_rows inE 8 (fun y => y.s.size ≤ maxLen) Try.underlying55 (by kernel_rfl) inE_len (by omega) (fun n cs x hx => open_in hx) h

/-- A slice of integers, opened. -/
theorem open_int64s {H : Type} {enc : TypeId × Value → H} {W : World} {a : Option Addr} {len cap : Nat} {d : DataW H} {p : List MemPlace} {base : Nat} {sp : Nat → Bool} {hd : Bool}
    (h : DataW.Trod enc Try.prog W base sp hd 47 (.slice a len cap) d p) : ∃ xs : List Int, Rd .i64 W a len xs ∧ len ≤ cap ∧ cap ≤ maxLen := by
  obtain ⟨fuel, hf⟩ := h
  rcases open_ints Try.underlying47 Try.underlying2 (by kernel_rfl) hf with ⟨hcs, _⟩ | ⟨x, l, c, zs, hcs, _, hl, hm, hz, _, hcell, hwz⟩
  · simp [Value.cells] at hcs
    obtain ⟨rfl, rfl, rfl⟩ := hcs
    exact ⟨[], ⟨rfl, .inl rfl⟩, Nat.le_refl _, by simp [maxLen]⟩
  · simp [Value.cells] at hcs
    obtain ⟨rfl, rfl, rfl⟩ := hcs
    have hzl : len ≤ zs.length := by rw [hz]; split <;> omega
    refine ⟨zs.take len, ⟨by simp; omega, ?_⟩, hl, hm⟩
    by_cases h0 : len = 0
    · exact .inl h0
    · obtain ⟨b, off, spot⟩ := x
      have hc0 := hcell 0 (by omega)
      have hspot : spot = none := by simpa [Addr.add] using World.cell?_spot hc0
      subst hspot
      refine .inr ⟨b, off, rfl, fun j hj => ?_⟩
      have := hcell j (by omega)
      rw [Addr.add_lit] at this
      rw [this]
      simp [List.getD_eq_getElem?_getD, hj]
end Go.Proofs.Ytppielcpidcmaaa
