/-
  Arguments opened: a command, a grid that came in.
-/
import Derived.Test.YtjgmkcmlkffjlaaRows
import Derived.Test.YtjgmkcmlkffjlaaArgsL
import Derived.ChangeSame
namespace Go.Proofs.Ytjgmkcmlkffjlaa
open Go.ChangeShapes Go.WideShapes Go.ChangeAt Go.RowKit
set_option linter.unusedVariables false

/-- a truth value's one cell -/
def blE (b : Bool) : List Value := [.bool b]
theorem blE_len (b : Bool) : (blE b).length = 1 := rfl
/-- an integer's one cell -/
def inE1 (i : Int) : List Value := [.int .i64 i]
theorem inE1_len (i : Int) : (inE1 i).length = 1 := rfl

theorem trod_structP {P : Program} {H : Type} {enc : TypeId × Value → H} {w : World} {base : Nat} {spare : Nat → Bool} {held : Bool} {t : TypeId} {f0 f1 f2 f3 : Field} {fuel : Nat} {cs : List Value} {x : DataW H × List MemPlace} (ht : P.underlying t = some (.struct #[f0, f1, f2, f3])) (h : DataW.trod enc P w base spare held fuel t cs = some x) :
    ∃ y0 y1 y2 y3 n, cs.length = P.cellsOf t ∧ DataW.trod enc P w base spare held n f0.type ((cs.drop f0.offset).take (P.cellsOf f0.type)) = some y0 ∧ DataW.trod enc P w base spare held n f1.type ((cs.drop f1.offset).take (P.cellsOf f1.type)) = some y1 ∧
      DataW.trod enc P w base spare held n f2.type ((cs.drop f2.offset).take (P.cellsOf f2.type)) = some y2 ∧ DataW.trod enc P w base spare held n f3.type ((cs.drop f3.offset).take (P.cellsOf f3.type)) = some y3 := by
  obtain ⟨xs, n, _, rfl, hl, hlen, hf⟩ := DataW.trod_struct ht h
  match xs, hlen with
  | [y0, y1, y2, y3], _ => exact ⟨y0, y1, y2, y3, n, hl, by simpa using hf 0 f0 rfl, by simpa using hf 1 f1 rfl, by simpa using hf 2 f2 rfl, by simpa using hf 3 f3 rfl⟩

set_option maxRecDepth 100000 in
theorem open_cmd {H : Type} {enc : TypeId × Value → H} {W : World} {v : Value} {d : DataW H} {p : List MemPlace} {base b0 : Nat} {r : Reach} {sp : Nat → Bool} {hd : Bool}
    (hv : Value.okWide Try.prog W r b0 50 v) (h : DataW.Trod enc Try.prog W base sp hd 50 v d p) :
    ∃ (x y z : Int) (s : ByteArray), v = .agg #[.int .i64 x, .int .i64 y, .int .i64 z, .string s] ∧ inI64 x ∧ inI64 y ∧ inI64 z ∧ s.size ≤ maxLen := by
  obtain ⟨cs, rfl, hcs⟩ := okWide_struct Try.underlying50 hv
  obtain ⟨fuel, hf⟩ := h
  obtain ⟨y0, y1, y2, y3, m, _, h0, h1, h2, h3⟩ := trod_structP Try.underlying50 hf
  have hc1 : Try.prog.cellsOf 50 = 4 := by kernel_rfl
  have k0 : Try.prog.cellsOf 2 = 1 := by kernel_rfl
  have k1 : Try.prog.cellsOf 9 = 1 := by kernel_rfl
  rw [hc1] at hcs
  obtain ⟨e0, e1, e2, e3, rfl⟩ : ∃ e0 e1 e2 e3, cs = #[e0, e1, e2, e3] := by
    obtain ⟨l⟩ := cs
    match l, hcs with
    | [e0, e1, e2, e3], _ => exact ⟨e0, e1, e2, e3, rfl⟩
  simp only [Value.cells, k0, k1] at h0 h1 h2 h3
  obtain ⟨u, hu, _, wu⟩ := DataW.trod_int Try.underlying2 h0
  obtain ⟨l, hl, _, wl⟩ := DataW.trod_int Try.underlying2 h1
  obtain ⟨z, hz, _, wz⟩ := DataW.trod_int Try.underlying2 h2
  obtain ⟨s, hs, _, ws⟩ := DataW.trod_string Try.underlying9 h3
  simp at hu hl hz hs
  subst hu hl hz hs
  exact ⟨u, l, z, s, rfl, i64_bd wu, i64_bd wl, i64_bd wz, ws⟩

set_option maxRecDepth 100000 in
theorem open_bools {H : Type} {enc : TypeId × Value → H} {W : World} {a : Option Addr} {len cap : Nat} {d : DataW H} {p : List MemPlace} {base : Nat} {sp : Nat → Bool} {hd : Bool}
    (h : DataW.Trod enc Try.prog W base sp hd 66 (.slice a len cap) d p) : ∃ ys : List Bool, RdR blE 1 W a len ys ∧ (∀ y ∈ ys, True) ∧ len ≤ cap ∧ cap ≤ maxLen :=
  open_rows blE 1 (fun _ => True) Try.underlying66 (by kernel_rfl) blE_len (by omega) (fun n cs x hx => by
    obtain ⟨y, hy, _⟩ := DataW.trod_bool Try.underlying4 hx
    exact ⟨y, hy, trivial⟩) h

set_option maxRecDepth 100000 in
theorem open_bools_cells {H : Type} {enc : TypeId × Value → H} {W : World} {base : Nat} {sp : Nat → Bool} {hd : Bool} {n : Nat} {v : Value} {x : DataW H × List MemPlace}
    (h : DataW.trod enc Try.prog W base sp hd n 66 [v] = some x) : ∃ a c xs, v = .slice a xs.length c ∧ RdR blE 1 W a xs.length xs ∧ xs.length ≤ c ∧ c ≤ maxLen := by
  rcases Deep.open_slice Try.underlying66 h with ⟨hcs', _⟩ | ⟨x', l, c, m', n', D, Pl, hcs', _⟩
  · simp at hcs'
    subst hcs'
    exact ⟨none, 0, [], rfl, ⟨rfl, .inl rfl⟩, by simp, by simp [maxLen]⟩
  · simp at hcs'
    subst hcs'
    obtain ⟨xs, h1, -, h2, h3⟩ := open_bools (a := some x') (len := l) (cap := c) (d := x.1) (p := x.2) ⟨n, by simpa [Value.cells] using h⟩
    obtain rfl := h1.1.symm
    exact ⟨some x', c, xs, by rw [h1.1], by rw [h1.1]; exact h1, by rw [h1.1]; exact h2, h3⟩

set_option maxRecDepth 100000 in
theorem open_intsP {H : Type} {enc : TypeId × Value → H} {W : World} {base : Nat} {sp : Nat → Bool} {hd : Bool} {n : Nat} {v : Value} {x : DataW H × List MemPlace}
    (h : DataW.trod enc Try.prog W base sp hd n 65 [v] = some x) : ∃ a c xs, v = .slice a xs.length c ∧ Rd .i64 W a xs.length xs ∧ xs.length ≤ c ∧ c ≤ maxLen := by
  rcases open_ints Try.underlying65 Try.underlying2 (by kernel_rfl) h with ⟨hcs, _⟩ | ⟨x, l, c, zs, hcs, _, hl, hm, hz, _, hcell, hwz⟩
  · simp at hcs; subst hcs; exact ⟨none, 0, [], rfl, ⟨rfl, .inl rfl⟩, by simp, by simp [maxLen]⟩
  · simp at hcs
    subst hcs
    have hzl : l ≤ zs.length := by rw [hz]; split <;> omega
    have htl : (zs.take l).length = l := by simp; omega
    refine ⟨some x, c, zs.take l, by rw [htl], ?_, by rw [htl]; exact hl, hm⟩
    rw [htl]
    refine ⟨htl, ?_⟩
    by_cases h0 : l = 0
    · exact .inl h0
    · obtain ⟨b, off, spot⟩ := x
      have hc0 := hcell 0 (by omega)
      have hspot : spot = none := by simpa [Addr.add] using World.cell?_spot hc0
      subst hspot
      refine .inr ⟨b, off, rfl, fun j hj => ?_⟩
      have := hcell j (by omega)
      rw [Addr.add_lit] at this
      rw [this]
      simp [List.getD_eq_getElem?_getD, hj]

set_option maxRecDepth 100000 in
theorem open_grid {H : Type} {enc : TypeId × Value → H} {W : World} {v : Value} {d : DataW H} {p : List MemPlace} {base b0 : Nat} {r : Reach} {sp : Nat → Bool} {hd : Bool}
    (hv : Value.okWide Try.prog W r b0 68 v) (h : DataW.Trod enc Try.prog W base sp hd 68 v d p) :
    ∃ (x : Int) (a b : Option Addr) (ca cb : Nat) (xs : List Int) (ys : List Bool), v = .agg #[.int .i64 x, .slice a xs.length ca, .slice b ys.length cb] ∧ inI64 x ∧ Rd .i64 W a xs.length xs ∧ xs.length ≤ ca ∧ ca ≤ maxLen ∧ RdR blE 1 W b ys.length ys ∧ ys.length ≤ cb ∧ cb ≤ maxLen := by
  obtain ⟨cs, rfl, hcs⟩ := okWide_struct Try.underlying68 hv
  obtain ⟨fuel, hf⟩ := h
  obtain ⟨y0, y1, y2, m, _, h0, h1, h2⟩ := trod_struct3 Try.underlying68 hf
  have hc1 : Try.prog.cellsOf 68 = 3 := by kernel_rfl
  have k0 : Try.prog.cellsOf 2 = 1 := by kernel_rfl
  have k1 : Try.prog.cellsOf 65 = 1 := by kernel_rfl
  have k2 : Try.prog.cellsOf 66 = 1 := by kernel_rfl
  rw [hc1] at hcs
  obtain ⟨e0, e1, e2, rfl⟩ : ∃ e0 e1 e2, cs = #[e0, e1, e2] := by
    obtain ⟨l⟩ := cs
    match l, hcs with
    | [e0, e1, e2], _ => exact ⟨e0, e1, e2, rfl⟩
  simp only [Value.cells, k0, k1, k2] at h0 h1 h2
  obtain ⟨u, hu, _, wu⟩ := DataW.trod_int Try.underlying2 h0
  simp at hu
  subst hu
  obtain ⟨a, ca, xs, rfl, hr, q1, q2⟩ := open_intsP (v := e1) (by simpa using h1)
  obtain ⟨b, cb, ys, rfl, hs, q3, q4⟩ := open_bools_cells (v := e2) (by simpa using h2)
  exact ⟨u, a, b, ca, cb, xs, ys, rfl, i64_bd wu, hr, q1, q2, hs, q3, q4⟩
end Go.Proofs.Ytjgmkcmlkffjlaa
