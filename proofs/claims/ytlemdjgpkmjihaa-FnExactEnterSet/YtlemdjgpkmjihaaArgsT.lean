/-
  Arguments opened: a table that came in.
-/
import Derived.Test.YtlemdjgpkmjihaaArgsA
import Derived.Test.YtlemdjgpkmjihaaTabA
namespace Go.Proofs.Ytlemdjgpkmjihaa
open Go.ChangeShapes Go.WideShapes Go.ChangeAt Go.RowKit
set_option linter.unusedVariables false
set_option linter.unusedSimpArgs false

set_option maxRecDepth 100000 in
theorem open_arc {H : Type} {enc : TypeId × Value → H} {W : World} {base : Nat} {sp : Nat → Bool} {hd : Bool} {n : Nat} {cs : List Value} {x : DataW H × List MemPlace}
    (h : DataW.trod enc Try.prog W base sp hd n 195 cs = some x) : ∃ y : L2, cs = lineE y ∧ True := by
  obtain ⟨y0, y1, m, _, hl, h0, h1⟩ := trod_struct2 Try.underlying195 h
  have hc1 : Try.prog.cellsOf 195 = 2 := by kernel_rfl
  have k0 : Try.prog.cellsOf 2 = 1 := by kernel_rfl
  rw [hc1] at hl
  match cs, hl with
  | [u, v], _ =>
    obtain ⟨a, ha, _⟩ := DataW.trod_int Try.underlying2 h0
    obtain ⟨b, hb, _⟩ := DataW.trod_int Try.underlying2 h1
    simp only [k0] at ha hb
    simp at ha hb
    exact ⟨(a, b), by simp [lineE, ha, hb], trivial⟩

/-- What a state that came in is. -/
def GoodS (W : World) (y : Sv) : Prop := ∃ x : St, StRd W y x

set_option maxRecDepth 100000 in
theorem open_ints_cells {H : Type} {enc : TypeId × Value → H} {W : World} {base : Nat} {sp : Nat → Bool} {hd : Bool} {n : Nat} {v : Value} {x : DataW H × List MemPlace}
    (h : DataW.trod enc Try.prog W base sp hd n 25 [v] = some x) : ∃ a c xs, v = .slice a xs.length c ∧ Rd .i64 W a xs.length xs ∧ xs.length ≤ c ∧ c ≤ maxLen := by
  rcases Deep.open_slice Try.underlying25 h with ⟨hcs', _⟩ | ⟨x', l, c, m', n', D, Pl, hcs', _⟩
  · simp at hcs'
    subst hcs'
    exact ⟨none, 0, [], rfl, ⟨rfl, .inl rfl⟩, by simp, by simp [maxLen]⟩
  · simp at hcs'
    subst hcs'
    obtain ⟨xs, h1, h2, h3⟩ := open_int64s (a := some x') (len := l) (cap := c) (d := x.1) (p := x.2) ⟨n, by simpa [Value.cells] using h⟩
    obtain rfl := h1.1.symm
    exact ⟨some x', c, xs, by rw [h1.1], by rw [h1.1]; exact h1, by rw [h1.1]; exact h2, h3⟩

set_option maxRecDepth 100000 in
theorem open_arcs_cells {H : Type} {enc : TypeId × Value → H} {W : World} {base : Nat} {sp : Nat → Bool} {hd : Bool} {n : Nat} {v : Value} {x : DataW H × List MemPlace}
    (h : DataW.trod enc Try.prog W base sp hd n 168 [v] = some x) : ∃ a c xs, v = .slice a xs.length c ∧ RdR lineE 2 W a xs.length xs ∧ xs.length ≤ c ∧ c ≤ maxLen := by
  rcases Deep.open_slice Try.underlying168 h with ⟨hcs', _⟩ | ⟨x', l, c, m', n', D, Pl, hcs', _⟩
  · simp at hcs'
    subst hcs'
    exact ⟨none, 0, [], rfl, ⟨rfl, .inl rfl⟩, by simp, by simp [maxLen]⟩
  · simp at hcs'
    subst hcs'
    obtain ⟨xs, h1, -, h2, h3⟩ := open_rows lineE 2 (fun _ => True) Try.underlying168 (by kernel_rfl) lineE_len (by omega) (fun n cs x hx => open_arc hx) (a := some x') (len := l) (cap := c) (d := x.1) (p := x.2) ⟨n, by simpa [Value.cells] using h⟩
    exact ⟨some x', c, xs, by rw [h1.1], by rw [h1.1]; exact h1, by rw [h1.1]; exact h2, h3⟩

set_option maxRecDepth 100000 in
theorem open_state {H : Type} {enc : TypeId × Value → H} {W : World} {base : Nat} {sp : Nat → Bool} {hd : Bool} {n : Nat} {cs : List Value} {x : DataW H × List MemPlace}
    (h : DataW.trod enc Try.prog W base sp hd n 170 cs = some x) : ∃ y : Sv, cs = svE y ∧ GoodS W y := by
  obtain ⟨y0, y1, m, _, hl, h0, h1⟩ := trod_struct2 Try.underlying170 h
  have hc1 : Try.prog.cellsOf 170 = 2 := by kernel_rfl
  have k0 : Try.prog.cellsOf 25 = 1 := by kernel_rfl
  have k1 : Try.prog.cellsOf 168 = 1 := by kernel_rfl
  rw [hc1] at hl
  match cs, hl with
  | [u, v], _ =>
    simp only [k0] at h0 h1
    have h0' : ∃ x, DataW.trod enc Try.prog W base sp hd m 25 [u] = some x := ⟨_, by simpa using h0⟩
    have h1' : ∃ x, DataW.trod enc Try.prog W base sp hd m 168 [v] = some x := ⟨_, by simpa [k1] using h1⟩
    obtain ⟨x0, h0'⟩ := h0'
    obtain ⟨x1, h1'⟩ := h1'
    obtain ⟨a, c, xs, e1, r1, q1⟩ := open_ints_cells h0'
    obtain ⟨a', c', az, e2, r2, q2⟩ := open_arcs_cells h1'
    exact ⟨(u, v), rfl, (xs, az), ⟨a, c, e1, r1, q1⟩, a', c', e2, r2, q2⟩

theorem rdt_of {W : World} {a : Option Addr} {len : Nat} {ys : List Sv} (h : RdR svE 2 W a len ys) (hg : ∀ y ∈ ys, GoodS W y) : ∃ ts : List St, RdT W a len ts := by
  have key : ∀ ys : List Sv, (∀ y ∈ ys, GoodS W y) → ∃ ts : List St, ys.length = ts.length ∧ ∀ (j : Nat) (u : Sv) (x : St), ys[j]? = some u → ts[j]? = some x → StRd W u x := by
    intro ys
    induction ys with
    | nil => intro _; exact ⟨[], rfl, fun j u b hu => by simp at hu⟩
    | cons y ys ih =>
      intro hg
      obtain ⟨ts, k1, k3⟩ := ih (fun z hz => hg z (List.mem_cons_of_mem _ hz))
      obtain ⟨x, hx⟩ := hg y List.mem_cons_self
      refine ⟨x :: ts, by simp [k1], fun j u b hu hb => ?_⟩
      cases j with
      | zero =>
        simp at hu hb
        subst hu hb
        exact hx
      | succ j => exact k3 j u b (by simpa using hu) (by simpa using hb)
  obtain ⟨ts, k1, k3⟩ := key ys hg
  exact ⟨ts, ys, h, k1, k3⟩

set_option maxRecDepth 100000 in
theorem open_table {H : Type} {enc : TypeId × Value → H} {W : World} {v : Value} {d : DataW H} {p : List MemPlace} {base b0 : Nat} {r : Reach} {sp : Nat → Bool} {hd : Bool}
    (hv : Value.okWide Try.prog W r b0 64 v) (h : DataW.Trod enc Try.prog W base sp hd 64 v d p) :
    ∃ z a len cap ts, v = .agg #[.int .i64 z, .slice a len cap] ∧ RdT W a len ts ∧ len ≤ maxLen := by
  obtain ⟨cs, rfl, hcs⟩ := okWide_struct Try.underlying64 hv
  obtain ⟨fuel, hf⟩ := h
  obtain ⟨y0, y1, m, _, hl, h0, h1⟩ := trod_struct2 Try.underlying64 hf
  have hc1 : Try.prog.cellsOf 64 = 2 := by kernel_rfl
  have k0 : Try.prog.cellsOf 2 = 1 := by kernel_rfl
  have k1 : Try.prog.cellsOf 62 = 1 := by kernel_rfl
  rw [hc1] at hcs
  obtain ⟨e0, e1, rfl⟩ : ∃ e0 e1, cs = #[e0, e1] := by
    obtain ⟨l⟩ := cs
    match l, hcs with
    | [e0, e1], _ => exact ⟨e0, e1, rfl⟩
  simp only [Value.cells, k0, k1] at h0 h1
  obtain ⟨z, hz, _⟩ := DataW.trod_int Try.underlying2 h0
  simp at hz
  subst hz
  have h1' : ∃ x, DataW.trod enc Try.prog W base sp hd m 62 [e1] = some x := ⟨y1, by simpa using h1⟩
  obtain ⟨x, hx⟩ := h1'
  rcases Deep.open_slice Try.underlying62 hx with ⟨hcs', _⟩ | ⟨x', l, c, m', n', D, Pl, hcs', _⟩
  · simp at hcs'
    subst hcs'
    exact ⟨z, none, 0, 0, [], rfl, RdT.nil _ _, by simp [maxLen]⟩
  · simp at hcs'
    subst hcs'
    obtain ⟨ys, q1, q2, q3, q4⟩ := open_rows svE 2 (GoodS W) Try.underlying62 (by kernel_rfl) svE_len (by omega) (fun n cs x hx => open_state hx) (a := some x') (len := l) (cap := c) (d := x.1) (p := x.2) ⟨m, by simpa [Value.cells] using hx⟩
    obtain ⟨ts, b1⟩ := rdt_of q1 q2
    exact ⟨z, some x', l, c, ts, rfl, b1, by omega⟩
end Go.Proofs.Ytlemdjgpkmjihaa
