/-
  Arguments opened: a cache that came in.
-/
import Derived.Test.YtckkkhabjfbngaaArgsF
import Derived.Test.YtckkkhabjfbngaaArgsR
import Derived.Test.YtckkkhabjfbngaaBlkM
namespace Go.Proofs.Ytckkkhabjfbngaa
open Go.ChangeShapes Go.WideShapes Go.ChangeAt Go.RowKit
set_option linter.unusedVariables false

/-- What a block that came in is: its number, and the slice of its bytes, which reads as bytes. -/
def GoodB (W : World) (y : Int × Value) : Prop := ∃ a len cap xs, y.2 = .slice a len cap ∧ Rd .u8 W a len xs ∧ Bytes xs ∧ len ≤ cap ∧ cap ≤ maxLen

set_option maxRecDepth 100000 in
theorem open_block {H : Type} {enc : TypeId × Value → H} {W : World} {base : Nat} {sp : Nat → Bool} {hd : Bool} {n : Nat} {cs : List Value} {x : DataW H × List MemPlace}
    (h : DataW.trod enc Try.prog W base sp hd n 140 cs = some x) : ∃ y : Int × Value, cs = bkE y ∧ GoodB W y := by
  obtain ⟨y0, y1, m, _, hl, h0, h1⟩ := trod_struct2 Try.underlying140 h
  have hc1 : Try.prog.cellsOf 140 = 2 := by kernel_rfl
  have k0 : Try.prog.cellsOf 2 = 1 := by kernel_rfl
  have k1 : Try.prog.cellsOf 22 = 1 := by kernel_rfl
  rw [hc1] at hl
  match cs, hl with
  | [u, v], _ =>
    obtain ⟨a, ha, _⟩ := DataW.trod_int Try.underlying2 h0
    obtain ⟨p, len, cap, xs, hp, q1, q2, q3, q4⟩ := open_bytes_cells (T := 22) Try.underlying22 Try.underlying5 (by kernel_rfl) h1
    simp only [k0, k1] at ha hp
    simp at ha hp
    exact ⟨(a, v), by simp [bkE, ha], p, len, cap, xs, hp, q1, q2, q3, q4⟩

theorem rdb_of {W : World} {a : Option Addr} {len : Nat} {ys : List Bv} (h : RdR bkE 2 W a len ys) (hg : ∀ y ∈ ys, GoodB W y) : ∃ bs : List Bk, RdB W a len bs ∧ ∀ b ∈ bs, Bytes b.2 := by
  have key : ∀ ys : List Bv, (∀ y ∈ ys, GoodB W y) → ∃ bs : List Bk, ys.length = bs.length ∧ (∀ b ∈ bs, Bytes b.2) ∧ ∀ (j : Nat) (u : Bv) (b : Bk), ys[j]? = some u → bs[j]? = some b → u.1 = b.1 ∧ ∃ a' c', u.2 = .slice a' b.2.length c' ∧ Rd .u8 W a' b.2.length b.2 ∧ b.2.length ≤ c' ∧ c' ≤ maxLen := by
    intro ys
    induction ys with
    | nil => intro _; exact ⟨[], rfl, fun b hb => by simp at hb, fun j u b hu => by simp at hu⟩
    | cons y ys ih =>
      intro hg
      obtain ⟨bs, k1, k2, k3⟩ := ih (fun z hz => hg z (List.mem_cons_of_mem _ hz))
      obtain ⟨a', len', cap', xs, e, hr, hB, h1, h2⟩ := hg y List.mem_cons_self
      have hl := hr.1
      refine ⟨(y.1, xs) :: bs, by simp [k1], fun b hb => ?_, fun j u b hu hb => ?_⟩
      · rcases List.mem_cons.1 hb with rfl | hb
        · exact hB
        · exact k2 b hb
      · cases j with
        | zero =>
          simp at hu hb
          subst hu hb
          subst hl
          exact ⟨rfl, a', cap', e, hr, h1, h2⟩
        | succ j => exact k3 j u b (by simpa using hu) (by simpa using hb)
  obtain ⟨bs, k1, k2, k3⟩ := key ys hg
  exact ⟨bs, ⟨ys, h, k1, k3⟩, k2⟩

set_option maxRecDepth 100000 in
theorem open_cache {H : Type} {enc : TypeId × Value → H} {W : World} {v : Value} {d : DataW H} {p : List MemPlace} {base b0 : Nat} {r : Reach} {sp : Nat → Bool} {hd : Bool}
    (hv : Value.okWide Try.prog W r b0 53 v) (h : DataW.Trod enc Try.prog W base sp hd 53 v d p) :
    ∃ u z a len cap bs, v = .agg #[.int .i64 u, .int .i64 z, .slice a len cap] ∧ RdB W a len bs ∧ (∀ b ∈ bs, Bytes b.2) ∧ len ≤ maxLen := by
  obtain ⟨cs, rfl, hcs⟩ := okWide_struct Try.underlying53 hv
  obtain ⟨fuel, hf⟩ := h
  obtain ⟨y0, y1, y2, m, _, hl, h0, h1, h2⟩ := Deep.trod_struct3 Try.underlying53 hf
  have hc1 : Try.prog.cellsOf 53 = 3 := by kernel_rfl
  have k0 : Try.prog.cellsOf 2 = 1 := by kernel_rfl
  have k1 : Try.prog.cellsOf 51 = 1 := by kernel_rfl
  rw [hc1] at hcs
  obtain ⟨e0, e1, e2, rfl⟩ : ∃ e0 e1 e2, cs = #[e0, e1, e2] := by
    obtain ⟨l⟩ := cs
    match l, hcs with
    | [e0, e1, e2], _ => exact ⟨e0, e1, e2, rfl⟩
  simp only [Value.cells, k0, k1] at h0 h1 h2
  obtain ⟨u, hu, _⟩ := DataW.trod_int Try.underlying2 h0
  obtain ⟨z, hz, _⟩ := DataW.trod_int Try.underlying2 h1
  simp at hu hz
  subst hu hz
  have h2' : ∃ x, DataW.trod enc Try.prog W base sp hd m 51 [e2] = some x := ⟨y2, by simpa using h2⟩
  obtain ⟨x, hx⟩ := h2'
  rcases Deep.open_slice Try.underlying51 hx with ⟨hcs', _⟩ | ⟨x', l, c, m', n', D, Pl, hcs', _⟩
  · simp at hcs'
    subst hcs'
    obtain ⟨ys, q1, q2, q3, q4⟩ := open_rows bkE 2 (GoodB W) Try.underlying51 (by kernel_rfl) bkE_len (by omega) (fun n cs x hx => open_block hx) (a := none) (len := 0) (cap := 0) (d := x.1) (p := x.2) ⟨m, by simpa [Value.cells] using hx⟩
    obtain ⟨bs, b1, b2⟩ := rdb_of q1 q2
    exact ⟨u, z, none, 0, 0, bs, rfl, b1, b2, by omega⟩
  · simp at hcs'
    subst hcs'
    obtain ⟨ys, q1, q2, q3, q4⟩ := open_rows bkE 2 (GoodB W) Try.underlying51 (by kernel_rfl) bkE_len (by omega) (fun n cs x hx => open_block hx) (a := some x') (len := l) (cap := c) (d := x.1) (p := x.2) ⟨m, by simpa [Value.cells] using hx⟩
    obtain ⟨bs, b1, b2⟩ := rdb_of q1 q2
    exact ⟨u, z, some x', l, c, bs, rfl, b1, b2, by omega⟩
end Go.Proofs.Ytckkkhabjfbngaa
