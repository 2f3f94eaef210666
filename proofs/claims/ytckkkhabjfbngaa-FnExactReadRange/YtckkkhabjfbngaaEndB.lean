/-
  Join, SetB, Five, Args, ArgsF, ArgsR, ArgsB in one text.
-/
import Derived.Carry
import Derived.ProofKit
import Derived.OpenShut
import Derived.ChangeOld
import Derived.Below
import Derived.ChangeSame
import Derived.Deep.Slices
import Derived.Deep.Strs
import Derived.Test.YtckkkhabjfbngaaBox
import Derived.Test.YtckkkhabjfbngaaChg
import Derived.Test.YtckkkhabjfbngaaBlk
import Derived.Test.YtckkkhabjfbngaaBase
import Derived.Test.YtckkkhabjfbngaaMath2
import Derived.Test.YtckkkhabjfbngaaRows
import Derived.Test.YtckkkhabjfbngaaRows2
import Derived.Test.YtckkkhabjfbngaaBlkM
namespace Go.Proofs.Ytckkkhabjfbngaa
open Go.RowKit
set_option linter.unusedVariables false

theorem region_join {P : Program} {id : Nat} {ops : Array Oper} {b : Bool} {Q : Exit → Act → World → Prop} {a : Act} {w : World} (J : Act → Act → World → Prop)
    (h : (Code.region id ops b).wp P (fun e a' w' => e = .normal ∧ J a a' w') a w) (k : ∀ a' w', J a a' w' → Q .normal a' w') : (Code.region id ops b).wp P Q a w :=
  Code.wp_mono (fun e a' w' hj => by obtain ⟨he, hj⟩ := hj; subst he; exact k _ _ hj) h

theorem RowI.setB {k : IntKind} {e : TypeId} {w : World} {lo hi n B : Nat} {v : Value} {xs : List Int} (h : RowI k e w lo hi v n xs) (hb : B < lo ∨ hi ≤ B) (i : Nat) (u : Value) : RowI k e (w.setCell ⟨B, i, none⟩ u) lo hi v n xs :=
  h.chg (Chg.one (set_grown w B i u)) (by omega)

theorem size_set (w : World) (a : Addr) (u : Value) : (w.setCell a u).heap.size = w.heap.size := by simp [World.setCell]

theorem Blk.below {W W' : World} {B : Nat} {cs : Array Value} {t : TypeId} (h : Blk W B cs t) (hb : Below W.heap.size W W') : Blk W' B cs t :=
  h.kept (grownBy_of_below hb) (by simp)
end Go.Proofs.Ytckkkhabjfbngaa

namespace Go.Proofs.Ytckkkhabjfbngaa
open Go.RowKit

theorem RowB.setB {eB eU : TypeId} {w : World} {lo hi n B : Nat} {v : Value} {bs : List Bk} (h : RowB eB eU w lo hi v n bs) (hb : B < lo ∨ hi ≤ B) (i : Nat) (u : Value) : RowB eB eU (w.setCell ⟨B, i, none⟩ u) lo hi v n bs :=
  h.chg (Chg.one (set_grown w B i u)) (by omega)
end Go.Proofs.Ytckkkhabjfbngaa

namespace Go.Proofs.Ytckkkhabjfbngaa
open Go.RowKit Go.ChangeShapes
variable {H : Type} {enc : TypeId × Value → H} {P : Program} {w : World} {base : Nat} {spare : Nat → Bool} {held : Bool}

theorem trodAll_five {t0 t1 t2 t3 t4 : TypeId} {args : Array Value} {ds : List (DataW H)} {ps : List MemPlace} (h : DataW.TrodAll enc P w base spare held [t0, t1, t2, t3, t4] args.toList ds ps) :
    ∃ v0 v1 v2 v3 v4 d0 d1 d2 d3 d4 p0 p1 p2 p3 p4, args = #[v0, v1, v2, v3, v4] ∧ ds = [d0, d1, d2, d3, d4] ∧ ps = p0 ++ p1 ++ p2 ++ p3 ++ p4 ∧ DataW.Trod enc P w base spare held t0 v0 d0 p0 ∧ DataW.Trod enc P w base spare held t1 v1 d1 p1 ∧ DataW.Trod enc P w base spare held t2 v2 d2 p2 ∧ DataW.Trod enc P w base spare held t3 v3 d3 p3 ∧ DataW.Trod enc P w base spare held t4 v4 d4 p4 := by
  obtain ⟨v, vs, d, ds', p, q, hargs, rfl, rfl, hd, hr⟩ := trodAll_cons h
  obtain ⟨v1, vs1, d1, ds1, p1, q1, rfl, rfl, rfl, hd1, hr1⟩ := trodAll_cons hr
  obtain ⟨v2, vs2, d2, ds2, p2, q2, rfl, rfl, rfl, hd2, hr2⟩ := trodAll_cons hr1
  obtain ⟨v3, vs3, d3, ds3, p3, q3, rfl, rfl, rfl, hd3, hr3⟩ := trodAll_cons hr2
  obtain ⟨v4, vs4, d4, ds4, p4, q4, rfl, rfl, rfl, hd4, hr4⟩ := trodAll_cons hr3
  obtain ⟨rfl, rfl, rfl⟩ := trodAll_nil hr4
  exact ⟨v, v1, v2, v3, v4, d, d1, d2, d3, d4, p, p1, p2, p3, p4, by cases args; simp_all, rfl, by simp, hd, hd1, hd2, hd3, hd4⟩

theorem trodAll_mk5 {t0 t1 t2 t3 t4 : TypeId} {v0 v1 v2 v3 v4 : Value} {d0 d1 d2 d3 d4 : DataW H} {p0 p1 p2 p3 p4 : List MemPlace} (h0 : DataW.Trod enc P w base spare held t0 v0 d0 p0) (h1 : DataW.Trod enc P w base spare held t1 v1 d1 p1) (h2 : DataW.Trod enc P w base spare held t2 v2 d2 p2) (h3 : DataW.Trod enc P w base spare held t3 v3 d3 p3) (h4 : DataW.Trod enc P w base spare held t4 v4 d4 p4) :
    DataW.TrodAll enc P w base spare held [t0, t1, t2, t3, t4] [v0, v1, v2, v3, v4] [d0, d1, d2, d3, d4] (p0 ++ (p1 ++ (p2 ++ (p3 ++ p4)))) := ⟨p0, p1 ++ (p2 ++ (p3 ++ p4)), h0, trodAll_mk4 h1 h2 h3 h4, rfl⟩
end Go.Proofs.Ytckkkhabjfbngaa

namespace Go.Proofs.Ytckkkhabjfbngaa
open Go.ChangeShapes Go.WideShapes Go.ChangeAt Go.RowKit
set_option linter.unusedVariables false

theorem bytes_of_wf {zs : List Int} (h : ∀ n ∈ zs, (Lit.int .u8 n).wf = true) : Bytes zs := by
  intro x hx
  have := h x hx
  simpa [Lit.wf, IntKind.min, IntKind.max, IntKind.signed, IntKind.bits] using this

theorem open_bytes {P : Program} {H : Type} {enc : TypeId × Value → H} {W : World} {T E : TypeId} {a : Option Addr} {len cap : Nat} {d : DataW H} {p : List MemPlace} {sp : Nat → Bool} {hd : Bool}
    (hT : P.underlying T = some (.slice E)) (hE : P.underlying E = some (.int .u8)) (hc : P.cellsOf E = 1) (h : DataW.Trod enc P W 0 sp hd T (.slice a len cap) d p) :
    ∃ xs, Rd .u8 W a len xs ∧ Bytes xs ∧ len ≤ maxLen := by
  obtain ⟨fuel, hf⟩ := h
  rcases open_ints hT hE hc hf with ⟨hcs, _⟩ | ⟨x, l, c, zs, hcs, _, hl, hm, hz, _, hcell, hwz⟩
  · simp [Value.cells] at hcs
    obtain ⟨rfl, rfl, rfl⟩ := hcs
    exact ⟨[], ⟨rfl, .inl rfl⟩, fun x hx => by simp at hx, by simp [maxLen]⟩
  · simp [Value.cells] at hcs
    obtain ⟨rfl, rfl, rfl⟩ := hcs
    have hzl : len ≤ zs.length := by rw [hz]; split <;> omega
    refine ⟨zs.take len, ⟨by simp; omega, ?_⟩, fun y hy => bytes_of_wf hwz y (List.mem_of_mem_take hy), by omega⟩
    by_cases h0 : len = 0
    · exact .inl h0
    · obtain ⟨b, off, spot⟩ := x
      have hc0 := hcell 0 (by omega)
      have hspot : spot = none := by simpa [Addr.add] using World.cell?_spot hc0
      subst hspot
      refine .inr ⟨b, off, rfl, fun j hj => ?_⟩
      have := hcell j (by omega)
      rw [Addr.add_lit] at this
      rw [this]
      simp [List.getD_eq_getElem?_getD, hj]
end Go.Proofs.Ytckkkhabjfbngaa

namespace Go.Proofs.Ytckkkhabjfbngaa
open Go.ChangeShapes Go.WideShapes Go.ChangeAt Go.RowKit
set_option linter.unusedVariables false

/-- Cells that read as a slice of bytes. -/
theorem open_bytes_cells {P : Program} {H : Type} {enc : TypeId × Value → H} {W : World} {T E : TypeId} {cs : List Value} {x : DataW H × List MemPlace} {base fuel : Nat} {sp : Nat → Bool} {hd : Bool}
    (hT : P.underlying T = some (.slice E)) (hE : P.underlying E = some (.int .u8)) (hc : P.cellsOf E = 1) (hf : DataW.trod enc P W base sp hd fuel T cs = some x) :
    ∃ a len cap xs, cs = [.slice a len cap] ∧ Rd .u8 W a len xs ∧ Bytes xs ∧ len ≤ cap ∧ cap ≤ maxLen := by
  rcases open_ints hT hE hc hf with ⟨hcs, _⟩ | ⟨x, l, c, zs, hcs, _, hl, hm, hz, _, hcell, hwz⟩
  · exact ⟨none, 0, 0, [], hcs, ⟨rfl, .inl rfl⟩, fun x hx => by simp at hx, by omega, by simp [maxLen]⟩
  · have hzl : l ≤ zs.length := by rw [hz]; split <;> omega
    refine ⟨some x, l, c, zs.take l, hcs, ⟨by simp; omega, ?_⟩, fun y hy => bytes_of_wf hwz y (List.mem_of_mem_take hy), hl, hm⟩
    by_cases h0 : l = 0
    · exact .inl h0
    · obtain ⟨b, off, spot⟩ := x
      have hc0 := hcell 0 (by omega)
      have hspot : spot = none := by simpa [Addr.add] using World.cell?_spot hc0
      subst hspot
      refine .inr ⟨b, off, rfl, fun j hj => ?_⟩
      have := hcell j (by omega)
      rw [Addr.add_lit] at this
      rw [this]
      simp [List.getD_eq_getElem?_getD, hj]

set_option maxRecDepth 100000 in
theorem open_file {H : Type} {enc : TypeId × Value → H} {W : World} {v : Value} {d : DataW H} {p : List MemPlace} {base b0 : Nat} {r : Reach} {sp : Nat → Bool} {hd : Bool}
    (hv : Value.okWide Try.prog W r b0 62 v) (h : DataW.Trod enc Try.prog W base sp hd 62 v d p) :
    ∃ a len cap xs, v = .agg #[.slice a len cap] ∧ Rd .u8 W a len xs ∧ Bytes xs ∧ len ≤ maxLen := by
  obtain ⟨cs, rfl, hcs⟩ := okWide_struct Try.underlying62 hv
  obtain ⟨fuel, hf⟩ := h
  obtain ⟨y0, m, _, hl, hy⟩ := trod_struct1 Try.underlying62 hf
  have hc1 : Try.prog.cellsOf 62 = 1 := by kernel_rfl
  rw [hc1] at hcs
  obtain ⟨u, rfl⟩ : ∃ u, cs = #[u] := by
    obtain ⟨l⟩ := cs
    match l, hcs with
    | [u], _ => exact ⟨u, rfl⟩
  obtain ⟨a, len, cap, xs, hu, h1, h2, h3, h4⟩ := open_bytes_cells (T := 22) Try.underlying22 Try.underlying5 (by kernel_rfl) hy
  have hk : Try.prog.cellsOf 22 = 1 := by kernel_rfl
  refine ⟨a, len, cap, xs, ?_, h1, h2, by omega⟩
  simp only [Value.cells, hk] at hu
  simpa using hu
end Go.Proofs.Ytckkkhabjfbngaa

namespace Go.Proofs.Ytckkkhabjfbngaa
open Go.ChangeShapes Go.WideShapes Go.ChangeAt Go.RowKit
set_option linter.unusedVariables false

/-- A slice whose elements are read by 'dec' into α. -/
theorem open_rows {α : Type} [Inhabited α] (ce : α → List Value) (size : Nat) (good : α → Prop) {P : Program} {H : Type} {enc : TypeId × Value → H} {W : World} {T E : TypeId} {a : Option Addr} {len cap : Nat} {d : DataW H} {p : List MemPlace} {base : Nat} {sp : Nat → Bool} {hd : Bool}
    (hT : P.underlying T = some (.slice E)) (hc : P.cellsOf E = size) (hs : ∀ x, (ce x).length = size) (hpos : 0 < size)
    (hel : ∀ (n : Nat) (cs : List Value) (x : DataW H × List MemPlace), DataW.trod enc P W base sp hd n E cs = some x → ∃ y, cs = ce y ∧ good y)
    (h : DataW.Trod enc P W base sp hd T (.slice a len cap) d p) :
    ∃ ys : List α, RdR ce size W a len ys ∧ (∀ y ∈ ys, good y) ∧ len ≤ cap ∧ cap ≤ maxLen := by
  obtain ⟨fuel, hf⟩ := h
  rcases Deep.open_slice hT hf with ⟨hcs, _⟩ | ⟨x, l, c, m, n, D, Pl, hcs, hb, hl, hm, hmm, _, hx⟩
  · simp [Value.cells] at hcs
    obtain ⟨rfl, rfl, rfl⟩ := hcs
    exact ⟨[], ⟨rfl, .inl rfl⟩, fun y hy => by simp at hy, Nat.le_refl _, by simp [maxLen]⟩
  · simp [Value.cells] at hcs
    obtain ⟨rfl, rfl, rfl⟩ := hcs
    have hlm : len ≤ m := by rw [hmm]; split <;> omega
    obtain ⟨Y, hY⟩ := Deep.choose_lt (α := α) (n := len) (p := fun i y => good y ∧ ∀ f v, (ce y)[f]? = some v → W.cell? (x.add (i * size + f)) = some v) (fun i hi => by
      obtain ⟨cs', h1, h2⟩ := hx i (by omega)
      obtain ⟨y, rfl, hg⟩ := hel _ _ _ h2
      refine ⟨y, hg, fun f v hv => ?_⟩
      have hf : f < size := by rw [← hs y]; exact (List.getElem?_eq_some_iff.1 hv).1
      have h3 := (World.cells?_some h1).2.2 f (by rw [hc]; exact hf)
      rw [Deep.add_add, hc] at h3
      rw [h3]
      exact hv)
    refine ⟨(List.range len).map Y, ⟨by simp, ?_⟩, ?_, hl, hm⟩
    · by_cases h0 : len = 0
      · exact .inl h0
      · obtain ⟨b, off, spot⟩ := x
        have hspot : spot = none := by
          have hlen0 : 0 < (ce (Y 0)).length := by rw [hs]; exact hpos
          have := (hY 0 (by omega)).2 0 _ (List.getElem?_eq_getElem hlen0)
          simpa [Addr.add] using World.cell?_spot this
        subst hspot
        refine .inr ⟨b, off, rfl, fun j y hy f v hv => ?_⟩
        have hj : j < len := by have := (List.getElem?_eq_some_iff.1 hy).1; simpa using this
        have hyj : y = Y j := by simp [hj] at hy; exact hy.symm
        subst hyj
        have := (hY j hj).2 f v hv
        rw [Addr.add_lit] at this
        rw [Nat.add_assoc]
        exact this
    · intro y hy
      obtain ⟨i, hi, rfl⟩ := List.mem_map.1 hy
      exact (hY i (by simpa using hi)).1

/-- A struct of three integers of one kind. -/
theorem open_three {P : Program} {H : Type} {enc : TypeId × Value → H} {W : World} {E t : TypeId} {f0 f1 f2 : Field} {base : Nat} {sp : Nat → Bool} {hd : Bool} {n : Nat} {cs : List Value} {x : DataW H × List MemPlace}
    (hE : P.underlying E = some (.struct #[f0, f1, f2])) (ht : P.underlying t = some (.int .i64)) (hc : P.cellsOf t = 1) (hcE : P.cellsOf E = 3)
    (t0 : f0.type = t) (t1 : f1.type = t) (t2 : f2.type = t) (o0 : f0.offset = 0) (o1 : f1.offset = 1) (o2 : f2.offset = 2)
    (h : DataW.trod enc P W base sp hd n E cs = some x) : ∃ a b c : Int, cs = [.int .i64 a, .int .i64 b, .int .i64 c] := by
  obtain ⟨y0, y1, y2, m, _, hl, h0, h1, h2⟩ := Deep.trod_struct3 hE h
  rw [hcE] at hl
  rw [t0, o0, hc] at h0
  rw [t1, o1, hc] at h1
  rw [t2, o2, hc] at h2
  match cs, hl with
  | [u, v, z], _ =>
    obtain ⟨a, ha, _⟩ := DataW.trod_int ht h0
    obtain ⟨b, hb, _⟩ := DataW.trod_int ht h1
    obtain ⟨c, hc', _⟩ := DataW.trod_int ht h2
    simp at ha hb hc'
    exact ⟨a, b, c, by rw [ha, hb, hc']⟩
end Go.Proofs.Ytckkkhabjfbngaa

namespace Go.Proofs.Ytckkkhabjfbngaa
open Go.ChangeShapes Go.WideShapes Go.ChangeAt Go.RowKit
set_option linter.unusedVariables false

/-- What a block that came in is: its number, and the slice of its bytes, which reads as bytes. -/
def GoodB (W : World) (y : Int × Value) : Prop := ∃ a len cap xs, y.2 = .slice a len cap ∧ Rd .u8 W a len xs ∧ Bytes xs ∧ len ≤ cap ∧ cap ≤ maxLen

set_option maxRecDepth 100000 in
theorem open_block {H : Type} {enc : TypeId × Value → H} {W : World} {base : Nat} {sp : Nat → Bool} {hd : Bool} {n : Nat} {cs : List Value} {x : DataW H × List MemPlace}
    (h : DataW.trod enc Try.prog W base sp hd n 140 cs = some x) : ∃ y : Int × Value, cs = bkE y ∧ GoodB W y := by
  obtain ⟨y0, y1, m, _, hl, h0, h1⟩ := trod_struct2 Try.underlying140 h
  have hc1 : Try.prog.cellsOf 140 = 2 := by kernel_rfl
  have k0 : Try.prog.cellsOf 2 = 1 := by kernel_rfl
  have k1 : Try.prog.cellsOf 22 = 1 := by kernel_rfl
  rw [hc1] at hl
  match cs, hl with
  | [u, v], _ =>
    obtain ⟨a, ha, _⟩ := DataW.trod_int Try.underlying2 h0
    obtain ⟨p, len, cap, xs, hp, q1, q2, q3, q4⟩ := open_bytes_cells (T := 22) Try.underlying22 Try.underlying5 (by kernel_rfl) h1
    simp only [k0, k1] at ha hp
    simp at ha hp
    exact ⟨(a, v), by simp [bkE, ha], p, len, cap, xs, hp, q1, q2, q3, q4⟩

theorem rdb_of {W : World} {a : Option Addr} {len : Nat} {ys : List Bv} (h : RdR bkE 2 W a len ys) (hg : ∀ y ∈ ys, GoodB W y) : ∃ bs : List Bk, RdB W a len bs ∧ ∀ b ∈ bs, Bytes b.2 := by
  have key : ∀ ys : List Bv, (∀ y ∈ ys, GoodB W y) → ∃ bs : List Bk, ys.length = bs.length ∧ (∀ b ∈ bs, Bytes b.2) ∧ ∀ (j : Nat) (u : Bv) (b : Bk), ys[j]? = some u → bs[j]? = some b → u.1 = b.1 ∧ ∃ a' c', u.2 = .slice a' b.2.length c' ∧ Rd .u8 W a' b.2.length b.2 ∧ b.2.length ≤ c' ∧ c' ≤ maxLen := by
    intro ys
    induction ys with
    | nil => intro _; exact ⟨[], rfl, fun b hb => by simp at hb, fun j u b hu => by simp at hu⟩
    | cons y ys ih =>
      intro hg
      obtain ⟨bs, k1, k2, k3⟩ := ih (fun z hz => hg z (List.mem_cons_of_mem _ hz))
      obtain ⟨a', len', cap', xs, e, hr, hB, h1, h2⟩ := hg y List.mem_cons_self
      have hl := hr.1
      refine ⟨(y.1, xs) :: bs, by simp [k1], fun b hb => ?_, fun j u b hu hb => ?_⟩
      · rcases List.mem_cons.1 hb with rfl | hb
        · exact hB
        · exact k2 b hb
      · cases j with
        | zero =>
          simp at hu hb
          subst hu hb
          subst hl
          exact ⟨rfl, a', cap', e, hr, h1, h2⟩
        | succ j => exact k3 j u b (by simpa using hu) (by simpa using hb)
  obtain ⟨bs, k1, k2, k3⟩ := key ys hg
  exact ⟨bs, ⟨ys, h, k1, k3⟩, k2⟩

set_option maxRecDepth 100000 in
theorem open_cache {H : Type} {enc : TypeId × Value → H} {W : World} {v : Value} {d : DataW H} {p : List MemPlace} {base b0 : Nat} {r : Reach} {sp : Nat → Bool} {hd : Bool}
    (hv : Value.okWide Try.prog W r b0 53 v) (h : DataW.Trod enc Try.prog W base sp hd 53 v d p) :
    ∃ u z a len cap bs, v = .agg #[.int .i64 u, .int .i64 z, .slice a len cap] ∧ RdB W a len bs ∧ (∀ b ∈ bs, Bytes b.2) ∧ len ≤ maxLen := by
  obtain ⟨cs, rfl, hcs⟩ := okWide_struct Try.underlying53 hv
  obtain ⟨fuel, hf⟩ := h
  obtain ⟨y0, y1, y2, m, _, hl, h0, h1, h2⟩ := Deep.trod_struct3 Try.underlying53 hf
  have hc1 : Try.prog.cellsOf 53 = 3 := by kernel_rfl
  have k0 : Try.prog.cellsOf 2 = 1 := by kernel_rfl
  have k1 : Try.prog.cellsOf 51 = 1 := by kernel_rfl
  rw [hc1] at hcs
  obtain ⟨e0, e1, e2, rfl⟩ : ∃ e0 e1 e2, cs = #[e0, e1, e2] := by
    obtain ⟨l⟩ := cs
    match l, hcs with
    | [e0, e1, e2], _ => exact ⟨e0, e1, e2, rfl⟩
  simp only [Value.cells, k0, k1] at h0 h1 h2
  obtain ⟨u, hu, _⟩ := DataW.trod_int Try.underlying2 h0
  obtain ⟨z, hz, _⟩ := DataW.trod_int Try.underlying2 h1
  simp at hu hz
  subst hu hz
  have h2' : ∃ x, DataW.trod enc Try.prog W base sp hd m 51 [e2] = some x := ⟨y2, by simpa using h2⟩
  obtain ⟨x, hx⟩ := h2'
  rcases Deep.open_slice Try.underlying51 hx with ⟨hcs', _⟩ | ⟨x', l, c, m', n', D, Pl, hcs', _⟩
  · simp at hcs'
    subst hcs'
    obtain ⟨ys, q1, q2, q3, q4⟩ := open_rows bkE 2 (GoodB W) Try.underlying51 (by kernel_rfl) bkE_len (by omega) (fun n cs x hx => open_block hx) (a := none) (len := 0) (cap := 0) (d := x.1) (p := x.2) ⟨m, by simpa [Value.cells] using hx⟩
    obtain ⟨bs, b1, b2⟩ := rdb_of q1 q2
    exact ⟨u, z, none, 0, 0, bs, rfl, b1, b2, by omega⟩
  · simp at hcs'
    subst hcs'
    obtain ⟨ys, q1, q2, q3, q4⟩ := open_rows bkE 2 (GoodB W) Try.underlying51 (by kernel_rfl) bkE_len (by omega) (fun n cs x hx => open_block hx) (a := some x') (len := l) (cap := c) (d := x.1) (p := x.2) ⟨m, by simpa [Value.cells] using hx⟩
    obtain ⟨bs, b1, b2⟩ := rdb_of q1 q2
    exact ⟨u, z, some x', l, c, bs, rfl, b1, b2, by omega⟩
end Go.Proofs.Ytckkkhabjfbngaa
