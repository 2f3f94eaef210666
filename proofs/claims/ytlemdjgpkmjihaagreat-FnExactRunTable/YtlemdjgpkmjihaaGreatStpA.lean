/-
  Tab4, ArgsT, Stp0, Stp1, Stp2a, Stp2b, Stp2, Stp3, Stp4 in one text.
-/
import Derived.ArgAppend
import Derived.Deep.DeepAppendRoom
import Derived.Deep.RegionHeld3
import Derived.Test.YtlemdjgpkmjihaaGreatMemB
import Derived.Test.YtlemdjgpkmjihaaGreatTab1
import Derived.Test.YtlemdjgpkmjihaaGreatSetD
import Derived.Test.YtlemdjgpkmjihaaGreatArgsA
import Derived.Test.YtlemdjgpkmjihaaGreatTabA
import Derived.Test.YtlemdjgpkmjihaaGreatEnt0
import Derived.Test.YtlemdjgpkmjihaaGreatEntC
import Derived.Test.YtlemdjgpkmjihaaGreatEntA
import Derived.Test.YtlemdjgpkmjihaaGreatTab3
import Derived.Test.YtlemdjgpkmjihaaGreatTab2
namespace Go.Proofs.YtlemdjgpkmjihaaGreat
open Go.RowKit
set_option linter.unusedVariables false
set_option linter.unusedSimpArgs false

set_option maxHeartbeats 800000 in
theorem l8Next_any (i : Option Addr) (ni ci : Nat) (is : List In) (p : Option Addr) (cp : Nat) (ss : List Int) (d : Int) (hd0 : 0 ≤ d) (hd1 : d < 256) (hin : Inside is) (hsi : inSum is ≤ 1048576) (h1 : 1 ≤ ni) (h2 : ni ≤ 80) (hm : ss.length ≤ 1048576) (hr : ss.Pairwise (· < ·)) (hxs : ∀ q ∈ ss, 0 ≤ q ∧ q < ni) (w : World) (hi : RdR inE 8 w i ni is) (hp : Rd .i64 w p ss.length ss) :
    Calls Tryz.prog 53 #[.slice i ni ci, .slice p ss.length cp, .int .u8 d] w fun e w' => ∃ v, e = .returned v ∧ Own .i64 2 w' w.heap.size v (nextS is ss d).length (nextS is ss d) ∧ Below w.heap.size w w' := by
  have hlen := hi.1
  have hst : ∀ x ∈ placesOf (stepS is d ss), 0 ≤ x ∧ x < (ni : Int) := by
    intro x hx
    obtain ⟨q, rfl, hq⟩ := placesOf_mem.1 hx
    obtain ⟨_, _, j, hj, _, _, rfl⟩ := (stepS_at hin q).1 hq
    have := hin j (List.mem_of_getElem? hj)
    omega
  have hsl : (placesOf (stepS is d ss)).length ≤ 1048576 := by
    have := placesOf_len (stepS is d ss)
    have e : (stepS is d ss).length = is.length := by unfold stepS; rw [stepFold_len]; simp
    omega
  have HST := hid (fun w' h1' h2' => l7Step_any i ni ci is p ss.length cp ss d hd0 hd1 hin hsi h1 h2 hm hxs w' h1' h2')
  have HCL := hid (fun (x : Option Addr) (cx : Nat) w' h1' h2' => l7Close_any i ni ci is x (placesOf (stepS is d ss)).length cx (placesOf (stepS is d ss)) false false hin h1 h2 hsl hst w' h1' h2')
  rw [show nextS is ss d = placesOf (closeS is false false (placesOf (stepS is d ss))) from rfl]
  generalize placesOf (closeS is false false (placesOf (stepS is d ss))) = R at *
  clear hst hsl hlen
  go_enter Tryz.func53, Tryz.ntmps53
  go_wp2_with fail
  refine (HST.out _ hi hp).mono ?_
  rintro e w1 ⟨v1, rfl, ho1, hb1⟩
  obtain ⟨a1, c1, rfl, hr1, hm1⟩ := ho1.rd
  have HR1 := hid hr1
  have HI1 := hid (hi.below hb1)
  clear ho1 hr1 hm1
  go_wp2_with fail
  refine (HCL.out a1 c1 _ HI1.out HR1.out).mono ?_
  rintro e w2 ⟨v2, rfl, ho2, hb2⟩
  obtain ⟨a2, c2, rfl, hr2, hm2⟩ := ho2.rd
  have HO := hid (ho2.up hb1.size)
  have hb02 := hb1.trans (hb2.mono hb1.size)
  clear ho2 hr2 hm2
  go_wp2
  go_ret
  exact ⟨_, rfl, HO.out, hb02⟩

end Go.Proofs.YtlemdjgpkmjihaaGreat

namespace Go.Proofs.YtlemdjgpkmjihaaGreat
open Go.ChangeShapes Go.WideShapes Go.ChangeAt Go.RowKit
set_option linter.unusedVariables false
set_option linter.unusedSimpArgs false

set_option maxRecDepth 100000 in
theorem open_arc {H : Type} {enc : TypeId × Value → H} {W : World} {base : Nat} {sp : Nat → Bool} {hd : Bool} {n : Nat} {cs : List Value} {x : DataW H × List MemPlace}
    (h : DataW.trod enc Tryz.prog W base sp hd n 147 cs = some x) : ∃ y : L2, cs = lineE y ∧ True := by
  obtain ⟨y0, y1, m, _, hl, h0, h1⟩ := trod_struct2 Tryz.underlying147 h
  have hc1 : Tryz.prog.cellsOf 147 = 2 := by kernel_rfl
  have k0 : Tryz.prog.cellsOf 2 = 1 := by kernel_rfl
  rw [hc1] at hl
  match cs, hl with
  | [u, v], _ =>
    obtain ⟨a, ha, _⟩ := DataW.trod_int Tryz.underlying2 h0
    obtain ⟨b, hb, _⟩ := DataW.trod_int Tryz.underlying2 h1
    simp only [k0] at ha hb
    simp at ha hb
    exact ⟨(a, b), by simp [lineE, ha, hb], trivial⟩

/-- What a state that came in is. -/
def GoodS (W : World) (y : Sv) : Prop := ∃ x : St, StRd W y x

set_option maxRecDepth 100000 in
theorem open_ints_cells {H : Type} {enc : TypeId × Value → H} {W : World} {base : Nat} {sp : Nat → Bool} {hd : Bool} {n : Nat} {v : Value} {x : DataW H × List MemPlace}
    (h : DataW.trod enc Tryz.prog W base sp hd n 83 [v] = some x) : ∃ a c xs, v = .slice a xs.length c ∧ Rd .i64 W a xs.length xs ∧ xs.length ≤ c ∧ c ≤ maxLen := by
  rcases Deep.open_slice Tryz.underlying83 h with ⟨hcs', _⟩ | ⟨x', l, c, m', n', D, Pl, hcs', _⟩
  · simp at hcs'
    subst hcs'
    exact ⟨none, 0, [], rfl, ⟨rfl, .inl rfl⟩, by simp, by simp [maxLen]⟩
  · simp at hcs'
    subst hcs'
    obtain ⟨xs, h1, h2, h3⟩ := open_int64s (a := some x') (len := l) (cap := c) (d := x.1) (p := x.2) ⟨n, by simpa [Value.cells] using h⟩
    obtain rfl := h1.1.symm
    exact ⟨some x', c, xs, by rw [h1.1], by rw [h1.1]; exact h1, by rw [h1.1]; exact h2, h3⟩

set_option maxRecDepth 100000 in
theorem open_arcs_cells {H : Type} {enc : TypeId × Value → H} {W : World} {base : Nat} {sp : Nat → Bool} {hd : Bool} {n : Nat} {v : Value} {x : DataW H × List MemPlace}
    (h : DataW.trod enc Tryz.prog W base sp hd n 84 [v] = some x) : ∃ a c xs, v = .slice a xs.length c ∧ RdR lineE 2 W a xs.length xs ∧ xs.length ≤ c ∧ c ≤ maxLen := by
  rcases Deep.open_slice Tryz.underlying84 h with ⟨hcs', _⟩ | ⟨x', l, c, m', n', D, Pl, hcs', _⟩
  · simp at hcs'
    subst hcs'
    exact ⟨none, 0, [], rfl, ⟨rfl, .inl rfl⟩, by simp, by simp [maxLen]⟩
  · simp at hcs'
    subst hcs'
    obtain ⟨xs, h1, -, h2, h3⟩ := open_rows lineE 2 (fun _ => True) Tryz.underlying84 (by kernel_rfl) lineE_len (by omega) (fun n cs x hx => open_arc hx) (a := some x') (len := l) (cap := c) (d := x.1) (p := x.2) ⟨n, by simpa [Value.cells] using h⟩
    exact ⟨some x', c, xs, by rw [h1.1], by rw [h1.1]; exact h1, by rw [h1.1]; exact h2, h3⟩

set_option maxRecDepth 100000 in
theorem open_state {H : Type} {enc : TypeId × Value → H} {W : World} {base : Nat} {sp : Nat → Bool} {hd : Bool} {n : Nat} {cs : List Value} {x : DataW H × List MemPlace}
    (h : DataW.trod enc Tryz.prog W base sp hd n 86 cs = some x) : ∃ y : Sv, cs = svE y ∧ GoodS W y := by
  obtain ⟨y0, y1, m, _, hl, h0, h1⟩ := trod_struct2 Tryz.underlying86 h
  have hc1 : Tryz.prog.cellsOf 86 = 2 := by kernel_rfl
  have k0 : Tryz.prog.cellsOf 83 = 1 := by kernel_rfl
  have k1 : Tryz.prog.cellsOf 84 = 1 := by kernel_rfl
  rw [hc1] at hl
  match cs, hl with
  | [u, v], _ =>
    simp only [k0] at h0 h1
    have h0' : ∃ x, DataW.trod enc Tryz.prog W base sp hd m 83 [u] = some x := ⟨_, by simpa using h0⟩
    have h1' : ∃ x, DataW.trod enc Tryz.prog W base sp hd m 84 [v] = some x := ⟨_, by simpa [k1] using h1⟩
    obtain ⟨x0, h0'⟩ := h0'
    obtain ⟨x1, h1'⟩ := h1'
    obtain ⟨a, c, xs, e1, r1, q1⟩ := open_ints_cells h0'
    obtain ⟨a', c', az, e2, r2, q2⟩ := open_arcs_cells h1'
    exact ⟨(u, v), rfl, (xs, az), ⟨a, c, e1, r1, q1⟩, a', c', e2, r2, q2⟩

theorem rdt_of {W : World} {a : Option Addr} {len : Nat} {ys : List Sv} (h : RdR svE 2 W a len ys) (hg : ∀ y ∈ ys, GoodS W y) : ∃ ts : List St, RdT W a len ts := by
  have key : ∀ ys : List Sv, (∀ y ∈ ys, GoodS W y) → ∃ ts : List St, ys.length = ts.length ∧ ∀ (j : Nat) (u : Sv) (x : St), ys[j]? = some u → ts[j]? = some x → StRd W u x := by
    intro ys
    induction ys with
    | nil => intro _; exact ⟨[], rfl, fun j u b hu => by simp at hu⟩
    | cons y ys ih =>
      intro hg
      obtain ⟨ts, k1, k3⟩ := ih (fun z hz => hg z (List.mem_cons_of_mem _ hz))
      obtain ⟨x, hx⟩ := hg y List.mem_cons_self
      refine ⟨x :: ts, by simp [k1], fun j u b hu hb => ?_⟩
      cases j with
      | zero =>
        simp at hu hb
        subst hu hb
        exact hx
      | succ j => exact k3 j u b (by simpa using hu) (by simpa using hb)
  obtain ⟨ts, k1, k3⟩ := key ys hg
  exact ⟨ts, ys, h, k1, k3⟩

set_option maxRecDepth 100000 in
theorem open_table {H : Type} {enc : TypeId × Value → H} {W : World} {v : Value} {d : DataW H} {p : List MemPlace} {base b0 : Nat} {r : Reach} {sp : Nat → Bool} {hd : Bool}
    (hv : Value.okWide Tryz.prog W r b0 25 v) (h : DataW.Trod enc Tryz.prog W base sp hd 25 v d p) :
    ∃ z a len cap ts, v = .agg #[.int .i64 z, .slice a len cap] ∧ RdT W a len ts ∧ len ≤ maxLen := by
  obtain ⟨cs, rfl, hcs⟩ := okWide_struct Tryz.underlying25 hv
  obtain ⟨fuel, hf⟩ := h
  obtain ⟨y0, y1, m, _, hl, h0, h1⟩ := trod_struct2 Tryz.underlying25 hf
  have hc1 : Tryz.prog.cellsOf 25 = 2 := by kernel_rfl
  have k0 : Tryz.prog.cellsOf 2 = 1 := by kernel_rfl
  have k1 : Tryz.prog.cellsOf 23 = 1 := by kernel_rfl
  rw [hc1] at hcs
  obtain ⟨e0, e1, rfl⟩ : ∃ e0 e1, cs = #[e0, e1] := by
    obtain ⟨l⟩ := cs
    match l, hcs with
    | [e0, e1], _ => exact ⟨e0, e1, rfl⟩
  simp only [Value.cells, k0, k1] at h0 h1
  obtain ⟨z, hz, _⟩ := DataW.trod_int Tryz.underlying2 h0
  simp at hz
  subst hz
  have h1' : ∃ x, DataW.trod enc Tryz.prog W base sp hd m 23 [e1] = some x := ⟨y1, by simpa using h1⟩
  obtain ⟨x, hx⟩ := h1'
  rcases Deep.open_slice Tryz.underlying23 hx with ⟨hcs', _⟩ | ⟨x', l, c, m', n', D, Pl, hcs', _⟩
  · simp at hcs'
    subst hcs'
    exact ⟨z, none, 0, 0, [], rfl, RdT.nil _ _, by simp [maxLen]⟩
  · simp at hcs'
    subst hcs'
    obtain ⟨ys, q1, q2, q3, q4⟩ := open_rows svE 2 (GoodS W) Tryz.underlying23 (by kernel_rfl) svE_len (by omega) (fun n cs x hx => open_state hx) (a := some x') (len := l) (cap := c) (d := x.1) (p := x.2) ⟨m, by simpa [Value.cells] using hx⟩
    obtain ⟨ts, b1⟩ := rdt_of q1 q2
    exact ⟨z, some x', l, c, ts, rfl, b1, by omega⟩
end Go.Proofs.YtlemdjgpkmjihaaGreat

namespace Go.Proofs.YtlemdjgpkmjihaaGreat
open Go.RowKit
set_option linter.unusedVariables false
set_option linter.unusedSimpArgs false

/-- One cell of an element is stored, behind a change of what that element owns. -/
theorem RowN.put {σ α : Type} {El : World → Nat → Nat → σ → α → Prop} {blk : σ → List Nat} {cells : σ → List Value} {size : Nat} {e : TypeId} {w : World} {lo hi n : Nat} {xs : List α} (H : ElOk El blk e) (hE : ∀ u, (cells u).length = size) {g cap j : Nat} {x : α}
    (h : RowN El blk cells size e w lo hi (.slice (some ⟨g, 0, none⟩) n cap) n xs) (hj : xs[j]? = some x) :
    ∃ u, (∀ f y, (cells u)[f]? = some y → w.cell? ⟨g, j * size + f, none⟩ = some y) ∧ El w lo hi u x ∧ (lo ≤ g ∧ g < w.heap.size) ∧ (∀ B cs t, Blk w B cs t → t ≠ e → B ≠ g) ∧
      ∀ (w1 : World) (row : Option Nat) (u' : σ) (f : Nat) (val : Value) (y : α), w.grownBy w1 row → (∀ b, row = some b → b ∈ blk u) → cells u' = (cells u).set f val → f < size → El w1 lo w1.heap.size u' y → (∀ b ∈ blk u', b ∈ blk u ∨ w.heap.size ≤ b) →
        (w1.cell? ⟨g, j * size + f, none⟩).isSome = true ∧ w1.frozen? ⟨g, j * size + f, none⟩ = false ∧ RowN El blk cells size e (w1.setCell ⟨g, j * size + f, none⟩ val) lo w1.heap.size (.slice (some ⟨g, 0, none⟩) n cap) n (xs.set j y) := by
  obtain ⟨us, h1, h2, h3, h4⟩ := h
  have hjb : j < xs.length := (List.getElem?_eq_some_iff.1 hj).1
  have hju : j < us.length := by omega
  have hx : us[j]? = some us[j] := by simp [hju]
  have hel := h3 j us[j] x hx hj
  have hgn := RowN.own H h1 hel
  have hglt := World.ownsRow.lt h1.1.2 g rfl
  refine ⟨us[j], fun f y hy => OwnR.cell hE h1.1 hx hy, hel, hglt, fun B cs t hB ht => ?_, fun w1 row u' f val y hg hr hcu hf hel' hnew => ?_⟩
  · intro e0
    subst e0
    rcases h1.1.2.2 with h0 | ⟨g', cap', cur, hv, _, hcur, _⟩
    · simp at h0
    · simp at hv
      obtain ⟨hv, -⟩ := hv
      subst hv
      rw [show w.heap[B]? = _ from hB] at hcur
      simp at hcur
      exact ht hcur.2
  have hrg : row ≠ some g := fun e0 => hgn (hr g e0)
  have k1 : OwnR cells size e w1 lo (.slice (some ⟨g, 0, none⟩) n cap) n us := ⟨h1.1.1, World.ownsRow.kept h1.1.2 hg (.inr (fun e1 => hrg (by simpa [Value.ownBlock] using e1.symm)))⟩
  have hw1 : w.heap.size ≤ w1.heap.size := hg.size
  have st := OwnR.store hE k1 hx hf hcu
  have hgu : g ∉ blk u' := by
    intro hm
    rcases hnew g hm with h0 | h0
    · exact hgn h0
    · omega
  have hcell : ∃ c, (cells us[j])[f]? = some c := ⟨(cells us[j])[f]'(by rw [hE]; exact hf), by simp [hE, hf]⟩
  obtain ⟨c, hc⟩ := hcell
  refine ⟨by rw [OwnR.cell hE k1 hx hc]; rfl, k1.frozen _, us.set j u', ⟨st.1, fun i hi1 => by simp [Value.ownBlock] at hi1; omega⟩, by simp [h2], ?_, ?_⟩
  · intro i y' z hy hz
    by_cases e1 : i = j
    · subst e1
      have e3 : y' = u' := by simpa [hju] using hy.symm
      have e4 : z = y := by simpa [hjb] using hz.symm
      subst e3 e4
      exact H.grown hel' st.2 (fun b hb e2 => hgu (by cases e2; exact hb))
    · rw [List.getElem?_set_ne (Ne.symm e1)] at hy hz
      have h5 := h3 i y' z hy hz
      have h6 := H.grown h5 hg (fun b hb e2 => h4 j i us[j] y' (Ne.symm e1) hx hy b (hr b e2) hb)
      have h7 := H.move (lo' := lo) (hi' := w1.heap.size) h6 (fun b hb => by have := H.inn h6 b hb; omega)
      exact H.grown h7 st.2 (fun b hb e2 => RowN.own H h1 h5 (by cases e2; exact hb))
  · have old : ∀ (i : Nat) (y : σ), us[i]? = some y → ∀ b ∈ blk y, b < w.heap.size := fun i y hy b hb => by
      have : i < xs.length := by rw [← h2]; exact (List.getElem?_eq_some_iff.1 hy).1
      exact (H.inn (h3 i y xs[i] hy (by simp [this])) b hb).2.2
    intro i i' y1 y2 hne hy hy' b hb hb'
    by_cases e1 : i = j
    · subst e1
      have e3 : y1 = u' := by simpa [hju] using hy.symm
      subst e3
      rw [List.getElem?_set_ne hne] at hy'
      rcases hnew b hb with h0 | h0
      · exact h4 i i' us[i] y2 hne hx hy' b h0 hb'
      · have := old i' y2 hy' b hb'; omega
    · rw [List.getElem?_set_ne (Ne.symm e1)] at hy
      by_cases e2 : i' = j
      · subst e2
        have e3 : y2 = u' := by simpa [hju] using hy'.symm
        subst e3
        rcases hnew b hb' with h0 | h0
        · exact h4 i i' y1 us[i'] hne hy hx b hb h0
        · have := old i y1 hy b hb; omega
      · rw [List.getElem?_set_ne (Ne.symm e2)] at hy'
        exact h4 i i' y1 y2 hne hy hy' b hb hb'

/-- The block that a row of one type has is no block of another type. -/
theorem SubV.own_type {weak : Bool} {e : TypeId} {size : Nat} {w : World} {lo hi n : Nat} {s : Value × Option Nat} {vs : List Value} {B : Nat} (h : SubV weak e size w lo hi s n vs) (hs : s.2 = some B) (hB : ∀ cs q, w.heap[B]? ≠ some (.cells cs e q)) : False := by
  rcases h with h | ⟨g, cap, rfl, hh, ho⟩
  · rw [h.1] at hs; cases hs
  · simp at hs
    subst hs
    rcases ho.2 with h0 | ⟨g', cap', cur, hv, _, hcur, _⟩
    · simp at h0
    · simp at hv
      obtain ⟨hv, -⟩ := hv
      subst hv
      exact hB _ _ hcur

theorem lineE_one (c : L2) : ∀ u ∈ lineE c, u.oneCell' = true := by
  intro u hu
  simp [lineE] at hu
  rcases hu with rfl | rfl <;> rfl

theorem line_snoc (xs : List L2) (c : L2) : (xs ++ [c]).flatMap lineE = xs.flatMap lineE ++ lineE c := by
  rw [List.flatMap_append]
  simp

/-- One arc behind a row of arcs that the call owns: the row's block is the old one or a new one. -/
theorem run_appArc1 {w : World} (ty : TypeId) (base : Nat) (v : Value) (n : Nat) (xs : List L2) (hown : OwnR lineE 2 99 w base v n xs)
    (b c : Nat) (i : L2) (hc : ∀ f u, (lineE i)[f]? = some u → w.cell? ⟨b, f, none⟩ = some u) (hn : n ≤ 1000000) (hbase : base ≤ w.heap.size) :
    ∃ v' w', (Builtin.append_ #[89, 89] ty #[v, .slice (some ⟨b, 0, none⟩) 1 c]).run Tryz.prog w = .ok v' w' ∧ OwnR lineE 2 99 w' base v' (n + 1) (xs ++ [i]) ∧ w.grownBy w' v.ownBlock ∧ (v'.ownBlock = v.ownBlock ∨ ∀ j, v'.ownBlock = some j → w.heap.size ≤ j) := by
  obtain ⟨i0, hi, hz0, hz1, hz2⟩ := info_parts infoArc
  have hcs : ∀ j u, (lineE i)[j]? = some u → w.cell? ((⟨b, 0, none⟩ : Addr).add j) = some u := fun j u hu => by rw [Addr.add_lit, Nat.zero_add]; exact hc j u hu
  have mk : ∀ {w' : World} {base' : Nat} {v' : Value}, w'.ownsRow base' 99 2 v' (n + 1) (xs.flatMap lineE ++ lineE i) → OwnR lineE 2 99 w' base' v' (n + 1) (xs ++ [i]) := fun h1 => by
    rw [← line_snoc] at h1
    exact ⟨by rw [List.length_append, hown.1]; rfl, h1⟩
  rcases hown.2.2 with ⟨rfl, rfl⟩ | ⟨g, cap, cur, rfl, hbg, hg, hnc, hcm, hcs', htake⟩
  · have hx0 : xs = [] := List.eq_nil_of_length_eq_zero hown.1
    subst hx0
    obtain ⟨v', w', h1, h2, h3, -⟩ := run_append_own (P := Tryz.prog) w w.heap.size 89 ty 99 i0 _ 2 16 Tryz.underlying89 hi hz0 hz1 hz2 rfl (by decide) (.slice none 0 0) 0 [] (World.ownsRow_nil _ _ _ _) ⟨b, 0, none⟩ 1 c (lineE i) rfl hcs (lineE_one i) (by unfold maxLen; omega) (by omega) (Nat.le_refl _)
    have h2' := mk h2
    exact ⟨v', w', h1, h2'.up hbase, h3, .inr fun j hj => (h2'.lt j hj).1⟩
  · by_cases hroom : n + 1 ≤ cap
    · obtain ⟨w', h1, h2, h3⟩ := run_append_own_spare (P := Tryz.prog) w base 89 ty 99 i0 2 Tryz.underlying89 hi hz1 g n cap (xs.flatMap lineE) hown.2 ⟨b, 0, none⟩ 1 c (lineE i) rfl hcs (lineE_one i) hroom
      exact ⟨_, w', h1, mk h2, h3, .inl rfl⟩
    · obtain ⟨v', w', h1, h2, h3, -⟩ := run_append_own (P := Tryz.prog) w base 89 ty 99 i0 _ 2 16 Tryz.underlying89 hi hz0 hz1 hz2 rfl (by decide) _ n (xs.flatMap lineE) hown.2 ⟨b, 0, none⟩ 1 c (lineE i) rfl hcs (lineE_one i) (by unfold maxLen; omega) (by omega) hbase
      have holds : ∀ j u, (xs.flatMap lineE)[j]? = some u → w.cell? ((⟨g, 0, none⟩ : Addr).add j) = some u := World.ownsRow.cells (g := g) hown.2 rfl
      have h4 := run_append_grow (P := Tryz.prog) w 89 ty 99 i0 _ Tryz.underlying89 hi hz0 ⟨g, 0, none⟩ n cap (xs.flatMap lineE) (by rw [hz1]; exact hown.2.1) holds ⟨b, 0, none⟩ 1 c (lineE i) (by rw [hz1]; rfl) hcs (by omega) (by omega) (growslice_fits (by omega) (by rw [hz2]; omega))
      rw [h1] at h4
      cases h4
      exact ⟨_, _, h1, mk h2, h3, .inr fun j hj => by simp [Value.ownBlock] at hj; omega⟩

/-- One arc behind arcs that are not the call's own and have no room. -/
theorem run_appArcF {w : World} (ty : TypeId) (a : Option Addr) (n : Nat) (xs : List L2) (hr : RdR lineE 2 w a n xs)
    (b c : Nat) (i : L2) (hc : ∀ f u, (lineE i)[f]? = some u → w.cell? ⟨b, f, none⟩ = some u) (hn : n ≤ 1000000) :
    ∃ v' w', (Builtin.append_ #[89, 89] ty #[.slice a n n, .slice (some ⟨b, 0, none⟩) 1 c]).run Tryz.prog w = .ok v' w' ∧ OwnR lineE 2 99 w' w.heap.size v' (n + 1) (xs ++ [i]) ∧ w.grownBy w' none := by
  obtain ⟨i0, hi, hz0, hz1, hz2⟩ := info_parts infoArc
  have hcs : ∀ j u, (lineE i)[j]? = some u → w.cell? ((⟨b, 0, none⟩ : Addr).add j) = some u := fun j u hu => by rw [Addr.add_lit, Nat.zero_add]; exact hc j u hu
  have mk : ∀ {w' : World} {base' : Nat} {v' : Value}, w'.ownsRow base' 99 2 v' (n + 1) (xs.flatMap lineE ++ lineE i) → OwnR lineE 2 99 w' base' v' (n + 1) (xs ++ [i]) := fun h1 => by
    rw [← line_snoc] at h1
    exact ⟨by rw [List.length_append, hr.1]; rfl, h1⟩
  cases a with
  | none =>
    have hm : n = 0 := by
      rcases hr.2 with h0 | ⟨b, off, ha, _⟩
      · exact h0
      · cases ha
    subst hm
    have hx0 : xs = [] := List.eq_nil_of_length_eq_zero hr.1
    subst hx0
    obtain ⟨v', w', h1, h2, h3, -⟩ := run_append_own (P := Tryz.prog) w w.heap.size 89 ty 99 i0 _ 2 16 Tryz.underlying89 hi hz0 hz1 hz2 rfl (by decide) (.slice none 0 0) 0 [] (World.ownsRow_nil _ _ _ _) ⟨b, 0, none⟩ 1 c (lineE i) rfl hcs (lineE_one i) (by unfold maxLen; omega) (by omega) (Nat.le_refl _)
    exact ⟨v', w', h1, mk h2, h3⟩
  | some ad =>
    obtain ⟨v', w', h1, h2, h3⟩ := run_append_arg_grows (P := Tryz.prog) w 89 ty 99 i0 _ 2 16 Tryz.underlying89 hi hz0 hz1 hz2 rfl (by decide) ad n n (xs.flatMap lineE) (by rw [length_flatMap' lineE 2 lineE_len, hr.1]) (rdr_cells hr) ⟨b, 0, none⟩ 1 c (lineE i) rfl hcs (by omega) (by unfold maxLen; omega) (by omega)
    exact ⟨v', w', h1, mk h2, h3⟩
end Go.Proofs.YtlemdjgpkmjihaaGreat

namespace Go.Proofs.YtlemdjgpkmjihaaGreat
open Go.RowKit
set_option linter.unusedVariables false
set_option linter.unusedSimpArgs false

theorem wpList_appArc1 {w : World} {ops : Array Oper} {rest : List Oper} {o : Oper} {a : Act} {Q : Exit → Act → World → Prop} (hgd : o.guard = none) (s x : Operand) (ho : o.op = .call { callee := .builtin .append, args := #[s, x], argTypes := #[89, 89] })
    (base : Nat) (v : Value) (n : Nat) (xs : List L2) (hs : a.eval s = v) (hown : OwnR lineE 2 99 w base v n xs) (b c : Nat) (i : L2) (hx : a.eval x = .slice (some ⟨b, 0, none⟩) 1 c) (hc : ∀ f u, (lineE i)[f]? = some u → w.cell? ⟨b, f, none⟩ = some u) (hn : n ≤ 1000000) (hbase : base ≤ w.heap.size)
    (h : ∀ v' w', OwnR lineE 2 99 w' base v' (n + 1) (xs ++ [i]) → w.grownBy w' v.ownBlock → (v'.ownBlock = v.ownBlock ∨ ∀ j, v'.ownBlock = some j → w.heap.size ≤ j) → wpList Tryz.prog ops Q rest (a.put o.dst v') w') : wpList Tryz.prog ops Q (o :: rest) a w := by
  refine wpList_plain hgd fun K hK => ?_
  obtain ⟨v', w', hrun, h2, h3, h4⟩ := run_appArc1 o.type base v n xs hown b c i hc hn hbase
  unfold Oper.wp execOp
  simp only [ho, resolve, invoke, builtin, Sem.run_bind, Sem.run_pure, Result.andThen_ok, List.map_toArray, List.map_cons, List.map_nil, hs, hx, hrun]
  exact hK _ _ (h v' w' h2 h3 h4)

set_option maxHeartbeats 1600000 in
theorem l8Arc_any (g o : Nat) (q : Option Addr) (cq : Nat) (az : List L2) (b : Int) (w : World) (c1 : w.cell? ⟨g, o + 1, none⟩ = some (.slice q az.length cq)) (hr : RdR lineE 2 w q az.length az) (hm : az.length ≤ 1000000) :
    Calls Tryz.prog 51 #[.pointer (some ⟨g, o, none⟩), .int .i64 b] w fun e w' => e = .returned (.int .i64 (arcTo az b)) ∧ w' = w := by
  obtain ⟨R, hR⟩ : ∃ R, R = arcTo az b := ⟨_, rfl⟩
  rw [← hR]
  have HT : Hid (arcTo (az.drop 0) b = R) := hid (by rw [hR]; rfl)
  have HA := hid hr
  clear hR hr
  go_enter Tryz.func51, Tryz.ntmps51
  go_wp2
  go_loop [5] (fun i => ∃ k : Nat, k ≤ az.length ∧ i = .int .i64 k ∧ Hid (arcTo (az.drop k) b = R)) (fun i => az.length - (intOf i).toNat)
  case atStart => exact ⟨0, Nat.zero_le _, rfl, HT⟩
  case round =>
    obtain ⟨k, hk, rfl, ht⟩ := hrel
    clear HT
    by_cases hlt : k < az.length
    · obtain ⟨b1, o1, c, rfl, hx, hc⟩ := HA.out.at hlt
      obtain ⟨d0, d1⟩ := two hc
      have ht2 := ht.out
      rw [arcTo_at hx] at ht2
      clear hx hc ht
      have hlt' : (k : Int) < (az.length : Int) := by omega
      obtain ⟨x, y⟩ := c
      simp only at d0 d1 ht2
      by_cases h1 : x = b
      · rw [if_pos h1] at ht2
        have HT2 := hid ht2
        clear ht2
        subst h1
        go_wp2
        go_ret
        exact ⟨ret_int HT2.out, rfl⟩
      · rw [if_neg h1] at ht2
        have HT2 := hid ht2
        clear ht2
        go_wp2
        go_round
        case rel => exact ⟨k + 1, by omega, by go_num, HT2⟩
        case measure => simp [intOf]; omega
    · obtain rfl : k = az.length := by omega
      have ht2 := ht.out
      rw [arcTo_end (Nat.le_refl _)] at ht2
      have HT2 := hid ht2
      clear ht2 ht
      go_wp2
      go_ret
      exact ⟨ret_int HT2.out, rfl⟩

set_option maxHeartbeats 3200000 in
set_option maxRecDepth 20000 in
theorem l8Step_any (W0 : World) (i : Option Addr) (ni ci : Nat) (is : List In) (lo B : Nat) (z : Int) (va : Option Addr) (n cva : Nat) (ts : List St) (s : Nat) (d : Int) (M : Nat) (w : World) (hd0 : 0 ≤ d) (hd1 : d < 256) (hin : Inside is) (hsi : inSum is ≤ 1048576) (h1 : 1 ≤ ni) (h2 : ni ≤ 80)
    (hi : RdR inE 8 W0 i ni is) (hbw : Below W0.heap.size W0 w) (hbk : Blk w B #[.int .i64 z, .slice va n cva] 30) (hrow : RowT false 91 2 99 w lo w.heap.size (.slice va n cva) n ts) (hI : TabI is.length z M ts) (hM : M ≤ 65536) (hsn : s < n) (hlo : lo ≤ w.heap.size) (hbl : W0.heap.size ≤ lo) (hbB : W0.heap.size ≤ B) :
    Calls Tryz.prog 29 #[.slice i ni ci, .pointer (some ⟨B, 0, none⟩), .int .i64 (s : Int), .int .u8 d] w fun e w' => e = .returned (.int .i64 (goP is z ts s d)) ∧ ∃ va' n' c', Blk w' B #[.int .i64 z, .slice va' n' c'] 30 ∧ RowT false 91 2 99 w' lo w'.heap.size (.slice va' n' c') n' (goS is z ts s d) ∧ Below W0.heap.size W0 w' := by
  have hni := hi.1
  have hln := RowN.len hrow
  have hst : s < ts.length := by omega
  have hx : ts[s]? = some ts[s] := List.getElem?_eq_getElem hst
  have hxm : ts[s] ∈ ts := List.getElem_mem hst
  have hSA := stAt_of hx
  have hsum := hI.sum
  obtain ⟨g, cap, hva, -⟩ : ∃ g cap, Value.slice va n cva = .slice (some ⟨g, 0, none⟩) n cap ∧ True := by
    rcases RowN.cases hrow with ⟨-, e, -⟩ | ⟨g, cap, e, -⟩
    · omega
    · exact ⟨g, cap, e, trivial⟩
  simp only [Value.slice.injEq, true_and] at hva
  obtain ⟨rfl, rfl⟩ := hva
  obtain ⟨u, hcu, hel, hg0, -, -⟩ := RowN.put (tabOk false) suE_len hrow hx
  obtain ⟨p, cp, e1, -⟩ := SubV.shape hel.1
  obtain ⟨q, cq, e2, -⟩ := SubV.shape hel.2
  have hrp := SubI.read hel.1 e1
  have hrq := SubS.read lineE_len hel.2 e2
  have f0 := hcu 0 _ rfl
  have f1 := hcu 1 _ rfl
  rw [e1] at f0
  rw [e2] at f1
  rw [Nat.add_zero] at f0
  have hr1 := hI.rise _ hxm
  have hr2 := hI.inn _ hxm
  have hr3 := hI.lens _ hxm
  have hr4 := hI.many _ hxm
  obtain ⟨k1, k2, k3⟩ := nextS_ok hin (by omega) d hr1 hr2
  unfold goP goS
  rw [hSA]
  obtain ⟨X, hX⟩ : ∃ X, X = ts[s] := ⟨_, rfl⟩
  rw [← hX] at hx hrp hrq f0 f1 hr1 hr2 hr3 hr4 k1 k2 k3 ⊢
  clear hSA hxm hcu hel e1 e2 hX
  obtain ⟨ss, az⟩ := X
  simp only at hrp hrq f0 f1 hr1 hr2 hr3 hr4 k1 k2 k3 ⊢
  have HARC := hid (l8Arc_any g (s * 2) q cq az d w f1 hrq (by omega))
  have c1 : w.cell? ⟨B, 1, none⟩ = some (.slice (some ⟨g, 0, none⟩) n cva) := by have := hbk.cell 1; simpa using this
  have hsn' : (s : Int) < (n : Int) := by omega
  have hconv : IntKind.i64.wrap d = d := by rw [IntKind.wrap_i64]; omega
  obtain ⟨A, hA⟩ : ∃ A, A = arcTo az d := ⟨_, rfl⟩
  rw [← hA] at HARC ⊢
  by_cases ha : 0 ≤ A
  · rw [if_pos ha, if_pos ha]
    have HK := hid hbk
    have HR := hid hrow
    have HW := hid hbw
    clear hA hsum hr1 hr2 hr3 hr4 k1 k2 k3 hx hrp hrq hI hbk hrow hbw f1
    go_enter Tryz.func29, Tryz.ntmps29
    go_wp2_with fail
    refine HARC.out.mono ?_
    rintro e w1 ⟨rfl, rfl⟩
    go_wp2
    go_ret
    exact ⟨rfl, _, _, _, HK.out, HR.out, HW.out⟩
  rw [if_neg ha, if_neg ha]
  have HNX := hid (l8Next_any i ni ci is p cp ss d hd0 hd1 hin hsi h1 h2 (by omega) hr1 (by rw [← hni]; exact hr2) w (hi.below hbw) hrp)
  have hcases := entG_cases z ts (nextS is ss d)
  have hEI := (hI.enter k1 k2 k3).1
  generalize nextS is ss d = N at *
  have HEN := hid (fun (s' : Option Addr) (cs : Nat) (w' : World) h3 h4 h5 h6 h7 => l8Enter_any W0.heap.size lo B z (some ⟨g, 0, none⟩) n cva ts s' N.length cs N w' h3 h4 h5 (by omega) k3 h6 hbl hbB h7)
  obtain ⟨P, hP⟩ : ∃ P, P = entP z ts N := ⟨_, rfl⟩
  obtain ⟨G, hG⟩ : ∃ G, G = entG z ts N := ⟨_, rfl⟩
  rw [← hP, ← hG] at HEN
  rw [← hG] at hcases
  rw [← hP, ← hG]
  have HES : Hid (G = false → ∀ y : St, ts[s]? = some y → (entS z ts N)[s]? = some y) := hid (fun e0 y hy => by
    rcases hcases with ⟨h0, -⟩ | ⟨-, us, h0⟩
    · rw [e0] at h0; cases h0
    · rw [h0, List.getElem?_append_left hst]; exact hy)
  have HX := hid hx
  have hEl := (hEI.sum : _)
  have hE2 := hEI.many
  generalize entS z ts N = E at *
  have hBw : B < w.heap.size := hbk.lt
  have HK := hid hbk
  have HR := hid hrow
  have HW := hid hbw
  have HMY := hid hE2
  have ha' : A < 0 := by omega
  clear hA hsum hr1 hr2 hr3 k1 k2 k3 hx hrp hrq hI hbk hrow hbw f1 hP hG hcases hEI hE2 ha
  go_enter Tryz.func29, Tryz.ntmps29
  go_wp2_with fail
  refine HARC.out.mono ?_
  rintro e w1 ⟨rfl, rfl⟩
  go_wp2_with fail
  refine HNX.out.mono ?_
  rintro e w2 ⟨v2, rfl, ho2, hb2⟩
  obtain ⟨a2, c2, rfl, -, -⟩ := ho2.rd
  have HO2 := hid ho2
  have HB2 := hid hb2
  clear ho2 hb2
  go_wp2_with fail
  refine (HEN.out a2 c2 w2 (Blk.of HK.out HB2.out) (RowN.mono (tabOk false) (RowN.below (tabOk false) HR.out HB2.out) (Nat.le_refl _) HB2.out.size) HO2.out.read (by have := HB2.out.size; omega) (fun _ ad had => by
    have hlt2 := HO2.out.lt
    rcases HO2.out.2 with ⟨e, -⟩ | ⟨g', cap', cur, e, hbg, -⟩
    · rw [Value.slice.injEq] at e
      rw [had] at e
      cases e.1
    · rw [Value.slice.injEq] at e
      rw [had] at e
      have e9 := e.1
      cases e9
      show g' ≠ B
      omega)).mono ?_
  rintro e w3 ⟨rfl, va3, n3, c3, hk3, hr3, hb3⟩
  have HW3 := hid (((HW.out.trans (HB2.out.mono HW.out.size)).trans hb3))
  have HK3 := hid hk3
  have HR3 := hid hr3
  clear hk3 hr3 hb3
  cases G
  case true =>
    simp only [if_true]
    go_wp2
    go_ret
    exact ⟨rfl, _, _, _, HK3.out, HR3.out, HW3.out⟩
  simp only [Bool.false_eq_true, if_false]
  have hx3 := HES.out rfl (ss, az) HX.out
  have hl3 := RowN.len HR3.out
  have hs3 : s < n3 := by have := (List.getElem?_eq_some_iff.1 hx3).1; omega
  have hs3' : (s : Int) < (n3 : Int) := by omega
  obtain ⟨g3, cap3, hva, -⟩ : ∃ g cap, Value.slice va3 n3 c3 = .slice (some ⟨g, 0, none⟩) n3 cap ∧ True := by
    rcases RowN.cases HR3.out with ⟨-, e, -⟩ | ⟨g, cap, e, -⟩
    · omega
    · exact ⟨g, cap, e, trivial⟩
  simp only [Value.slice.injEq, true_and] at hva
  obtain ⟨rfl, rfl⟩ := hva
  have k1 : w3.cell? ⟨B, 1, none⟩ = some (.slice (some ⟨g3, 0, none⟩) n3 c3) := by have := HK3.out.cell 1; simpa using this
  obtain ⟨w4, hw4⟩ : ∃ w4, w4 = w3.alloc (.cells #[.int .i64 d, .int .i64 P] 99) := ⟨_, rfl⟩
  have hb4 : Below w3.heap.size w3 w4 := by rw [hw4]; exact (Below.refl _ _).alloc (Nat.le_refl _) _
  have HN4 : Hid (Blk w4 w3.heap.size #[.int .i64 d, .int .i64 P] 99) := by rw [hw4]; exact hid (Blk.new _ _ _)
  have HZ4 : Hid (w4.heap.size = w3.heap.size + 1) := by rw [hw4]; exact hid (by simp)
  have HK4 := hid (Blk.of HK3.out hb4)
  have HR4 : Hid (RowT false 91 2 99 w4 lo w4.heap.size (.slice (some ⟨g3, 0, none⟩) n3 c3) n3 E) := hid (RowN.mono (tabOk false) (RowN.below (tabOk false) HR3.out hb4) (Nat.le_refl _) hb4.size)
  have HW4 := hid (HW3.out.trans (hb4.mono HW3.out.size))
  obtain ⟨u3, hcu3, -, -, -, -⟩ := RowN.put (tabOk false) suE_len HR3.out hx3
  obtain ⟨u4, hcu4, hel4, hg4, hbne, hput⟩ := RowN.put (tabOk false) suE_len HR4.out hx3
  have e34 : u3.2.1 = u4.2.1 := by
    have q1 := cell_later hb4 (hcu3 1 _ rfl)
    have q2 := hcu4 1 _ rfl
    rw [q2] at q1
    simpa using q1.symm
  obtain ⟨q4, cq4, e4, -⟩ := SubV.shape hel4.2
  have f3 := hcu3 1 _ rfl
  rw [e34, e4] at f3
  have f4 := hcu4 1 _ rfl
  rw [e4] at f4
  have hrow4 := SubS.row hel4.2
  rw [e4] at hrow4
  have HOW := hid hrow4.1
  have HOB : Hid (u4.2.2 = (Value.slice q4 az.length cq4).ownBlock) := hid hrow4.2
  have HEL4 := hid hel4
  have HPUT := hid hput
  have HBN := hid (hbne B _ _ HK4.out (by decide))
  have HFR := hid (RowN.frozen HR4.out)
  have haz : az.length ≤ 1000000 := by omega
  clear hcu3 hcu4 hel4 hput hbne hrow4 e34 e4 hx3 hl3
  go_wp2_with (at_builtin; rw [← hw4]; refine wpList_appArc1 rfl _ _ rfl lo _ az.length az rfl HOW.out.1 w3.heap.size 1 (d, P) rfl (fun f y hy => by
    rcases f with _ | _ | f
    · simp [lineE] at hy; rw [← hy]; simpa using HN4.out.cell 0
    · simp [lineE] at hy; rw [← hy]; simpa using HN4.out.cell 1
    · simp [lineE] at hy) haz (by have := HOW.out; have := HW4.out.size; have := hb4.size; omega) ?_)
  intro v5 w5 ho5 hg5 hnew5
  rw [← hw4] at hg5
  replace hnew5 : (v5.ownBlock = (Value.slice q4 az.length cq4).ownBlock ∨ ∀ j, v5.ownBlock = some j → w4.heap.size ≤ j) := hnew5.imp id (fun h j hj => by have := h j hj; have := HZ4.out; omega)
  rw [← HOB.out] at hg5
  have hsh5 := (RowS.of ho5).shape lineE_len
  obtain ⟨a5, c5, rfl, -, -⟩ := hsh5
  have hsz5 : w4.heap.size ≤ w5.heap.size := hg5.size
  have hel5 : StEl false 2 99 w5 lo w5.heap.size (u4.1, (Value.slice a5 (az.length + 1) c5, (Value.slice a5 (az.length + 1) c5).ownBlock)) (ss, az ++ [(d, P)]) := by
    refine ⟨?_, SubS.of (RowS.of ho5)⟩
    have q1 : SubI false .i64 2 w5 lo w4.heap.size u4.1 ss := SubV.kept HEL4.out.1 (fun gg hgg => by
      have hi5 := SubV.inn HEL4.out.1 gg hgg
      refine hg5.block gg hi5.2.2 (fun e => ?_)
      exact StEl.two (by decide) HEL4.out gg hgg e.symm)
    exact SubV.move q1 (fun gg hgg => by have := SubV.inn q1 gg hgg; omega)
  obtain ⟨r1, r2, r3⟩ := HPUT.out w5 u4.2.2 (u4.1, (Value.slice a5 (az.length + 1) c5, (Value.slice a5 (az.length + 1) c5).ownBlock)) 1 (.slice a5 (az.length + 1) c5) (ss, az ++ [(d, P)]) hg5 (fun b hb => (suB_mem _ _).2 (.inr hb)) rfl (by decide) hel5 (fun b hb => by
    rcases (suB_mem _ _).1 hb with hb | hb
    · exact .inl ((suB_mem _ _).2 (.inl hb))
    · rcases hnew5 with h0 | h0
      · exact .inl ((suB_mem _ _).2 (.inr (by rw [HOB.out, ← h0]; exact hb)))
      · exact .inr (h0 b hb))
  obtain ⟨cv, hcv⟩ := Option.isSome_iff_exists.1 r1
  have HK5 : Hid (Blk (w5.setCell ⟨g3, s * 2 + 1, none⟩ (.slice a5 (az.length + 1) c5)) B #[.int .i64 z, .slice (some ⟨g3, 0, none⟩) n3 c3] 30) := hid (Blk.other (Blk.kept HK4.out hg5 (fun e => by
    have hb9 : ∀ cs q, w4.heap[B]? ≠ some (.cells cs 99 q) := blk_no HK4.out (by decide)
    exact SubV.own_type HEL4.out.2 (by rw [HOB.out] at e ⊢; exact e.symm) hb9)) HBN.out _)
  have HR5 : Hid (RowT false 91 2 99 (w5.setCell ⟨g3, s * 2 + 1, none⟩ (.slice a5 (az.length + 1) c5)) lo (w5.setCell ⟨g3, s * 2 + 1, none⟩ (.slice a5 (az.length + 1) c5)).heap.size (.slice (some ⟨g3, 0, none⟩) n3 c3) n3 (E.set s (ss, az ++ [(d, P)]))) := hid (by
    have e9 : (w5.setCell ⟨g3, s * 2 + 1, none⟩ (.slice a5 (az.length + 1) c5)).heap.size = w5.heap.size := by simp
    rw [e9]
    exact r3)
  have HW5 : Hid (Below W0.heap.size W0 (w5.setCell ⟨g3, s * 2 + 1, none⟩ (.slice a5 (az.length + 1) c5))) := hid ((HW4.out.grown hg5 HW4.out.size (fun j hj => by
    have := SubV.inn HEL4.out.2 j hj
    omega)).setCell (by show W0.heap.size ≤ g3; omega) _)
  clear r1 r3 hel5 ho5 hg5 hnew5
  go_wp2
  go_ret
  exact ⟨rfl, _, _, _, HK5.out, HR5.out, HW5.out⟩
end Go.Proofs.YtlemdjgpkmjihaaGreat

namespace Go.Proofs.YtlemdjgpkmjihaaGreat
open Go.RowKit
set_option linter.unusedVariables false
set_option linter.unusedSimpArgs false

theorem owns_below {w w' : World} {base : Nat} {e : TypeId} {size n : Nat} {v : Value} {xs : List Value} (h : w.ownsRow base e size v n xs) (hb : Below w.heap.size w w') : w'.ownsRow base e size v n xs :=
  ownsRow_at h (fun g hg => hb.block g (World.ownsRow.lt h g hg).2)

/-- A state is put behind the states, and the box is told. -/
theorem Mem.append2 {W0 w : World} {B b q : Nat} {z : Int} {pv v : Value} {ms : List Mt} {E : List Es} (h : Mem W0 w B b q z pv v ms E) : ∃ cs, w.ownsRow W0.heap.size 115 81 v ms.length cs ∧
    ∀ (u : Mu) (x : Mt) (w4 : World) (v' : Value), u.2.2 = none → MtEl W0 w W0.heap.size w.heap.size u x → w4.ownsRow W0.heap.size 115 81 v' (ms.length + 1) (cs ++ muE u) → w.grownBy w4 v.ownBlock →
      w4.cell? ⟨B, 1, none⟩ = some v ∧ w4.frozen? ⟨B, 1, none⟩ = false ∧ w4.heap.size = (w4.setCell ⟨B, 1, none⟩ v').heap.size ∧ Mem W0 (w4.setCell ⟨B, 1, none⟩ v') B b q z pv v' (ms ++ [x]) E ∧ (∀ k cs' t, Blk w k cs' t → v.ownBlock ≠ some k → k ≠ B → Blk (w4.setCell ⟨B, 1, none⟩ v') k cs' t) ∧ (w4.setCell ⟨B, 1, none⟩ v').ownsRow W0.heap.size 115 81 v' (ms.length + 1) (cs ++ muE u) := by
  obtain ⟨us, k1, k2, k3, k4⟩ := h.rows
  refine ⟨us.flatMap muE, k1.1.2, fun u x w4 v' hu hel ho hg => ?_⟩
  have mB : (108 : TypeId) ≠ 115 := by decide
  have mA : (108 : TypeId) ≠ 99 := by decide
  have iB : (34 : TypeId) ≠ 115 := by decide
  have nB := h.blk.not_row mB k1.1.2
  have nq := h.step.not_row iB k1.1.2
  have nb : some b ≠ v.ownBlock := by
    intro e
    rcases k1.1.2.2 with ⟨e0, _⟩ | ⟨g, cap, cur, e0, _, hh, _⟩
    · rw [e0] at e; simp [Value.ownBlock] at e
    · rw [e0] at e
      simp [Value.ownBlock] at e
      subst e
      exact OwnP.no h.map _ _ hh
  have b4 := h.blk.kept hg nB
  have q4 := h.step.kept hg nq
  have m4 := h.map.kept hg nb
  have hno : ∀ {u : Mu} {x : Mt}, MtEl W0 w W0.heap.size w.heap.size u x → ∀ c ∈ muB u, v.ownBlock ≠ some c := by
    intro u x hu c hc hv
    rcases k1.1.2.2 with ⟨rfl, _⟩ | ⟨g, cap, cur, rfl, _⟩
    · simp [Value.ownBlock] at hv
    · simp [Value.ownBlock] at hv
      subst hv
      exact RowN.own (mtOk W0) k1 hu hc
  have r4 : RowM W0 w4 W0.heap.size w4.heap.size v' (ms.length + 1) (ms ++ [x]) := by
    refine RowN.snoc (mtOk W0) (hi' := w.heap.size) h.rows hel (fun c hc => by rw [muB_mem, hu] at hc; cases hc) (fun g _ hgm => by rw [muB_mem, hu] at hgm; cases hgm) (fun us' ho' => ?_) hg
    rw [ownsRow_one ho' k1.1.2]
    exact ho
  have hset := set_grown w4 B 1 v'
  have hqB : q ≠ B := by
    intro e
    have h1 := h.blk
    have h2 := h.step
    rw [e] at h2
    unfold Blk at h1 h2
    rw [h1] at h2
    simp at h2
  have r5 := RowM.other r4 (blk_no b4 mB) (blk_no b4 mA) hset
  have hvb : ∀ j, v.ownBlock = some j → W0.heap.size ≤ j := fun j hj => (World.ownsRow.lt k1.1.2 j hj).1
  refine ⟨by have := b4.cell 1; simpa using this, b4.frozen 1, by simp, ⟨?_, ?_, ?_, ?_, h.hB, h.hq, h.hb, ?_⟩, ?_, ?_⟩
  · have := b4.set (i := 1) v'
    simpa using this
  · have := r5.top
    simpa using this
  · exact m4.kept hset (fun e => OwnP.ne_blk m4 b4 (by simpa using e))
  · exact q4.other hqB _
  · exact (h.below.grown hg h.below.size hvb).setCell h.hB _
  · intro k cs' t hk ht hkB
    exact (hk.kept hg (fun e => ht e.symm)).other hkB _
  · refine World.ownsRow.kept ho hset ?_
    rcases ho.2 with ⟨rfl, _⟩ | ⟨g, cap, cur, rfl, _, hh, _⟩
    · exact .inl rfl
    · refine .inr (fun e => ?_)
      simp [Value.ownBlock] at e
      subst e
      exact blk_no b4 mB _ _ hh

set_option maxHeartbeats 3200000 in
set_option maxRecDepth 20000 in
theorem put2_any (W0 w : World) (B b q : Nat) (z : Int) (pv v : Value) (ms : List Mt) (E : List Es) (h : Mem W0 w B b q z pv v ms E) (u : Mu) (x : Mt) (hu : u.2.2 = none) (hel : ∀ w', MtEl W0 w' W0.heap.size w'.heap.size u x) (hn : ms.length ≤ 1000000) (hnew : ∀ e ∈ E, e.st ≠ u.1.1) :
    Calls Tryz.prog 60 #[.pointer (some ⟨B, 0, none⟩), .agg (muE u).toArray] w fun r w' => r = .returned (.int .i64 (ms.length : Int)) ∧ ∃ v', Mem W0 w' B b q z pv v' (ms ++ [x]) (E ++ [⟨u.1.1, (ms.length : Int)⟩]) ∧ (∀ k cs' t, Blk w k cs' t → v.ownBlock ≠ some k → k ≠ B → Blk w' k cs' t) ∧ ∀ cs, w.ownsRow W0.heap.size 115 81 v ms.length cs → w'.ownsRow W0.heap.size 115 81 v' (ms.length + 1) (cs ++ muE u) := by
  obtain ⟨va, vc, rfl, -, -⟩ := RowN.shape muE_len h.rows
  obtain ⟨M, hM⟩ : ∃ M, M = muE u := ⟨_, rfl⟩
  have HML : Hid (M.length = 81) := by rw [hM]; exact muE_len u
  have HMO : Hid (∀ y ∈ M, y.oneCell' = true) := by
    rw [hM]
    have hone : u.2.1.oneCell' = true := by
      rcases (hel w).2 with ⟨_, a, e, _⟩ | hs
      · rw [e]; rfl
      · obtain ⟨a, c, e, _⟩ := SubV.shape hs
        rw [e]; rfl
    have : ∀ y ∈ muE u, y.oneCell' = true := by
      intro y hy
      unfold muE mtC at hy
      rcases List.mem_append.1 hy with hy | hy
      · obtain ⟨c, _, rfl⟩ := List.mem_map.1 hy; rfl
      · simp at hy; rw [hy]; exact hone
    exact this
  rw [← hM]
  have HMU := hid hM
  have HEL := hid hel
  have HNW := hid hnew
  obtain ⟨f0, f1, U81, -, -⟩ := under81
  have HM0 := hid (h.later ((Below.refl w.heap.size w).alloc (Nat.le_refl _) (.cells M.toArray 115)))
  have HX0 := hid (Blk.new w M.toArray 115)
  have hbX : w.heap.size ≠ B := by have := h.blk.lt; omega
  have HXV : Hid (∀ j, (Value.slice va ms.length vc).ownBlock = some j → j < w.heap.size) := by obtain ⟨us, k1, -⟩ := h.rows; exact fun j hj => (k1.1.lt j hj).2
  clear h hM hel hnew
  obtain ⟨W1, hW1⟩ : ∃ W1, W1 = w.alloc (.cells M.toArray 115) := ⟨_, rfl⟩
  have HOW : Hid (∀ cs, w.ownsRow W0.heap.size 115 81 (Value.slice va ms.length vc) ms.length cs → W1.ownsRow W0.heap.size 115 81 (Value.slice va ms.length vc) ms.length cs) := by rw [hW1]; exact hid (fun cs hk => World.ownsRow.alloc hk _)
  have HAW : Hid (∀ k cs' t, Blk w k cs' t → Blk W1 k cs' t) := by rw [hW1]; exact hid (fun k cs' t hk => hk.alloc _)
  rw [← hW1] at HM0 HX0
  generalize hXX : w.heap.size = X at *
  have c1 : W1.cell? ⟨B, 1, none⟩ = some (.slice va ms.length vc) := by have := HM0.out.blk.cell 1; simpa using this
  have HM1 : Hid (Mem W0 W1.drew B b q z pv (.slice va ms.length vc) ms E) := HM0.out.later (Below.refl _ _).drew
  have HX1 : Hid (Blk W1.drew X M.toArray 115) := HX0.out
  go_enter Tryz.func60, Tryz.ntmps60
  have c0 := c1
  rw [hW1] at c0
  go_wp2_with fail
  rw [← hW1]
  clear c0 hW1 hXX
  refine region_join (fun a a' w' => ∃ (g : Nat) (v' : Value), a' = ((((((((((a.put (some 11) (.pointer (some ⟨B, 0, none⟩))).put (some 12) (.pointer (some ⟨B, 0, none⟩))).put (some 13) (.pointer (some ⟨B, 0, none⟩))).put (some 14) (.pointer (some ⟨B, 1, none⟩))).put (some 15) (.slice va ms.length vc)).put (some 16) (.agg M.toArray)).put (some 17) (.slice (some ⟨g, 0, none⟩) 1 1)).put (some 18) v').put (some 19) (.pointer (some ⟨B, 0, none⟩))).put (some 20) (.pointer (some ⟨B, 1, none⟩))) ∧ Mem W0 w' B b q z pv v' (ms ++ [x]) E ∧ Blk w' X M.toArray 115 ∧ (∀ k cs' t, Blk W1 k cs' t → (Value.slice va ms.length vc).ownBlock ≠ some k → k ≠ B → Blk w' k cs' t) ∧ ∀ cs, W1.ownsRow W0.heap.size 115 81 (Value.slice va ms.length vc) ms.length cs → w'.ownsRow W0.heap.size 115 81 v' (ms.length + 1) (cs ++ muE u)) ?_ ?_
  · refine wp_region_held_drew (S := fun w' => Blk w' X M.toArray 115) (by kernel_rfl) (by exact HX1.out) (fun hS => ?_)
    have c1d : W1.drew.cell? ⟨B, 1, none⟩ = some (.slice va ms.length vc) := c1
    refine wpAnyH_take (i := 0) (v := (.pointer (some ⟨B, 0, none⟩))) rfl (by as_aux_lemma => kernel_rfl) (by as_aux_lemma => kernel_rfl) (by as_aux_lemma => kernel_rfl) (fun _ _ _ h => nomatch h.1) (Or.inl ⟨by kernel_rfl, ?_⟩) hS ?_
    · intro w hSw; (try dsimp only at hSw); go_simp
    (try simp only [Act.put, List.getElem_toArray, List.getElem_cons_zero, List.getElem_cons_succ, List.setIfInBounds_toArray, List.set_cons_zero, List.set_cons_succ])
    refine wpAnyH_take (i := 1) (v := (.pointer (some ⟨B, 0, none⟩))) rfl (by as_aux_lemma => kernel_rfl) (by as_aux_lemma => kernel_rfl) (by as_aux_lemma => kernel_rfl) (fun _ _ _ h => nomatch h.1) (Or.inl ⟨by kernel_rfl, ?_⟩) hS ?_
    · intro w hSw; (try dsimp only at hSw); go_simp
    (try simp only [Act.put, List.getElem_toArray, List.getElem_cons_zero, List.getElem_cons_succ, List.setIfInBounds_toArray, List.set_cons_zero, List.set_cons_succ])
    refine wpAnyH_take (i := 2) (v := (.pointer (some ⟨B, 0, none⟩))) rfl (by as_aux_lemma => kernel_rfl) (by as_aux_lemma => kernel_rfl) (by as_aux_lemma => kernel_rfl) (fun _ _ _ h => nomatch h.1) (Or.inl ⟨by kernel_rfl, ?_⟩) hS ?_
    · intro w hSw; (try dsimp only at hSw); go_simp
    (try simp only [Act.put, List.getElem_toArray, List.getElem_cons_zero, List.getElem_cons_succ, List.setIfInBounds_toArray, List.set_cons_zero, List.set_cons_succ])
    refine wpAnyH_take (i := 3) (v := (.pointer (some ⟨B, 1, none⟩))) rfl (by as_aux_lemma => kernel_rfl) (by as_aux_lemma => kernel_rfl) (by as_aux_lemma => kernel_rfl) (fun _ _ _ h => nomatch h.1) (Or.inl ⟨by kernel_rfl, ?_⟩) hS ?_
    · intro w hSw; (try dsimp only at hSw); go_simp
    (try simp only [Act.put, List.getElem_toArray, List.getElem_cons_zero, List.getElem_cons_succ, List.setIfInBounds_toArray, List.set_cons_zero, List.set_cons_succ])
    refine wpAnyH_take (i := 5) (v := (.agg M.toArray)) rfl (by as_aux_lemma => kernel_rfl) (by as_aux_lemma => kernel_rfl) (by as_aux_lemma => kernel_rfl) (fun _ _ _ h => nomatch h.1) (Or.inl ⟨by kernel_rfl, ?_⟩) hS ?_
    · intro w hSw; (try dsimp only at hSw); exact exec_load_row 115 _ rfl X rfl 115 M.toArray _ hSw U81 rfl (by simpa using size81 HML.out)
    (try simp only [Act.put, List.getElem_toArray, List.getElem_cons_zero, List.getElem_cons_succ, List.setIfInBounds_toArray, List.set_cons_zero, List.set_cons_succ])
    refine wpAnyH_ready (rs := [4, 6]) (by as_aux_lemma => kernel_rfl) (by simp) ?_
    refine AllReadyH.cons rfl (fun K hK => ?_) (AllReadyH.cons rfl (fun K hK => ?_) AllReadyH.nil)
    · go_simp
      refine hK.out _ _ (hS) (fun hS2 => ?_)
      clear hK K hS
      have hS := hS2
      clear hS2
      (try simp only [Act.put, List.getElem_toArray, List.getElem_cons_zero, List.getElem_cons_succ, List.setIfInBounds_toArray, List.set_cons_zero, List.set_cons_succ])
      refine wpAnyH_ready (rs := [6]) (by as_aux_lemma => kernel_rfl) (by simp) ?_
      refine AllReadyH.cons rfl (fun K hK => ?_) AllReadyH.nil
      rw [if_pos (by rfl)]
      refine wp_slice81 M HML.out _ rfl rfl ?_
      have hba := (Below.refl W1.drew.heap.size W1.drew).alloc (Nat.le_refl _) (.cells M.toArray 115)
      refine hK.out _ _ (Blk.below hS hba) (fun hS2 => ?_)
      clear hK K hS
      have hS := hS2
      clear hS2
      (try simp only [Act.put, List.getElem_toArray, List.getElem_cons_zero, List.getElem_cons_succ, List.setIfInBounds_toArray, List.set_cons_zero, List.set_cons_succ])
      have HC2 := hid (Blk.new W1.drew M.toArray 115)
      have HM2 := hid (HM1.out.later hba)
      have HBA := hid hba
      obtain ⟨W2, hW2⟩ : ∃ W2, W2 = W1.drew.alloc (.cells M.toArray 115) := ⟨_, rfl⟩
      rw [← hW2] at HC2 HM2 HBA hS ⊢
      have c1 : W2.cell? ⟨B, 1, none⟩ = some (.slice va ms.length vc) := by have := HM2.out.blk.cell 1; simpa using this
      clear hba hW2
      refine wpAnyH_ready (rs := [7]) (by as_aux_lemma => kernel_rfl) (by simp) ?_
      refine AllReadyH.cons rfl (fun K hK => ?_) AllReadyH.nil
      rw [if_pos (by rfl)]
      obtain ⟨cs, hcs, happ⟩ := HM2.out.append2
      have HAP := hid happ
      clear happ
      refine wp_app81 _ _ rfl W0.heap.size (.slice va ms.length vc) ms.length cs rfl hcs W1.drew.heap.size 1 M HML.out HMO.out rfl (fun f u hu => by have := HC2.out.cell f; rw [this]; simpa using hu) hn HM2.out.below.size ?_
      intro v' w4 h4 hg4
      obtain ⟨va', vc', rfl⟩ := ownsRow_shape h4
      obtain ⟨g1, g2, g3, g4, g5, g6⟩ := HAP.out u x w4 (.slice va' (ms.length + 1) vc') hu (HEL.out W2) (by rw [HMU.out] at h4; exact h4) hg4
      have HG4 := hid g4
      have HG5 := hid g5
      have HG6 := hid g6
      have HCS := hid hcs
      have HX4 := hid (Blk.kept hS hg4 (fun e => by have := HXV.out X e.symm; omega))
      refine hK.out _ _ (HX4.out) (fun hS2 => ?_)
      clear hK K hS
      have hS := hS2
      clear hS2
      (try simp only [Act.put, List.getElem_toArray, List.getElem_cons_zero, List.getElem_cons_succ, List.setIfInBounds_toArray, List.set_cons_zero, List.set_cons_succ])
      clear h4 hg4 g3 g4 g5 g6 HAP hcs
      refine wpAnyH_take (i := 8) (v := (.pointer (some ⟨B, 0, none⟩))) rfl (by as_aux_lemma => kernel_rfl) (by as_aux_lemma => kernel_rfl) (by as_aux_lemma => kernel_rfl) (fun _ _ _ h => nomatch h.1) (Or.inl ⟨by kernel_rfl, ?_⟩) hS ?_
      · intro w hSw; (try dsimp only at hSw); go_simp
      (try simp only [Act.put, List.getElem_toArray, List.getElem_cons_zero, List.getElem_cons_succ, List.setIfInBounds_toArray, List.set_cons_zero, List.set_cons_succ])
      refine wpAnyH_take (i := 9) (v := (.pointer (some ⟨B, 1, none⟩))) rfl (by as_aux_lemma => kernel_rfl) (by as_aux_lemma => kernel_rfl) (by as_aux_lemma => kernel_rfl) (fun _ _ _ h => nomatch h.1) (Or.inl ⟨by kernel_rfl, ?_⟩) hS ?_
      · intro w hSw; (try dsimp only at hSw); go_simp
      (try simp only [Act.put, List.getElem_toArray, List.getElem_cons_zero, List.getElem_cons_succ, List.setIfInBounds_toArray, List.set_cons_zero, List.set_cons_succ])
      refine wpAnyH_ready (rs := [10]) (by as_aux_lemma => kernel_rfl) (by simp) ?_
      refine AllReadyH.cons rfl (fun K hK => ?_) AllReadyH.nil
      go_simp
      refine hK.out _ _ (HX4.out.other hbX _) (fun hS2 => ?_)
      clear hK K hS
      have hS := hS2
      clear hS2
      (try simp only [Act.put, List.getElem_toArray, List.getElem_cons_zero, List.getElem_cons_succ, List.setIfInBounds_toArray, List.set_cons_zero, List.set_cons_succ])
      refine wpAnyH_done (by kernel_rfl) ?_ _
      refine ⟨rfl, W1.heap.size, .slice va' (ms.length + 1) vc', ?_, HG4.out, hS, fun k cs' t hk ht hkB => HG5.out k cs' t (Blk.below (W := W1.drew) hk HBA.out) ht hkB, fun cs0 h0 => by rw [ownsRow_one (owns_below (w := W1.drew) h0 HBA.out) HCS.out]; exact HG6.out⟩
      rfl
    · rw [if_pos (by rfl)]
      refine wp_slice81 M HML.out _ rfl rfl ?_
      have hba := (Below.refl W1.drew.heap.size W1.drew).alloc (Nat.le_refl _) (.cells M.toArray 115)
      refine hK.out _ _ (Blk.below hS hba) (fun hS2 => ?_)
      clear hK K hS
      have hS := hS2
      clear hS2
      (try simp only [Act.put, List.getElem_toArray, List.getElem_cons_zero, List.getElem_cons_succ, List.setIfInBounds_toArray, List.set_cons_zero, List.set_cons_succ])
      have HC2 := hid (Blk.new W1.drew M.toArray 115)
      have HM2 := hid (HM1.out.later hba)
      have HBA := hid hba
      obtain ⟨W2, hW2⟩ : ∃ W2, W2 = W1.drew.alloc (.cells M.toArray 115) := ⟨_, rfl⟩
      rw [← hW2] at HC2 HM2 HBA hS ⊢
      have c1 : W2.cell? ⟨B, 1, none⟩ = some (.slice va ms.length vc) := by have := HM2.out.blk.cell 1; simpa using this
      clear hba hW2
      refine wpAnyH_ready (rs := [4]) (by as_aux_lemma => kernel_rfl) (by simp) ?_
      refine AllReadyH.cons rfl (fun K hK => ?_) AllReadyH.nil
      go_simp
      refine hK.out _ _ (hS) (fun hS2 => ?_)
      clear hK K hS
      have hS := hS2
      clear hS2
      (try simp only [Act.put, List.getElem_toArray, List.getElem_cons_zero, List.getElem_cons_succ, List.setIfInBounds_toArray, List.set_cons_zero, List.set_cons_succ])
      refine wpAnyH_ready (rs := [7]) (by as_aux_lemma => kernel_rfl) (by simp) ?_
      refine AllReadyH.cons rfl (fun K hK => ?_) AllReadyH.nil
      rw [if_pos (by rfl)]
      obtain ⟨cs, hcs, happ⟩ := HM2.out.append2
      have HAP := hid happ
      clear happ
      refine wp_app81 _ _ rfl W0.heap.size (.slice va ms.length vc) ms.length cs rfl hcs W1.drew.heap.size 1 M HML.out HMO.out rfl (fun f u hu => by have := HC2.out.cell f; rw [this]; simpa using hu) hn HM2.out.below.size ?_
      intro v' w4 h4 hg4
      obtain ⟨va', vc', rfl⟩ := ownsRow_shape h4
      obtain ⟨g1, g2, g3, g4, g5, g6⟩ := HAP.out u x w4 (.slice va' (ms.length + 1) vc') hu (HEL.out W2) (by rw [HMU.out] at h4; exact h4) hg4
      have HG4 := hid g4
      have HG5 := hid g5
      have HG6 := hid g6
      have HCS := hid hcs
      have HX4 := hid (Blk.kept hS hg4 (fun e => by have := HXV.out X e.symm; omega))
      refine hK.out _ _ (HX4.out) (fun hS2 => ?_)
      clear hK K hS
      have hS := hS2
      clear hS2
      (try simp only [Act.put, List.getElem_toArray, List.getElem_cons_zero, List.getElem_cons_succ, List.setIfInBounds_toArray, List.set_cons_zero, List.set_cons_succ])
      clear h4 hg4 g3 g4 g5 g6 HAP hcs
      refine wpAnyH_take (i := 8) (v := (.pointer (some ⟨B, 0, none⟩))) rfl (by as_aux_lemma => kernel_rfl) (by as_aux_lemma => kernel_rfl) (by as_aux_lemma => kernel_rfl) (fun _ _ _ h => nomatch h.1) (Or.inl ⟨by kernel_rfl, ?_⟩) hS ?_
      · intro w hSw; (try dsimp only at hSw); go_simp
      (try simp only [Act.put, List.getElem_toArray, List.getElem_cons_zero, List.getElem_cons_succ, List.setIfInBounds_toArray, List.set_cons_zero, List.set_cons_succ])
      refine wpAnyH_take (i := 9) (v := (.pointer (some ⟨B, 1, none⟩))) rfl (by as_aux_lemma => kernel_rfl) (by as_aux_lemma => kernel_rfl) (by as_aux_lemma => kernel_rfl) (fun _ _ _ h => nomatch h.1) (Or.inl ⟨by kernel_rfl, ?_⟩) hS ?_
      · intro w hSw; (try dsimp only at hSw); go_simp
      (try simp only [Act.put, List.getElem_toArray, List.getElem_cons_zero, List.getElem_cons_succ, List.setIfInBounds_toArray, List.set_cons_zero, List.set_cons_succ])
      refine wpAnyH_ready (rs := [10]) (by as_aux_lemma => kernel_rfl) (by simp) ?_
      refine AllReadyH.cons rfl (fun K hK => ?_) AllReadyH.nil
      go_simp
      refine hK.out _ _ (HX4.out.other hbX _) (fun hS2 => ?_)
      clear hK K hS
      have hS := hS2
      clear hS2
      (try simp only [Act.put, List.getElem_toArray, List.getElem_cons_zero, List.getElem_cons_succ, List.setIfInBounds_toArray, List.set_cons_zero, List.set_cons_succ])
      refine wpAnyH_done (by kernel_rfl) ?_ _
      refine ⟨rfl, W1.heap.size, .slice va' (ms.length + 1) vc', ?_, HG4.out, hS, fun k cs' t hk ht hkB => HG5.out k cs' t (Blk.below (W := W1.drew) hk HBA.out) ht hkB, fun cs0 h0 => by rw [ownsRow_one (owns_below (w := W1.drew) h0 HBA.out) HCS.out]; exact HG6.out⟩
      rfl
  · rintro a' w5 ⟨g, v', rfl, hm5, hx5, hf5, ho5⟩
    have HF5 := hid hf5
    have HO5 := hid ho5
    have hmp : w5.drew.cell? ⟨B, 2, none⟩ = some (.map (some b)) := by have := hm5.blk.cell 2; simpa using this
    have HM5 : Hid (Mem W0 w5.drew B b q z pv v' (ms ++ [x]) E) := hid (hm5.later (Below.refl _ _).drew)
    rw [HMU.out] at hx5
    have hxs : ∀ j y, (u.1.1.map Value.bool)[j]? = some y → w5.drew.cell? ⟨X, 0 + j, none⟩ = some y := mtC_set (show Blk w5.drew X (mtC u.1.1 u.2.1).toArray 115 from hx5)
    clear hm5 hx5 hf5 ho5
    simp only [Act.put, List.getElem_toArray, List.getElem_cons_zero, List.getElem_cons_succ, List.setIfInBounds_toArray, List.set_cons_zero, List.set_cons_succ]
    go_wp2_with fail
    refine wp_region_held_drew (S := fun w' => w'.cell? ⟨B, 2, none⟩ = some (.map (some b)) ∧ ∀ j y, (u.1.1.map Value.bool)[j]? = some y → w'.cell? ⟨X, 0 + j, none⟩ = some y) (by kernel_rfl) (by exact ⟨hmp, hxs⟩) (fun hS => ?_)
    refine wpAnyH_take (i := 0) (v := (.pointer (some ⟨B, 0, none⟩))) rfl (by as_aux_lemma => kernel_rfl) (by as_aux_lemma => kernel_rfl) (by as_aux_lemma => kernel_rfl) (fun _ _ _ h => h) (Or.inl ⟨by kernel_rfl, ?_⟩) hS ?_
    · intro w hSw; (try dsimp only at hSw); go_simp
    (try simp only [Act.put, List.getElem_toArray, List.getElem_cons_zero, List.getElem_cons_succ, List.setIfInBounds_toArray, List.set_cons_zero, List.set_cons_succ])
    refine wpAnyH_take (i := 1) (v := (.pointer (some ⟨B, 0, none⟩))) rfl (by as_aux_lemma => kernel_rfl) (by as_aux_lemma => kernel_rfl) (by as_aux_lemma => kernel_rfl) (fun _ _ _ h => h) (Or.inl ⟨by kernel_rfl, ?_⟩) hS ?_
    · intro w hSw; (try dsimp only at hSw); go_simp
    (try simp only [Act.put, List.getElem_toArray, List.getElem_cons_zero, List.getElem_cons_succ, List.setIfInBounds_toArray, List.set_cons_zero, List.set_cons_succ])
    refine wpAnyH_take (i := 2) (v := (.pointer (some ⟨B, 2, none⟩))) rfl (by as_aux_lemma => kernel_rfl) (by as_aux_lemma => kernel_rfl) (by as_aux_lemma => kernel_rfl) (fun _ _ _ h => h) (Or.inl ⟨by kernel_rfl, ?_⟩) hS ?_
    · intro w hSw; (try dsimp only at hSw); go_simp
    (try simp only [Act.put, List.getElem_toArray, List.getElem_cons_zero, List.getElem_cons_succ, List.setIfInBounds_toArray, List.set_cons_zero, List.set_cons_succ])
    refine wpAnyH_take (i := 3) (v := (.map (some b))) rfl (by as_aux_lemma => kernel_rfl) (by as_aux_lemma => kernel_rfl) (by as_aux_lemma => kernel_rfl) (fun _ _ _ h => h) (Or.inl ⟨by kernel_rfl, ?_⟩) hS ?_
    · intro w hSw; (try dsimp only at hSw); have hc2 := hSw.1; go_simp
    (try simp only [Act.put, List.getElem_toArray, List.getElem_cons_zero, List.getElem_cons_succ, List.setIfInBounds_toArray, List.set_cons_zero, List.set_cons_succ])
    refine wpAnyH_take (i := 4) (v := (.pointer (some ⟨X, 0, none⟩))) rfl (by as_aux_lemma => kernel_rfl) (by as_aux_lemma => kernel_rfl) (by as_aux_lemma => kernel_rfl) (fun _ _ _ h => h) (Or.inl ⟨by kernel_rfl, ?_⟩) hS ?_
    · intro w hSw; (try dsimp only at hSw); go_simp
    (try simp only [Act.put, List.getElem_toArray, List.getElem_cons_zero, List.getElem_cons_succ, List.setIfInBounds_toArray, List.set_cons_zero, List.set_cons_succ])
    refine wpAnyH_take (i := 5) (v := (kvS u.1.1)) rfl (by as_aux_lemma => kernel_rfl) (by as_aux_lemma => kernel_rfl) (by as_aux_lemma => kernel_rfl) (fun _ _ _ h => h) (Or.inl ⟨by kernel_rfl, ?_⟩) hS ?_
    · intro w hSw; (try dsimp only at hSw); exact exec_load_at 111 _ rfl X 0 rfl (u.1.1.map Value.bool) _ hSw.2 under80 rfl (sizeS u.1.2)
    (try simp only [Act.put, List.getElem_toArray, List.getElem_cons_zero, List.getElem_cons_succ, List.setIfInBounds_toArray, List.set_cons_zero, List.set_cons_succ])
    refine wpAnyH_take (i := 6) (v := (.int .i64 (ms.length : Int))) rfl (by as_aux_lemma => kernel_rfl) (by as_aux_lemma => kernel_rfl) (by as_aux_lemma => kernel_rfl) (fun _ _ _ h => h) (Or.inl ⟨by kernel_rfl, ?_⟩) hS ?_
    · intro w hSw; (try dsimp only at hSw); go_simp
    (try simp only [Act.put, List.getElem_toArray, List.getElem_cons_zero, List.getElem_cons_succ, List.setIfInBounds_toArray, List.set_cons_zero, List.set_cons_succ])
    refine wpAnyH_ready (rs := [7]) (by as_aux_lemma => kernel_rfl) (by simp) ?_
    refine AllReadyH.cons rfl (fun K hK => ?_) AllReadyH.nil
    rw [if_pos (by rfl)]
    obtain ⟨w6, hr6, hm6, hg6⟩ := HM5.out.entry (S := u.1.1) (i := (ms.length : Int)) u.1.2 HNW.out
    have HB6 := hid hg6
    refine wp_mapS _ _ _ rfl rfl _ _ _ rfl rfl rfl hr6 ?_
    refine hK.out _ _ ⟨by have := hm6.blk.cell 2; simpa using this, ?_⟩ (fun hS6 => ?_)
    · intro j y hy
      have h0 := hS.2 j y hy
      obtain ⟨es, clock, k1, _⟩ := HM5.out.map
      by_cases hXb : X = b
      · exfalso
        subst hXb
        simp [World.cell?, k1] at h0
      · exact (World.cell?_of_block (HB6.out.block X (block_lt_of_cell h0) (by simpa using hXb))).trans h0
    clear hK K hS hS6
    refine wpAnyH_done (by kernel_rfl) ?_ _
    go_wp2
    go_ret
    refine ⟨rfl, v', hm6, fun k cs' t hk ht hkB => ?_, fun cs0 h0 => ?_⟩
    case refine_2 =>
      have q1 := HO5.out cs0 (HOW.out cs0 h0)
      have q2 : w5.drew.ownsRow W0.heap.size 115 81 v' (ms.length + 1) (cs0 ++ M) := by rw [HMU.out]; exact q1
      exact World.ownsRow.kept q2 HB6.out (.inr (fun e => OwnP.not_row HM5.out.map q2 e.symm))
    have h5 := HF5.out k cs' t (HAW.out k cs' t hk) ht hkB
    exact Blk.kept (W := w5.drew) h5 HB6.out (fun e => OwnP.ne_blk HM5.out.map (show Blk w5.drew k cs' t from h5) (by simpa using e.symm))

set_option maxHeartbeats 3200000 in
set_option maxRecDepth 20000 in
theorem enter2_new (W0 w : World) (B b q : Nat) (z : Int) (pv v : Value) (ms : List Mt) (S : B80) (h : Mem W0 w B b q z pv v ms (entsFrom 0 ms)) (hnew : ∀ x ∈ ms, x.1.1 ≠ S.1) (hn : ms.length ≤ 1000000) (hz : ¬ (ms.length : Int) = z) :
    Calls Tryz.prog 66 #[.pointer (some ⟨B, 0, none⟩), .agg (boolsA S.1)] w fun r w' => r = .returned (.tuple #[.int .i64 (ms.length : Int), .bool false]) ∧ ∃ v', Mem W0 w' B b q z pv v' (ms ++ [(S, [])]) (entsFrom 0 (ms ++ [(S, [])])) ∧ (∀ k cs' t, Blk w k cs' t → v.ownBlock ≠ some k → k ≠ B → Blk w' k cs' t) ∧ ∀ cs, w.ownsRow W0.heap.size 115 81 v ms.length cs → w'.ownsRow W0.heap.size 115 81 v' (ms.length + 1) (cs ++ muE (S, (Value.slice none 0 0, none))) := by
  have HNE : Hid (∀ e ∈ entsFrom 0 ms, e.st ≠ S.1) := by
    refine hid (fun e he hs => ?_)
    have h1 : e.st ∈ (entsFrom 0 ms).map (·.st) := List.mem_map.2 ⟨e, he, rfl⟩
    rw [entsFrom_st] at h1
    obtain ⟨x, hx, hxe⟩ := List.mem_map.1 h1
    exact hnew x hx (by rw [hxe, hs])
  have hel : ∀ w' : World, MtEl W0 w' W0.heap.size w'.heap.size (S, (.slice none 0 0, none)) (S, []) := fun w' => ⟨rfl, .inl ⟨rfl, none, rfl, by unfold maxLen; simp, ⟨rfl, .inl rfl⟩⟩⟩
  have HLK : Hid (∀ w', OwnP w' b (entsFrom 0 ms) → (Instr.lookup 105 (.map (some b)) (kvS S.1) true).run Tryz.prog w' = .ok (.tuple #[.int .i64 0, .bool false]) w') := hid (fun w' h' => OwnP.lookNot h' (setOk S.2) HNE.out true)
  have HPUT : Hid _ := fun w' v' ms' E' h1 h2 h3 => put2_any W0 w' B b q z pv v' ms' E' h1 (S, (.slice none 0 0, none)) (S, []) rfl hel h2 h3
  obtain ⟨va, vc, rfl, -, -⟩ := RowN.shape muE_len h.rows
  obtain ⟨W1, hW1⟩ : ∃ W1, W1 = w.alloc (.cells (boolsA S.1) 111) := ⟨_, rfl⟩
  have HM : Hid (Mem W0 W1.drew B b q z pv (.slice va ms.length vc) ms (entsFrom 0 ms)) := by rw [hW1]; exact hid (h.later ((Below.refl w.heap.size w).alloc (Nat.le_refl _) _).drew)
  have HM0 : Hid (Mem W0 W1 B b q z pv (.slice va ms.length vc) ms (entsFrom 0 ms)) := by rw [hW1]; exact hid (h.later ((Below.refl w.heap.size w).alloc (Nat.le_refl _) _))
  have HX0 : Hid (Blk W1 w.heap.size (boolsA S.1) 111) := by rw [hW1]; exact hid (Blk.new w _ _)
  have HX : Hid (Blk W1.drew w.heap.size (boolsA S.1) 111) := by rw [hW1]; exact hid (Blk.new w _ _)
  have HXB : Hid (w.heap.size ≠ B) := hid (by have := h.blk.lt; omega)
  have hS80 := S.2
  have HOW : Hid (∀ cs, w.ownsRow W0.heap.size 115 81 (Value.slice va ms.length vc) ms.length cs → W1.ownsRow W0.heap.size 115 81 (Value.slice va ms.length vc) ms.length cs) := by rw [hW1]; exact hid (fun cs hk => World.ownsRow.alloc hk _)
  have HAW : Hid (∀ k cs' t, Blk w k cs' t → Blk W1 k cs' t) := by rw [hW1]; exact hid (fun k cs' t hk => hk.alloc _)
  clear h hnew hel
  generalize hXX : w.heap.size = X at *
  obtain ⟨T, hT⟩ : ∃ T, T = S.1 := ⟨_, rfl⟩
  rw [← hT] at HLK HX HX0 hS80
  have HTT := hid hT
  have HMU : Hid (muE (S, (Value.slice none 0 0, none)) = mtC T (.slice none 0 0)) := by rw [hT]; exact hid rfl
  rw [← hT]
  rw [← hT] at hW1
  clear hT
  go_enter Tryz.func66, Tryz.ntmps66
  go_wp2_with fail
  rw [← hW1]
  clear hW1
  refine wp_region_held_drew (S := fun w' => w'.cell? ⟨B, 2, none⟩ = some (.map (some b)) ∧ Blk w' X (boolsA T) 111 ∧ OwnP w' b (entsFrom 0 ms)) (by kernel_rfl) (by exact ⟨by have := HM.out.blk.cell 2; simpa using this, HX.out, HM.out.map⟩) (fun hS => ?_)
  refine wpAnyH_take (i := 0) (v := (.pointer (some ⟨B, 0, none⟩))) rfl (by as_aux_lemma => kernel_rfl) (by as_aux_lemma => kernel_rfl) (by as_aux_lemma => kernel_rfl) (fun _ _ _ h => h) (Or.inl ⟨by kernel_rfl, ?_⟩) hS ?_
  · intro w hSw; (try dsimp only at hSw); go_simp
  (try simp only [Act.put, List.getElem_toArray, List.getElem_cons_zero, List.getElem_cons_succ, List.setIfInBounds_toArray, List.set_cons_zero, List.set_cons_succ])
  refine wpAnyH_take (i := 1) (v := (.pointer (some ⟨B, 0, none⟩))) rfl (by as_aux_lemma => kernel_rfl) (by as_aux_lemma => kernel_rfl) (by as_aux_lemma => kernel_rfl) (fun _ _ _ h => h) (Or.inl ⟨by kernel_rfl, ?_⟩) hS ?_
  · intro w hSw; (try dsimp only at hSw); go_simp
  (try simp only [Act.put, List.getElem_toArray, List.getElem_cons_zero, List.getElem_cons_succ, List.setIfInBounds_toArray, List.set_cons_zero, List.set_cons_succ])
  refine wpAnyH_take (i := 2) (v := (.pointer (some ⟨B, 2, none⟩))) rfl (by as_aux_lemma => kernel_rfl) (by as_aux_lemma => kernel_rfl) (by as_aux_lemma => kernel_rfl) (fun _ _ _ h => h) (Or.inl ⟨by kernel_rfl, ?_⟩) hS ?_
  · intro w hSw; (try dsimp only at hSw); go_simp
  (try simp only [Act.put, List.getElem_toArray, List.getElem_cons_zero, List.getElem_cons_succ, List.setIfInBounds_toArray, List.set_cons_zero, List.set_cons_succ])
  refine wpAnyH_take (i := 3) (v := (.map (some b))) rfl (by as_aux_lemma => kernel_rfl) (by as_aux_lemma => kernel_rfl) (by as_aux_lemma => kernel_rfl) (fun _ _ _ h => h) (Or.inl ⟨by kernel_rfl, ?_⟩) hS ?_
  · intro w hSw; (try dsimp only at hSw); have hc2 := hSw.1; go_simp
  (try simp only [Act.put, List.getElem_toArray, List.getElem_cons_zero, List.getElem_cons_succ, List.setIfInBounds_toArray, List.set_cons_zero, List.set_cons_succ])
  refine wpAnyH_take (i := 4) (v := (.agg (boolsA T))) rfl (by as_aux_lemma => kernel_rfl) (by as_aux_lemma => kernel_rfl) (by as_aux_lemma => kernel_rfl) (fun _ _ _ h => h) (Or.inl ⟨by kernel_rfl, ?_⟩) hS ?_
  · intro w hSw; (try dsimp only at hSw); exact exec_load_row 111 _ rfl X rfl 111 (boolsA T) _ hSw.2.1 under80 rfl (size80 (size_set80 hS80))
  (try simp only [Act.put, List.getElem_toArray, List.getElem_cons_zero, List.getElem_cons_succ, List.setIfInBounds_toArray, List.set_cons_zero, List.set_cons_succ])
  refine wpAnyH_take (i := 5) (v := (.tuple #[.int .i64 0, .bool false])) rfl (by as_aux_lemma => kernel_rfl) (by as_aux_lemma => kernel_rfl) (by as_aux_lemma => kernel_rfl) (fun _ _ _ h => h) (Or.inl ⟨by kernel_rfl, ?_⟩) hS ?_
  · intro w hSw; (try dsimp only at hSw); exact exec_lookS _ _ rfl rfl rfl (HLK.out _ hSw.2.2)
  (try simp only [Act.put, List.getElem_toArray, List.getElem_cons_zero, List.getElem_cons_succ, List.setIfInBounds_toArray, List.set_cons_zero, List.set_cons_succ])
  refine wpAnyH_take (i := 6) (v := (.tuple #[.int .i64 0, .bool false])) rfl (by as_aux_lemma => kernel_rfl) (by as_aux_lemma => kernel_rfl) (by as_aux_lemma => kernel_rfl) (fun _ _ _ h => h) (Or.inl ⟨by kernel_rfl, ?_⟩) hS ?_
  · intro w hSw; (try dsimp only at hSw); go_simp
  (try simp only [Act.put, List.getElem_toArray, List.getElem_cons_zero, List.getElem_cons_succ, List.setIfInBounds_toArray, List.set_cons_zero, List.set_cons_succ])
  refine wpAnyH_take (i := 7) (v := (.int .i64 0)) rfl (by as_aux_lemma => kernel_rfl) (by as_aux_lemma => kernel_rfl) (by as_aux_lemma => kernel_rfl) (fun _ _ _ h => h) (Or.inl ⟨by kernel_rfl, ?_⟩) hS ?_
  · intro w hSw; (try dsimp only at hSw); go_simp
  (try simp only [Act.put, List.getElem_toArray, List.getElem_cons_zero, List.getElem_cons_succ, List.setIfInBounds_toArray, List.set_cons_zero, List.set_cons_succ])
  refine wpAnyH_take (i := 8) (v := (.bool false)) rfl (by as_aux_lemma => kernel_rfl) (by as_aux_lemma => kernel_rfl) (by as_aux_lemma => kernel_rfl) (fun _ _ _ h => h) (Or.inl ⟨by kernel_rfl, ?_⟩) hS ?_
  · intro w hSw; (try dsimp only at hSw); go_simp
  (try simp only [Act.put, List.getElem_toArray, List.getElem_cons_zero, List.getElem_cons_succ, List.setIfInBounds_toArray, List.set_cons_zero, List.set_cons_succ])
  refine wpAnyH_take (i := 9) (v := (.int .i64 0)) rfl (by as_aux_lemma => kernel_rfl) (by as_aux_lemma => kernel_rfl) (by as_aux_lemma => kernel_rfl) (fun _ _ _ h => h) (Or.inl ⟨by kernel_rfl, ?_⟩) hS ?_
  · intro w hSw; (try dsimp only at hSw); go_simp
  (try simp only [Act.put, List.getElem_toArray, List.getElem_cons_zero, List.getElem_cons_succ, List.setIfInBounds_toArray, List.set_cons_zero, List.set_cons_succ])
  refine wpAnyH_take (i := 10) (v := (.bool false)) rfl (by as_aux_lemma => kernel_rfl) (by as_aux_lemma => kernel_rfl) (by as_aux_lemma => kernel_rfl) (fun _ _ _ h => h) (Or.inl ⟨by kernel_rfl, ?_⟩) hS ?_
  · intro w hSw; (try dsimp only at hSw); go_simp
  (try simp only [Act.put, List.getElem_toArray, List.getElem_cons_zero, List.getElem_cons_succ, List.setIfInBounds_toArray, List.set_cons_zero, List.set_cons_succ])
  refine wpAnyH_done (by kernel_rfl) ?_ _
  have c0 : W1.cell? ⟨B, 0, none⟩ = some (.int .i64 z) := by have := HM.out.blk.cell 0; simpa using this
  have c1 : W1.cell? ⟨B, 1, none⟩ = some (.slice va ms.length vc) := by have := HM.out.blk.cell 1; simpa using this
  clear hS
  have HBX : ∀ w' : World, Blk w' X (boolsA T) 111 → Hid (∀ j y, (T.map Value.bool)[j]? = some y → w'.cell? ⟨X, 0 + j, none⟩ = some y) := fun w' hb => hid (fun j y hy => by
    rw [Nat.zero_add, hb.cell]
    simpa [boolsA] using hy)
  have HBXH := hid HBX
  clear HBX
  go_wp2_with fail
  go_quiet (fail)
  have HXC := HBXH.out (W1.drew.drewN nq) (Blk.below HX.out (below_drewN (Below.refl _ _) nq))
  have hput := HPUT.out (W1.drewN (1 + nq)) _ ms _ (HM0.out.later (below_drewN (Below.refl _ _) (1 + nq))) hn HNE.out
  rw [HMU.out] at hput
  have HP := hid hput
  clear hput
  go_wp2_with (first | ((with_reducible show wpList _ _ _ (({ dst := _, op := .load 111 _, type := _, pos := _, after := _, guard := _ } : Oper) :: _) _ _); refine wpList_load_at rfl 111 _ rfl X 0 rfl (T.map Value.bool) _ HXC.out under80 rfl (sizeS hS80) ?_) | ((with_reducible show wpList _ _ _ (({ dst := _, op := .build 115 _, type := _, pos := _, after := _, guard := _ } : Oper) :: _) _ _); refine wpList_buildOne rfl _ rfl T hS80 rfl ?_))
  refine Calls.mono HP.out ?_
  rintro r w3 ⟨rfl, v3, hm3, hf3, ho3⟩
  have HM3 := hid hm3
  have HF3 := hid hf3
  have HO3 := hid ho3
  clear hm3 hf3 ho3
  go_wp2
  refine bodyPost_ret (v := .tuple #[.int .i64 (ms.length : Int), .bool false]) (by simp [results, Tryz.results66, go_sem] <;> omega) rfl ⟨rfl, v3, ?_, fun k cs' t hk h1 h2 => HF3.out k cs' t (HAW.out k cs' t hk) h1 h2, fun cs0 h0 => by rw [HMU.out]; exact HO3.out cs0 (HOW.out cs0 h0)⟩
  have := HM3.out
  rw [entsFrom_snoc, Nat.zero_add]
  exact this

set_option maxHeartbeats 3200000 in
set_option maxRecDepth 20000 in
theorem enter2_any (W0 w : World) (B b q : Nat) (z : Int) (pv v : Value) (ms : List Mt) (S : List Bool) (hS80 : S.length = 80) (h : Mem W0 w B b q z pv v ms (entsFrom 0 ms)) (j : Nat) (x : Mt) (hj : ms[j]? = some x) (hx : x.1.1 = S) :
    Calls Tryz.prog 66 #[.pointer (some ⟨B, 0, none⟩), .agg (boolsA S)] w fun r w' => r = .returned (.tuple #[.int .i64 (j : Int), .bool false]) ∧ Mem W0 w' B b q z pv v ms (entsFrom 0 ms) ∧ Below w.heap.size w w' := by
  have he := entsFrom_at ms 0 j x hj
  rw [hx, Nat.zero_add] at he
  have HLK : Hid (∀ w', OwnP w' b (entsFrom 0 ms) → (Instr.lookup 105 (.map (some b)) (kvS S) true).run Tryz.prog w' = .ok (.tuple #[.int .i64 (j : Int), .bool true]) w') := hid (fun w' h' => OwnP.look h' he true)
  obtain ⟨W1, hW1⟩ : ∃ W1, W1 = w.alloc (.cells (boolsA S) 111) := ⟨_, rfl⟩
  have HM : Hid (Mem W0 W1.drew B b q z pv v ms (entsFrom 0 ms)) := by rw [hW1]; exact hid (h.later ((Below.refl w.heap.size w).alloc (Nat.le_refl _) _).drew)
  have HX : Hid (Blk W1.drew w.heap.size (boolsA S) 111) := by rw [hW1]; exact hid (Blk.new w _ _)
  have HBB : Hid (Below w.heap.size w W1.drew) := by rw [hW1]; exact hid ((Below.refl w.heap.size w).alloc (Nat.le_refl _) _).drew
  clear h he hj hx
  generalize hXX : w.heap.size = X at *
  go_enter Tryz.func66, Tryz.ntmps66
  go_wp2_with fail
  rw [← hW1]
  clear hW1
  refine wp_region_held_drew (S := fun w' => w'.cell? ⟨B, 2, none⟩ = some (.map (some b)) ∧ Blk w' X (boolsA S) 111 ∧ OwnP w' b (entsFrom 0 ms)) (by kernel_rfl) (by exact ⟨by have := HM.out.blk.cell 2; simpa using this, HX.out, HM.out.map⟩) (fun hS => ?_)
  refine wpAnyH_take (i := 0) (v := (.pointer (some ⟨B, 0, none⟩))) rfl (by as_aux_lemma => kernel_rfl) (by as_aux_lemma => kernel_rfl) (by as_aux_lemma => kernel_rfl) (fun _ _ _ h => h) (Or.inl ⟨by kernel_rfl, ?_⟩) hS ?_
  · intro w hSw; (try dsimp only at hSw); go_simp
  (try simp only [Act.put, List.getElem_toArray, List.getElem_cons_zero, List.getElem_cons_succ, List.setIfInBounds_toArray, List.set_cons_zero, List.set_cons_succ])
  refine wpAnyH_take (i := 1) (v := (.pointer (some ⟨B, 0, none⟩))) rfl (by as_aux_lemma => kernel_rfl) (by as_aux_lemma => kernel_rfl) (by as_aux_lemma => kernel_rfl) (fun _ _ _ h => h) (Or.inl ⟨by kernel_rfl, ?_⟩) hS ?_
  · intro w hSw; (try dsimp only at hSw); go_simp
  (try simp only [Act.put, List.getElem_toArray, List.getElem_cons_zero, List.getElem_cons_succ, List.setIfInBounds_toArray, List.set_cons_zero, List.set_cons_succ])
  refine wpAnyH_take (i := 2) (v := (.pointer (some ⟨B, 2, none⟩))) rfl (by as_aux_lemma => kernel_rfl) (by as_aux_lemma => kernel_rfl) (by as_aux_lemma => kernel_rfl) (fun _ _ _ h => h) (Or.inl ⟨by kernel_rfl, ?_⟩) hS ?_
  · intro w hSw; (try dsimp only at hSw); go_simp
  (try simp only [Act.put, List.getElem_toArray, List.getElem_cons_zero, List.getElem_cons_succ, List.setIfInBounds_toArray, List.set_cons_zero, List.set_cons_succ])
  refine wpAnyH_take (i := 3) (v := (.map (some b))) rfl (by as_aux_lemma => kernel_rfl) (by as_aux_lemma => kernel_rfl) (by as_aux_lemma => kernel_rfl) (fun _ _ _ h => h) (Or.inl ⟨by kernel_rfl, ?_⟩) hS ?_
  · intro w hSw; (try dsimp only at hSw); have hc2 := hSw.1; go_simp
  (try simp only [Act.put, List.getElem_toArray, List.getElem_cons_zero, List.getElem_cons_succ, List.setIfInBounds_toArray, List.set_cons_zero, List.set_cons_succ])
  refine wpAnyH_take (i := 4) (v := (.agg (boolsA S))) rfl (by as_aux_lemma => kernel_rfl) (by as_aux_lemma => kernel_rfl) (by as_aux_lemma => kernel_rfl) (fun _ _ _ h => h) (Or.inl ⟨by kernel_rfl, ?_⟩) hS ?_
  · intro w hSw; (try dsimp only at hSw); exact exec_load_row 111 _ rfl X rfl 111 (boolsA S) _ hSw.2.1 under80 rfl (size80 (size_set80 hS80))
  (try simp only [Act.put, List.getElem_toArray, List.getElem_cons_zero, List.getElem_cons_succ, List.setIfInBounds_toArray, List.set_cons_zero, List.set_cons_succ])
  refine wpAnyH_take (i := 5) (v := (.tuple #[.int .i64 (j : Int), .bool true])) rfl (by as_aux_lemma => kernel_rfl) (by as_aux_lemma => kernel_rfl) (by as_aux_lemma => kernel_rfl) (fun _ _ _ h => h) (Or.inl ⟨by kernel_rfl, ?_⟩) hS ?_
  · intro w hSw; (try dsimp only at hSw); exact exec_lookS _ _ rfl rfl rfl (HLK.out _ hSw.2.2)
  (try simp only [Act.put, List.getElem_toArray, List.getElem_cons_zero, List.getElem_cons_succ, List.setIfInBounds_toArray, List.set_cons_zero, List.set_cons_succ])
  refine wpAnyH_take (i := 6) (v := (.tuple #[.int .i64 (j : Int), .bool true])) rfl (by as_aux_lemma => kernel_rfl) (by as_aux_lemma => kernel_rfl) (by as_aux_lemma => kernel_rfl) (fun _ _ _ h => h) (Or.inl ⟨by kernel_rfl, ?_⟩) hS ?_
  · intro w hSw; (try dsimp only at hSw); go_simp
  (try simp only [Act.put, List.getElem_toArray, List.getElem_cons_zero, List.getElem_cons_succ, List.setIfInBounds_toArray, List.set_cons_zero, List.set_cons_succ])
  refine wpAnyH_take (i := 7) (v := (.int .i64 (j : Int))) rfl (by as_aux_lemma => kernel_rfl) (by as_aux_lemma => kernel_rfl) (by as_aux_lemma => kernel_rfl) (fun _ _ _ h => h) (Or.inl ⟨by kernel_rfl, ?_⟩) hS ?_
  · intro w hSw; (try dsimp only at hSw); go_simp
  (try simp only [Act.put, List.getElem_toArray, List.getElem_cons_zero, List.getElem_cons_succ, List.setIfInBounds_toArray, List.set_cons_zero, List.set_cons_succ])
  refine wpAnyH_take (i := 8) (v := (.bool true)) rfl (by as_aux_lemma => kernel_rfl) (by as_aux_lemma => kernel_rfl) (by as_aux_lemma => kernel_rfl) (fun _ _ _ h => h) (Or.inl ⟨by kernel_rfl, ?_⟩) hS ?_
  · intro w hSw; (try dsimp only at hSw); go_simp
  (try simp only [Act.put, List.getElem_toArray, List.getElem_cons_zero, List.getElem_cons_succ, List.setIfInBounds_toArray, List.set_cons_zero, List.set_cons_succ])
  refine wpAnyH_take (i := 9) (v := (.int .i64 (j : Int))) rfl (by as_aux_lemma => kernel_rfl) (by as_aux_lemma => kernel_rfl) (by as_aux_lemma => kernel_rfl) (fun _ _ _ h => h) (Or.inl ⟨by kernel_rfl, ?_⟩) hS ?_
  · intro w hSw; (try dsimp only at hSw); go_simp
  (try simp only [Act.put, List.getElem_toArray, List.getElem_cons_zero, List.getElem_cons_succ, List.setIfInBounds_toArray, List.set_cons_zero, List.set_cons_succ])
  refine wpAnyH_take (i := 10) (v := (.bool true)) rfl (by as_aux_lemma => kernel_rfl) (by as_aux_lemma => kernel_rfl) (by as_aux_lemma => kernel_rfl) (fun _ _ _ h => h) (Or.inl ⟨by kernel_rfl, ?_⟩) hS ?_
  · intro w hSw; (try dsimp only at hSw); go_simp
  (try simp only [Act.put, List.getElem_toArray, List.getElem_cons_zero, List.getElem_cons_succ, List.setIfInBounds_toArray, List.set_cons_zero, List.set_cons_succ])
  refine wpAnyH_done (by kernel_rfl) ?_ _
  go_wp2
  refine bodyPost_ret (v := .tuple #[.int .i64 (j : Int), .bool false]) (by simp [results, Tryz.results66, go_sem]) rfl ⟨rfl, HM.out.later (Below.refl _ _), ?_⟩
  exact (by first | exact HBB.out | (have := HBB.out; simpa [hXX] using this))

end Go.Proofs.YtlemdjgpkmjihaaGreat

namespace Go.Proofs.YtlemdjgpkmjihaaGreat
open Go.RowKit
set_option linter.unusedVariables false
set_option linter.unusedSimpArgs false

/-- The cells of the states stay where their row lies then. -/
def Keeps (w w' : World) (v v' : Value) (n : Nat) : Prop := ∀ g c, v = .slice (some ⟨g, 0, none⟩) n c → ∃ g' n' c', v' = .slice (some ⟨g', 0, none⟩) n' c' ∧ ∀ p y, p < n * 81 → w.cell? ⟨g, p, none⟩ = some y → w'.cell? ⟨g', p, none⟩ = some y

theorem enterT2_any (W0 w : World) (B b q : Nat) (z : Int) (pv v : Value) (N M : Nat) (ts : List St) (xs : List Int) (h : Mem W0 w B b q z pv v (ts.map mtOf) (entsFrom 0 (ts.map mtOf))) (ht : TabI N z M ts) (hN : N ≤ 80) (hr : xs.Pairwise (· < ·)) (hx : ∀ x ∈ xs, 0 ≤ x ∧ x < (N : Int)) :
    Calls Tryz.prog 66 #[.pointer (some ⟨B, 0, none⟩), .agg (boolsA (markB xs))] w fun r w' => r = .returned (.tuple #[.int .i64 (entP z ts xs), .bool (entG z ts xs)]) ∧ ∃ v', Mem W0 w' B b q z pv v' ((entS z ts xs).map mtOf) (entsFrom 0 ((entS z ts xs).map mtOf)) ∧
      (entG z ts xs = false → (∀ k cs' t, Blk w k cs' t → v.ownBlock ≠ some k → k ≠ B → Blk w' k cs' t) ∧ (∀ k cs' t, Blk w k cs' t → v.ownBlock ≠ some k → k ≠ B → cs'.size ≤ 81 → 0 < ts.length → v'.ownBlock ≠ some k) ∧ Keeps w w' v v' ts.length) := by
  unfold entP entG entS
  by_cases hm : xs ∈ ts.map (·.1)
  · simp only [hm, if_true]
    rcases tAt_spec ts xs with ⟨_, h2⟩ | ⟨j, h1, h2, h3⟩
    · exact absurd hm h2
    · have hj : j < ts.length := by
        have := (List.getElem?_eq_some_iff.1 h2).1
        rwa [List.length_map] at this
      have hx2 : ts[j].1 = xs := by
        rw [List.getElem?_map, List.getElem?_eq_getElem hj] at h2
        simpa using h2
      have hmt : (ts.map mtOf)[j]? = some (mtOf ts[j]) := by simp [hj]
      refine (enter2_any W0 w B b q z pv v (ts.map mtOf) (markB xs) (markB_len xs) h j (mtOf ts[j]) hmt (by rw [mtOf_set, hx2])).mono ?_
      rintro r w' ⟨rfl, hm', hb⟩
      exact ⟨by rw [h1], v, hm', fun _ => ⟨fun k cs' t hk _ _ => (hb.block k hk.lt).trans hk, fun k cs' t _ hv _ _ _ => hv, fun g c e => ⟨g, _, c, e, fun p y _ hy => cell_later hb hy⟩⟩⟩
  · simp only [hm, if_false]
    have hlen := ht.len
    have hz := ht.size
    have hnew : ∀ x ∈ ts.map mtOf, x.1.1 ≠ markB xs := by
      intro x hxm e
      obtain ⟨y, hy, rfl⟩ := List.mem_map.1 hxm
      rw [mtOf_set] at e
      have := (markB_eq (ht.rise y hy) hr (fun x h => by have := ht.inn y hy x h; omega) (fun x h => by have := hx x h; omega)).1 e
      exact hm (List.mem_map.2 ⟨y, hy, this⟩)
    by_cases hzl : z ≤ ts.length
    · refine (enter_new W0 w B b q z pv v (ts.map mtOf) ⟨markB xs, markB_len xs⟩ h hnew (by rw [List.length_map]; omega)).mono ?_
      rintro r w' ⟨rfl, v', ms', rfl, hm'⟩
      rw [List.length_map] at hm' ⊢
      have e : (ts.length : Int) = z := by omega
      simp only [e, if_true, hzl, Int.le_refl, decide_true] at hm' ⊢
      exact ⟨trivial, v', hm', fun e => by cases e⟩
    · have e : ¬ (ts.length : Int) = z := by omega
      refine (enter2_new W0 w B b q z pv v (ts.map mtOf) ⟨markB xs, markB_len xs⟩ h hnew (by rw [List.length_map]; omega) (by rw [List.length_map]; exact e)).mono ?_
      rintro r w' ⟨rfl, v', hm', hf, hown⟩
      rw [List.length_map] at hown ⊢
      obtain ⟨us, k1, -⟩ := h.rows
      have hcs := k1.1.2
      rw [List.length_map] at hcs
      have ho := hown _ hcs
      simp only [e, if_false, hzl, decide_false]
      refine ⟨trivial, v', by rw [List.map_append]; exact hm', fun _ => ⟨hf, fun k cs' t hk hv hB hsz h0 hv' => ?_, fun g c e' => ?_⟩⟩
      · have hk' := hf k cs' t hk hv hB
        rcases ho.2 with ⟨rfl, e9⟩ | ⟨g', cap', cur', rfl, _, hh, hnc, _, hcz, _⟩
        · simp [Value.ownBlock] at hv'
        · simp [Value.ownBlock] at hv'
          subst hv'
          rw [show w'.heap[g']? = _ from hk'] at hh
          simp at hh
          have hsz2 : cs'.size = cap' * 81 := by rw [hh.1]; exact hcz
          omega
      · subst e'
        have hc1 : ∀ j u, (us.flatMap muE)[j]? = some u → w.cell? ((⟨g, 0, none⟩ : Addr).add j) = some u := World.ownsRow.cells (g := g) hcs rfl
        rcases ho.2 with ⟨_, e9⟩ | ⟨g', cap', cur', rfl, _⟩
        · omega
        · have hc2 : ∀ j u, (us.flatMap muE ++ muE (⟨markB xs, markB_len xs⟩, (Value.slice none 0 0, none)))[j]? = some u → w'.cell? ((⟨g', 0, none⟩ : Addr).add j) = some u := World.ownsRow.cells (g := g') ho rfl
          refine ⟨g', _, cap', rfl, fun p y hp hy => ?_⟩
          have hpl : p < (us.flatMap muE).length := by rw [hcs.1]; exact hp
          have q1 := hc1 p _ (List.getElem?_eq_getElem hpl)
          rw [Addr.add_lit, Nat.zero_add, hy] at q1
          have q2 := hc2 p y (by rw [List.getElem?_append_left hpl, List.getElem?_eq_getElem hpl]; exact q1.symm)
          rw [Addr.add_lit, Nat.zero_add] at q2
          exact q2

theorem entsFrom_set (y : Mt) : ∀ (ms : List Mt) (k j : Nat) (x : Mt), ms[j]? = some x → y.1 = x.1 → entsFrom k (ms.set j y) = entsFrom k ms
  | [], _, _, _, h, _ => by simp at h
  | m :: ms, k, 0, x, h, e => by
    simp at h
    subst h
    simp [entsFrom, e]
  | m :: ms, k, j + 1, x, h, e => by
    simp only [List.set_cons_succ, entsFrom]
    rw [entsFrom_set y ms (k + 1) j x (by simpa using h) e]
end Go.Proofs.YtlemdjgpkmjihaaGreat

namespace Go.Proofs.YtlemdjgpkmjihaaGreat
open Go.RowKit
set_option linter.unusedVariables false
set_option linter.unusedSimpArgs false

theorem mtC_put (S : List Bool) (v v' : Value) (hS : S.length = 80) : mtC S v' = (mtC S v).set 80 v' := by
  unfold mtC
  rw [List.set_append_right _ _ (by simp [hS])]
  simp [hS]

/-- What an append of one arc to a state's arcs does. -/
def AppOk (W0 w : World) (lo : Nat) (u : Mu) (x : Mt) (i : L2) (ty : TypeId) (v b : Value) : Prop :=
  ∃ v' w' row, (Builtin.append_ #[89, 89] ty #[v, b]).run Tryz.prog w = .ok v' w' ∧ w.grownBy w' row ∧ (∀ b, row = some b → b ∈ muB u) ∧ MtEl W0 w' lo w'.heap.size (u.1, (v', v'.ownBlock)) (x.1, x.2 ++ [i]) ∧ ∀ b ∈ muB (u.1, (v', v'.ownBlock)), b ∈ muB u ∨ w.heap.size ≤ b

theorem app_ok (W0 w : World) (lo hi : Nat) (u : Mu) (x : Mt) (i : L2) (ty : TypeId) (b c : Nat) (hel : MtEl W0 w lo hi u x) (hbl : Below W0.heap.size W0 w) (hlo : lo ≤ w.heap.size) (hc : ∀ f y, (lineE i)[f]? = some y → w.cell? ⟨b, f, none⟩ = some y) (hn : x.2.length ≤ 1000000) :
    AppOk W0 w lo u x i ty u.2.1 (.slice (some ⟨b, 0, none⟩) 1 c) := by
  rcases hel.2 with ⟨h0, a, e, hm, hr⟩ | hs
  · obtain ⟨v', w', h1, h2, h3⟩ := run_appArcF ty a x.2.length x.2 (hr.below hbl) b c i hc hn
    refine ⟨v', w', none, by rw [e]; exact h1, h3, (fun b hb => nomatch hb), ⟨hel.1, .inr (SubS.of (RowS.of (h2.up hlo)))⟩, fun k hk => ?_⟩
    rw [muB_mem] at hk
    exact .inr (h2.lt k hk).1
  · obtain ⟨hrow, hob⟩ := SubS.row hs
    obtain ⟨v', w', h1, h2, h3, h4⟩ := run_appArc1 ty lo u.2.1 x.2.length x.2 hrow.1 b c i hc hn hlo
    refine ⟨v', w', u.2.1.ownBlock, h1, h3, fun b hb => by rw [muB_mem, hob]; exact hb, ⟨hel.1, .inr (SubS.of (RowS.of h2))⟩, fun k hk => ?_⟩
    rw [muB_mem] at hk
    rcases h4 with h4 | h4
    · left
      rw [muB_mem, hob, ← h4]
      exact hk
    · exact .inr (h4 k hk)

theorem wp_runApp {W0 w : World} {o : Oper} {a : Act} {K : Act → World → Prop} {Q : Exit → Act → World → Prop} {lo : Nat} {u : Mu} {x : Mt} {i : L2} {v b : Value} (s y : Operand) (ho : o.op = .call { callee := .builtin .append, args := #[s, y], argTypes := #[89, 89] })
    (hs : a.eval s = v) (hy : a.eval y = b) (h : AppOk W0 w lo u x i o.type v b)
    (hk : ∀ v' w' row, w.grownBy w' row → (∀ b, row = some b → b ∈ muB u) → MtEl W0 w' lo w'.heap.size (u.1, (v', v'.ownBlock)) (x.1, x.2 ++ [i]) → (∀ b ∈ muB (u.1, (v', v'.ownBlock)), b ∈ muB u ∨ w.heap.size ≤ b) → K (a.put o.dst v') w') : o.wp Tryz.prog a w K Q := by
  obtain ⟨v', w', row, hrun, h1, h2, h3, h4⟩ := h
  unfold Oper.wp execOp
  simp only [ho, resolve, invoke, builtin, Sem.run_bind, Sem.run_pure, Result.andThen_ok, List.map_toArray, List.map_cons, List.map_nil, hs, hy, hrun]
  exact hk v' w' row h1 h2 h3 h4

set_option maxHeartbeats 6400000 in
set_option maxRecDepth 20000 in
theorem goOver_any (W0 w : World) (B b q : Nat) (z : Int) (i : Option Addr) (ni ci : Nat) (is : List In) (v : Value) (ts : List St) (s : Nat) (d : Int) (M : Nat) (hi : RdR inE 8 W0 i ni is) (hin : Inside is) (hn80 : ni ≤ 80) (hd0 : 0 ≤ d) (hd1 : d < 256)
    (h : Mem W0 w B b q z (.slice i ni ci) v (ts.map mtOf) (entsFrom 0 (ts.map mtOf))) (hI : TabI is.length z M ts) (hM : M ≤ 65536) (hsn : s < ts.length) :
    Calls Tryz.prog 35 #[.pointer (some ⟨B, 0, none⟩), .int .i64 (s : Int), .int .u8 d] w fun e w' => e = .returned (.int .i64 (goP is z ts s d)) ∧ ∃ v', Mem W0 w' B b q z (.slice i ni ci) v' ((goS is z ts s d).map mtOf) (entsFrom 0 ((goS is z ts s d).map mtOf)) := by
  have hni := hi.1
  have hx : ts[s]? = some ts[s] := List.getElem?_eq_getElem hsn
  have hxm : ts[s] ∈ ts := List.getElem_mem hsn
  have hSA := stAt_of hx
  have hr1 := hI.rise _ hxm
  have hr2 := hI.inn _ hxm
  have hr4 := hI.many _ hxm
  have harc := hI.arcs _ hxm
  have hts := hI.len
  have hzz := hI.size
  obtain ⟨k1, k2, k3⟩ := nextS_ok hin (by omega) d hr1 hr2
  have hnx := next_is hin (by omega) d hr1 hr2
  have hbn := below_markB (n := is.length) (by omega) hr2
  unfold goP goS
  rw [hSA]
  obtain ⟨x0, hx0⟩ : ∃ x0, x0 = ts[s] := ⟨_, rfl⟩
  rw [← hx0] at hx hr1 hr2 hr4 harc k1 k2 k3 hnx hbn ⊢
  clear hSA hxm hx0
  obtain ⟨ss, az⟩ := x0
  simp only at hr1 hr2 hr4 harc k1 k2 k3 hnx hbn ⊢
  have hEI := hI.enter k1 k2 k3
  have HST := hid (fun w' h1 h2 => stepFn_any q i ni ci is hin hn80 d hd0 hd1 (markB ss) (markB_len ss) (by rw [← hni]; exact hbn) w' h1 h2)
  rw [hnx.2] at HST
  have HEN0 := hid (fun (w' : World) (h' : Mem W0 w' B b q z (.slice i ni ci) v (ts.map mtOf) (entsFrom 0 (ts.map mtOf))) => enterT2_any W0 w' B b q z (.slice i ni ci) v is.length M ts (nextS is ss d) h' hI (by omega) k1 k2)
  have hcases := entG_cases z ts (nextS is ss d)
  have hEmany := hEI.1.many
  generalize nextS is ss d = N at *
  obtain ⟨P, hP⟩ : ∃ P, P = entP z ts N := ⟨_, rfl⟩
  obtain ⟨G, hG⟩ : ∃ G, G = entG z ts N := ⟨_, rfl⟩
  rw [← hP, ← hG] at HEN0
  rw [← hG] at hcases
  rw [← hP, ← hG]
  have HES : Hid (G = false → (entS z ts N)[s]? = some (ss, az)) := hid (fun e0 => by
    rcases hcases with ⟨h0, -⟩ | ⟨-, us, h0⟩
    · rw [e0] at h0; cases h0
    · rw [h0, List.getElem?_append_left hsn]; exact hx)
  have HP0 : Hid (0 ≤ P) := hid (by rw [hP]; exact hEI.2.1.1)
  generalize entS z ts N = E at *
  -- the state
  obtain ⟨f0, f1, U81, -, -⟩ := under81
  obtain ⟨Z, hZ⟩ : ∃ Z, Z = (mtC (List.replicate 80 false) (.slice none 0 0)).toArray := ⟨_, rfl⟩
  have hzv := zero81
  rw [← hZ] at hzv
  have HZS : Hid (Z.size = 81) := by rw [hZ, List.size_toArray]; exact mtC_len (by rw [List.length_replicate]) _
  obtain ⟨n, hn⟩ : ∃ n, n = ts.length := ⟨_, rfl⟩
  have hml : (ts.map mtOf).length = n := by rw [List.length_map, hn]
  have HM := hid h
  obtain ⟨g, vc, ra, rc, e0, hc, har, q1, q2⟩ := h.at (j := s) (x := mtOf (ss, az)) (by simp [hx])
  rw [hml] at e0
  subst e0
  have hvb : ∀ j, (Value.slice (some ⟨g, 0, none⟩) n vc).ownBlock = some j → j < w.heap.size := by obtain ⟨us, k1, -⟩ := h.rows; exact fun j hj => (k1.1.lt j hj).2
  have hgw : g < w.heap.size := hvb g rfl
  have hBw : B < w.heap.size := h.blk.lt
  have c1 : w.cell? ⟨B, 1, none⟩ = some (.slice (some ⟨g, 0, none⟩) n vc) := h.blk.cell 1
  have hsn' : (s : Int) < (n : Int) := by omega
  have HNT := hid hn
  have HC : Hid (∀ f y, (mtC (markB ss) (.slice ra az.length rc))[f]? = some y → w.cell? ⟨g, s * 81 + f, none⟩ = some y) := hid hc
  have HSZ1 : Hid ((Tryz.prog.info? 115).map (·.size) = some (mtC (markB ss) (.slice ra az.length rc)).toArray.size) := by rw [List.size_toArray]; exact hid (size81 (mtC_len (markB_len _) _))
  have HSZ2 : Hid (Z.size = (mtC (markB ss) (.slice ra az.length rc)).toArray.size) := by rw [HZS.out, List.size_toArray]; exact hid (mtC_len (markB_len _) _).symm
  have HZB := hid (Blk.new w Z 115)
  have HO : Hid ((mtC (markB ss) (.slice ra az.length rc)).toArray.all (·.oneCell') = true) := by
    rw [Array.all_eq_true_iff_forall_mem]
    exact hid (fun y hy => mtC_one _ _ _ _ y (by simpa using hy))
  have hb3 : Below w.heap.size w ((w.alloc (.cells Z 115)).setRow w.heap.size (mtC (markB ss) (.slice ra az.length rc)).toArray) := below_setRow ((Below.refl _ _).alloc (Nat.le_refl _) _) (Nat.le_refl _) _
  have HX3 := hid (HZB.out.setRow (mtC (markB ss) (.slice ra az.length rc)).toArray)
  have c80 : ((w.alloc (.cells Z 115)).setRow w.heap.size (mtC (markB ss) (.slice ra az.length rc)).toArray).cell? ⟨w.heap.size, 80, none⟩ = some (.slice ra az.length rc) := by
    rw [HX3.out.cell 80, List.getElem?_toArray]
    exact mtC_last (markB_len ss) _
  have HAR : Hid (RdR lineE 2 w ra az.length az) := hid har
  have HWB := hid hvb
  have hXB : w.heap.size ≠ B := by omega
  have hXg : w.heap.size ≠ g := by omega
  have hconv : IntKind.i64.wrap d = d := by rw [IntKind.wrap_i64]; omega
  have haz0 : az.length ≤ 1000000 := by omega
  have HARC := hid harc
  clear hc har q1 q2 hvb hZ hml hr1 hr2 harc hts hzz k1 k2 k3 hnx hbn hcases hI hP hG hEI hEmany hx hn h hgw hBw
  have HTT := hid (show arcTo (az.drop 0) d = arcTo az d from rfl)
  obtain ⟨A, hA⟩ : ∃ A, A = arcTo az d := ⟨_, rfl⟩
  rw [← hA] at HTT ⊢
  have HAA := hid hA
  obtain ⟨RV, hRV⟩ : ∃ r, r = (if 0 ≤ A then A else P) := ⟨_, rfl⟩
  obtain ⟨RS, hRS⟩ : ∃ r, r = (if 0 ≤ A then ts else if G = true then E else E.set s (ss, az ++ [(d, P)])) := ⟨_, rfl⟩
  rw [← hRV, ← hRS]
  have HRV := hid hRV
  have HRS := hid hRS
  clear hA hRV hRS
  go_enter Tryz.func35, Tryz.ntmps35
  go_wp2_with (first | ((with_reducible show wpList _ _ _ (({ dst := _, op := .load 115 _, type := _, pos := _, after := _, guard := _ } : Oper) :: _) _ _); refine wpList_load_at rfl 115 _ rfl g (s * 81) rfl (mtC (markB ss) (.slice ra az.length rc)) _ HC.out U81 rfl (size81 (mtC_len (markB_len _) _)) ?_) | ((with_reducible show wpList _ _ _ (({ dst := _, op := .store 115 _ _, type := _, pos := _, after := _, guard := _ } : Oper) :: _) _ _); refine wpList_store_row rfl 115 _ _ rfl w.heap.size (mtC (markB ss) (.slice ra az.length rc)).toArray rfl rfl 115 Z HZB.out HSZ1.out HSZ2.out HO.out ?_))
  obtain ⟨W3, hW3⟩ : ∃ W3, W3 = (w.alloc (.cells Z 115)).setRow w.heap.size (mtC (markB ss) (.slice ra az.length rc)).toArray := ⟨_, rfl⟩
  rw [← hW3] at hb3 HX3 c80 ⊢
  have HM3 := hid (HM.out.later hb3)
  have HX3b : Hid (Blk W3 w.heap.size (mtC (markB ss) (.slice ra az.length rc)).toArray 115) := hid (by have := HX3.out; simpa using this)
  have HC3 := hid (fun f y hf => cell_later hb3 (HC.out f y hf))
  clear hW3 HZB HO HSZ1 HSZ2 HX3 c1
  have HAR3 := hid (HAR.out.below hb3)
  have HVX : Hid ((Value.slice (some ⟨g, 0, none⟩) n vc).ownBlock ≠ some w.heap.size) := hid (fun e => by have := HWB.out _ e; omega)
  clear hb3 HAR HC HM HWB
  generalize w.heap.size = X at *
  go_loopw [22] (fun i wr => ∃ j : Nat, j ≤ az.length ∧ i = .int .i64 j ∧ Below W3.heap.size W3 wr ∧ Hid (arcTo (az.drop j) d = A)) (fun i _ => az.length - (intOf i).toNat)
  case atStart => exact ⟨0, Nat.zero_le _, rfl, Below.refl _ _, HTT⟩
  case round =>
    obtain ⟨j, hj, rfl, hbq, ht⟩ := hrel
    clear HTT
    by_cases hjl : j < az.length
    · obtain ⟨b1, o1, c, rfl, hxa, hca⟩ := (HAR3.out.below hbq).at hjl
      obtain ⟨d0, d1⟩ := two hca
      have ht2 := ht.out
      rw [arcTo_at hxa] at ht2
      have hto := HARC.out c (List.mem_of_getElem? hxa)
      have hjl' : (j : Int) < (az.length : Int) := by omega
      clear hxa hca ht
      obtain ⟨x, y⟩ := c
      simp only at d0 d1 ht2 hto
      by_cases h1 : x = d
      · rw [if_pos h1] at ht2
        have hA0 : 0 ≤ A := by omega
        have HT2 : Hid (y = RV) := hid (by rw [HRV.out, if_pos hA0]; exact ht2)
        have HTS : Hid (RS = ts) := hid (by rw [HRS.out, if_pos hA0])
        have HMZ := hid ((HM3.out.later hbq).later ((Below.refl wr.heap.size wr).alloc (Nat.le_refl _) (.cells #[.int .i64 x, .int .i64 y] 99)))
        clear ht2 hto
        subst h1
        go_wp2
        go_ret
        refine ⟨ret_int HT2.out, .slice (some ⟨g, 0, none⟩) n vc, ?_⟩
        rw [HTS.out]
        exact HMZ.out
      · rw [if_neg h1] at ht2
        have HT2 := hid ht2
        have hb9 := hbq.trans (((Below.refl wr.heap.size wr).alloc (Nat.le_refl _) (.cells #[.int .i64 x, .int .i64 y] 99)).mono hbq.size)
        have HB9 := hid hb9
        clear ht2 hto hb9
        go_wp2
        go_roundw
        case rel => exact ⟨j + 1, by omega, by go_num, HB9.out, HT2⟩
        case measure => simp [intOf]; omega
    · obtain rfl : j = az.length := by omega
      have ht2 := ht.out
      rw [arcTo_end (Nat.le_refl _)] at ht2
      have hA0 : ¬ 0 ≤ A := by omega
      clear ht2 ht
      have HVP : Hid (P = RV) := hid (by rw [HRV.out, if_neg hA0])
      have HVS : Hid (RS = if G = true then E else E.set s (ss, az ++ [(d, P)])) := hid (by rw [HRS.out, if_neg hA0])
      clear hA0
      obtain ⟨D, hD⟩ : ∃ D, D = wr.drew := ⟨_, rfl⟩
      have hbd : Below W3.heap.size W3 D := by rw [hD]; exact hbq.drew
      have HM8 := hid (HM3.out.later hbd)
      have HX8 := hid (Blk.of HX3b.out hbd)
      have HEN := hid (fun (w' : World) (h' : Mem W0 w' B b q z (.slice i ni ci) (.slice (some ⟨g, 0, none⟩) n vc) (ts.map mtOf) (entsFrom 0 (ts.map mtOf))) => HEN0.out w' h')
      have hS3 : D.cell? ⟨B, 3, none⟩ = some (stepV q) := HM8.out.blk.cell 3
      have HC8 := hid (fun f y hf => cell_later hbd (HC3.out f y hf))
      clear hbd hbq
      go_wp2_with fail
      refine wp_region_held_drew (S := fun w' => w'.cell? ⟨B, 3, none⟩ = some (stepV q)) (by kernel_rfl) (by rw [← hD]; exact hS3) (fun hS => ?_)
      rw [← hD] at hS ⊢
      clear hD hS3
      refine wpAnyH_take (i := 0) (v := (.pointer (some ⟨B, 0, none⟩))) rfl (by as_aux_lemma => kernel_rfl) (by as_aux_lemma => kernel_rfl) (by as_aux_lemma => kernel_rfl) (fun _ _ _ h => h) (Or.inl ⟨by kernel_rfl, ?_⟩) hS ?_
      · intro w hSw; (try dsimp only at hSw); go_simp
      (try simp only [Act.put, List.getElem_toArray, List.getElem_cons_zero, List.getElem_cons_succ, List.setIfInBounds_toArray, List.set_cons_zero, List.set_cons_succ])
      refine wpAnyH_take (i := 1) (v := (.pointer (some ⟨B, 0, none⟩))) rfl (by as_aux_lemma => kernel_rfl) (by as_aux_lemma => kernel_rfl) (by as_aux_lemma => kernel_rfl) (fun _ _ _ h => h) (Or.inl ⟨by kernel_rfl, ?_⟩) hS ?_
      · intro w hSw; (try dsimp only at hSw); go_simp
      (try simp only [Act.put, List.getElem_toArray, List.getElem_cons_zero, List.getElem_cons_succ, List.setIfInBounds_toArray, List.set_cons_zero, List.set_cons_succ])
      refine wpAnyH_take (i := 2) (v := (.pointer (some ⟨B, 0, none⟩))) rfl (by as_aux_lemma => kernel_rfl) (by as_aux_lemma => kernel_rfl) (by as_aux_lemma => kernel_rfl) (fun _ _ _ h => h) (Or.inl ⟨by kernel_rfl, ?_⟩) hS ?_
      · intro w hSw; (try dsimp only at hSw); go_simp
      (try simp only [Act.put, List.getElem_toArray, List.getElem_cons_zero, List.getElem_cons_succ, List.setIfInBounds_toArray, List.set_cons_zero, List.set_cons_succ])
      refine wpAnyH_take (i := 3) (v := (.pointer (some ⟨B, 3, none⟩))) rfl (by as_aux_lemma => kernel_rfl) (by as_aux_lemma => kernel_rfl) (by as_aux_lemma => kernel_rfl) (fun _ _ _ h => h) (Or.inl ⟨by kernel_rfl, ?_⟩) hS ?_
      · intro w hSw; (try dsimp only at hSw); go_simp
      (try simp only [Act.put, List.getElem_toArray, List.getElem_cons_zero, List.getElem_cons_succ, List.setIfInBounds_toArray, List.set_cons_zero, List.set_cons_succ])
      refine wpAnyH_take (i := 4) (v := (stepV q)) rfl (by as_aux_lemma => kernel_rfl) (by as_aux_lemma => kernel_rfl) (by as_aux_lemma => kernel_rfl) (fun _ _ _ h => h) (Or.inl ⟨by kernel_rfl, ?_⟩) hS ?_
      · intro w hSw; (try dsimp only at hSw); have hc3 := hSw; go_simp
      (try simp only [Act.put, List.getElem_toArray, List.getElem_cons_zero, List.getElem_cons_succ, List.setIfInBounds_toArray, List.set_cons_zero, List.set_cons_succ])
      refine wpAnyH_take (i := 5) (v := (.pointer (some ⟨X, 0, none⟩))) rfl (by as_aux_lemma => kernel_rfl) (by as_aux_lemma => kernel_rfl) (by as_aux_lemma => kernel_rfl) (fun _ _ _ h => h) (Or.inl ⟨by kernel_rfl, ?_⟩) hS ?_
      · intro w hSw; (try dsimp only at hSw); go_simp
      (try simp only [Act.put, List.getElem_toArray, List.getElem_cons_zero, List.getElem_cons_succ, List.setIfInBounds_toArray, List.set_cons_zero, List.set_cons_succ])
      refine wpAnyH_take (i := 7) (v := (.int .u8 d)) rfl (by as_aux_lemma => kernel_rfl) (by as_aux_lemma => kernel_rfl) (by as_aux_lemma => kernel_rfl) (fun _ _ _ h => h) (Or.inl ⟨by kernel_rfl, ?_⟩) hS ?_
      · intro w hSw; (try dsimp only at hSw); go_simp
      (try simp only [Act.put, List.getElem_toArray, List.getElem_cons_zero, List.getElem_cons_succ, List.setIfInBounds_toArray, List.set_cons_zero, List.set_cons_succ])
      refine wpAnyH_ready (rs := [6]) (by as_aux_lemma => kernel_rfl) (by simp) ?_
      refine AllReadyH.cons rfl (fun K hK => ?_) AllReadyH.nil
      refine wp_load_at 111 _ rfl X 0 rfl ((markB ss).map Value.bool) _ (mtC_set HX8.out) under80 rfl (sizeS (markB_len ss)) ?_
      refine hK.out _ _ (hS) (fun hS2 => ?_)
      clear hK K hS
      have hS := hS2
      clear hS2
      (try simp only [Act.put, List.getElem_toArray, List.getElem_cons_zero, List.getElem_cons_succ, List.setIfInBounds_toArray, List.set_cons_zero, List.set_cons_succ])
      refine wpAnyH_ready (rs := [8]) (by as_aux_lemma => kernel_rfl) (by simp) ?_
      refine AllReadyH.cons rfl (fun K hK => ?_) AllReadyH.nil
      go_simp
      refine Calls.mono (HST.out D (hi.below HM8.out.below) (HM8.out.step.cell 0)) ?_
      rintro e W5 ⟨rfl, hb5⟩
      have HM5 := hid (HM8.out.later hb5)
      have HX5 := hid (Blk.of HX8.out hb5)
      have HBD5 := hid hb5
      refine hK.out _ _ (cell_later hb5 hS) (fun hS2 => ?_)
      clear hK K hS
      have hS := hS2
      clear hS2
      (try simp only [Act.put, List.getElem_toArray, List.getElem_cons_zero, List.getElem_cons_succ, List.setIfInBounds_toArray, List.set_cons_zero, List.set_cons_succ])
      clear hb5
      refine wpAnyH_ready (rs := [9]) (by as_aux_lemma => kernel_rfl) (by simp) ?_
      refine AllReadyH.cons rfl (fun K hK => ?_) AllReadyH.nil
      go_simp
      refine Calls.mono (HEN.out W5 HM5.out) ?_
      rintro e W6 ⟨rfl, v6, hm6, hfr⟩
      have HM6 := hid hm6
      have HFR := hid hfr
      refine hK.out _ _ (HM6.out.blk.cell 3) (fun hS2 => ?_)
      clear hK K hS
      have hS := hS2
      clear hS2
      (try simp only [Act.put, List.getElem_toArray, List.getElem_cons_zero, List.getElem_cons_succ, List.setIfInBounds_toArray, List.set_cons_zero, List.set_cons_succ])
      clear hm6 hfr
      refine wpAnyH_take (i := 10) (v := (.tuple #[.int .i64 P, .bool G])) rfl (by as_aux_lemma => kernel_rfl) (by as_aux_lemma => kernel_rfl) (by as_aux_lemma => kernel_rfl) (fun _ _ _ h => h) (Or.inl ⟨by kernel_rfl, ?_⟩) hS ?_
      · intro w hSw; (try dsimp only at hSw); go_simp
      (try simp only [Act.put, List.getElem_toArray, List.getElem_cons_zero, List.getElem_cons_succ, List.setIfInBounds_toArray, List.set_cons_zero, List.set_cons_succ])
      refine wpAnyH_take (i := 11) (v := (.int .i64 P)) rfl (by as_aux_lemma => kernel_rfl) (by as_aux_lemma => kernel_rfl) (by as_aux_lemma => kernel_rfl) (fun _ _ _ h => h) (Or.inl ⟨by kernel_rfl, ?_⟩) hS ?_
      · intro w hSw; (try dsimp only at hSw); go_simp
      (try simp only [Act.put, List.getElem_toArray, List.getElem_cons_zero, List.getElem_cons_succ, List.setIfInBounds_toArray, List.set_cons_zero, List.set_cons_succ])
      refine wpAnyH_take (i := 12) (v := (.bool G)) rfl (by as_aux_lemma => kernel_rfl) (by as_aux_lemma => kernel_rfl) (by as_aux_lemma => kernel_rfl) (fun _ _ _ h => h) (Or.inl ⟨by kernel_rfl, ?_⟩) hS ?_
      · intro w hSw; (try dsimp only at hSw); go_simp
      (try simp only [Act.put, List.getElem_toArray, List.getElem_cons_zero, List.getElem_cons_succ, List.setIfInBounds_toArray, List.set_cons_zero, List.set_cons_succ])
      refine wpAnyH_take (i := 13) (v := (.int .i64 P)) rfl (by as_aux_lemma => kernel_rfl) (by as_aux_lemma => kernel_rfl) (by as_aux_lemma => kernel_rfl) (fun _ _ _ h => h) (Or.inl ⟨by kernel_rfl, ?_⟩) hS ?_
      · intro w hSw; (try dsimp only at hSw); go_simp
      (try simp only [Act.put, List.getElem_toArray, List.getElem_cons_zero, List.getElem_cons_succ, List.setIfInBounds_toArray, List.set_cons_zero, List.set_cons_succ])
      refine wpAnyH_take (i := 14) (v := (.bool G)) rfl (by as_aux_lemma => kernel_rfl) (by as_aux_lemma => kernel_rfl) (by as_aux_lemma => kernel_rfl) (fun _ _ _ h => h) (Or.inl ⟨by kernel_rfl, ?_⟩) hS ?_
      · intro w hSw; (try dsimp only at hSw); go_simp
      (try simp only [Act.put, List.getElem_toArray, List.getElem_cons_zero, List.getElem_cons_succ, List.setIfInBounds_toArray, List.set_cons_zero, List.set_cons_succ])
      refine wpAnyH_done (by kernel_rfl) ?_ _
      clear hS
      cases G
      case true =>
        go_wp2
        go_ret
        refine ⟨ret_int HVP.out, v6, ?_⟩
        have hvs : RS = E := by simpa using HVS.out
        rw [hvs]
        exact HM6.out
      obtain ⟨hfr1, hfr2, hkeep⟩ := HFR.out rfl
      have hxE := HES.out rfl
      have hXBn : X ≠ B := hXB
      have HC5 := hid (fun f y hf => cell_later (HBD5.out) (HC8.out f y hf))
      have hx6 := hfr1 X _ _ HX5.out HVX.out hXBn
      have hv6X := hfr2 X _ _ HX5.out HVX.out hXBn (by rw [List.size_toArray, mtC_len (markB_len _)]; exact Nat.le_refl _) (by omega)
      obtain ⟨g6, n6', c6, rfl, hkc⟩ := hkeep g vc (by rw [HNT.out])
      have hg6X : g6 ≠ X := fun e => hv6X (by rw [e]; rfl)
      obtain rfl : n6' = (E.map mtOf).length := by
        obtain ⟨_, _, e9, -, -⟩ := RowN.shape muE_len HM6.out.rows
        rw [Value.slice.injEq] at e9
        exact e9.2.1
      have hb6 : W6.cell? ⟨B, 1, none⟩ = some (.slice (some ⟨g6, 0, none⟩) (E.map mtOf).length c6) := HM6.out.blk.cell 1
      have XCELL : Hid (∀ w', Blk w' X (mtC (markB ss) (.slice ra az.length rc)).toArray 115 → w'.cell? ⟨X, 80, none⟩ = some (.slice ra az.length rc)) := hid (fun w' h => by
        rw [h.cell 80, List.getElem?_toArray]
        exact mtC_last (markB_len ss) _)
      have hbX6 := XCELL.out W6 hx6
      obtain ⟨D6, hD6⟩ : ∃ D, D = W6.drew := ⟨_, rfl⟩
      obtain ⟨w7, hw7⟩ : ∃ w7, w7 = D6.alloc (.cells #[.int .i64 d, .int .i64 P] 99) := ⟨_, rfl⟩
      have hb7 : Below D6.heap.size D6 w7 := by rw [hw7]; exact (Below.refl _ _).alloc (Nat.le_refl _) _
      have hb67 : Below W6.heap.size W6 w7 := by rw [hw7, hD6]; exact ((Below.refl _ _).drew).alloc (by show W6.heap.size ≤ W6.heap.size; omega) _
      have HN7 : Hid (Blk w7 D6.heap.size #[.int .i64 d, .int .i64 P] 99) := by rw [hw7]; exact hid (Blk.new _ _ _)
      have HM7 := hid (HM6.out.later hb67)
      have HX7 := hid (Blk.of hx6 hb67)
      have hxEm : (E.map mtOf)[s]? = some (mtOf (ss, az)) := by rw [List.getElem?_map, hxE]; rfl
      obtain ⟨u7, hcu7, hel7, hg7, hbne7, hput7⟩ := RowN.put (mtOk W0) muE_len HM7.out.rows hxEm
      have e7 : u7.2.1 = .slice ra az.length rc := by
        have q1 := hcu7 80 u7.2.1 (mtC_last u7.1.2 _)
        have q2 := cell_later hb67 (hkc (s * 81 + 80) _ (by omega) (HC5 80 _ (mtC_last (markB_len ss) _)))
        rw [q1] at q2
        simpa using q2
      have hnoA : ∀ k, (∀ cs q, w7.heap[k]? ≠ some (.cells cs 99 q)) → k ∉ muB u7 := by
        intro k hk hm
        rw [muB_mem] at hm
        rcases hel7.2 with ⟨h0, _⟩ | hs
        · rw [h0] at hm; cases hm
        · exact SubV.own_type hs hm hk
      have HNO : Hid (∀ k cs t, Blk w7 k cs t → t ≠ 99 → k ∉ muB u7) := hid (fun k cs t hk ht => hnoA k (blk_no hk ht))
      have HNP : Hid (b ∉ muB u7) := hid (hnoA b (OwnP.no HM7.out.map))
      have HAPP := hid (fun ty => app_ok W0 w7 W0.heap.size _ u7 (mtOf (ss, az)) (d, P) ty D6.heap.size 1 hel7 HM7.out.below HM7.out.below.size (fun f y hy => by
        rcases f with _ | _ | f
        · simp [lineE] at hy; rw [← hy]; simpa using HN7.out.cell 0
        · simp [lineE] at hy; rw [← hy]; simpa using HN7.out.cell 1
        · simp [lineE] at hy) haz0)
      rw [e7] at HAPP
      have HEL7 := hid hel7
      have HPUT := hid hput7
      have HBG : Hid (B ≠ g6) := hid (hbne7 B _ _ HM7.out.blk (by decide))
      have HQG : Hid (q ≠ g6) := hid (hbne7 q _ _ HM7.out.step (by decide))
      have HXG : Hid (X ≠ g6) := hid (fun e => hg6X e.symm)
      have HPG : Hid (b ≠ g6) := hid (fun e => by
        obtain ⟨us, k1, -⟩ := HM7.out.rows
        exact OwnP.not_row HM7.out.map k1.1.2 (by rw [e]; rfl))
      have hg7' : W0.heap.size ≤ g6 := hg7.1
      have hsE : s < (E.map mtOf).length := (List.getElem?_eq_some_iff.1 hxEm).1
      have hsE' : (s : Int) < ((E.map mtOf).length : Int) := by omega
      have HFRZ := hid (RowN.frozen HM7.out.rows)
      have HXE := hid hxE
      have hS6 : D6.cell? ⟨B, 1, none⟩ = some (.slice (some ⟨g6, 0, none⟩) (E.map mtOf).length c6) ∧ D6.cell? ⟨X, 80, none⟩ = some (.slice ra az.length rc) := by rw [hD6]; exact ⟨hb6, hbX6⟩
      generalize hLN : (E.map mtOf).length = n6 at *
      clear hfr1 hfr2 hkc hcu7 hel7 hg7 hbne7 hput7 hnoA hxEm hx6 hv6X hb6 hbX6 HC5 hb67
      go_wp2_with fail
      refine wp_region_held_drew (S := fun w' => w'.cell? ⟨B, 1, none⟩ = some (.slice (some ⟨g6, 0, none⟩) n6 c6) ∧ w'.cell? ⟨X, 80, none⟩ = some (.slice ra az.length rc)) (by kernel_rfl) (by rw [← hD6]; exact hS6) (fun hS => ?_)
      rw [← hD6] at hS ⊢
      clear hD6 hS6
      refine wpAnyH_take (i := 0) (v := (.pointer (some ⟨B, 0, none⟩))) rfl (by as_aux_lemma => kernel_rfl) (by as_aux_lemma => kernel_rfl) (by as_aux_lemma => kernel_rfl) (fun _ _ _ h => h) (Or.inl ⟨by kernel_rfl, ?_⟩) hS ?_
      · intro w hSw; (try dsimp only at hSw); go_simp
      (try simp only [Act.put, List.getElem_toArray, List.getElem_cons_zero, List.getElem_cons_succ, List.setIfInBounds_toArray, List.set_cons_zero, List.set_cons_succ])
      refine wpAnyH_take (i := 1) (v := (.pointer (some ⟨B, 0, none⟩))) rfl (by as_aux_lemma => kernel_rfl) (by as_aux_lemma => kernel_rfl) (by as_aux_lemma => kernel_rfl) (fun _ _ _ h => h) (Or.inl ⟨by kernel_rfl, ?_⟩) hS ?_
      · intro w hSw; (try dsimp only at hSw); go_simp
      (try simp only [Act.put, List.getElem_toArray, List.getElem_cons_zero, List.getElem_cons_succ, List.setIfInBounds_toArray, List.set_cons_zero, List.set_cons_succ])
      refine wpAnyH_take (i := 2) (v := (.pointer (some ⟨B, 1, none⟩))) rfl (by as_aux_lemma => kernel_rfl) (by as_aux_lemma => kernel_rfl) (by as_aux_lemma => kernel_rfl) (fun _ _ _ h => h) (Or.inl ⟨by kernel_rfl, ?_⟩) hS ?_
      · intro w hSw; (try dsimp only at hSw); go_simp
      (try simp only [Act.put, List.getElem_toArray, List.getElem_cons_zero, List.getElem_cons_succ, List.setIfInBounds_toArray, List.set_cons_zero, List.set_cons_succ])
      refine wpAnyH_take (i := 3) (v := (.slice (some ⟨g6, 0, none⟩) n6 c6)) rfl (by as_aux_lemma => kernel_rfl) (by as_aux_lemma => kernel_rfl) (by as_aux_lemma => kernel_rfl) (fun _ _ _ h => h) (Or.inl ⟨by kernel_rfl, ?_⟩) hS ?_
      · intro w hSw; (try dsimp only at hSw); have hc1 := hSw.1; go_simp
      (try simp only [Act.put, List.getElem_toArray, List.getElem_cons_zero, List.getElem_cons_succ, List.setIfInBounds_toArray, List.set_cons_zero, List.set_cons_succ])
      refine wpAnyH_take (i := 4) (v := (.int .i64 (s : Int))) rfl (by as_aux_lemma => kernel_rfl) (by as_aux_lemma => kernel_rfl) (by as_aux_lemma => kernel_rfl) (fun _ _ _ h => h) (Or.inl ⟨by kernel_rfl, ?_⟩) hS ?_
      · intro w hSw; (try dsimp only at hSw); go_simp
      (try simp only [Act.put, List.getElem_toArray, List.getElem_cons_zero, List.getElem_cons_succ, List.setIfInBounds_toArray, List.set_cons_zero, List.set_cons_succ])
      refine wpAnyH_take (i := 5) (v := (.pointer (some ⟨X, 80, none⟩))) rfl (by as_aux_lemma => kernel_rfl) (by as_aux_lemma => kernel_rfl) (by as_aux_lemma => kernel_rfl) (fun _ _ _ h => h) (Or.inl ⟨by kernel_rfl, ?_⟩) hS ?_
      · intro w hSw; (try dsimp only at hSw); go_simp
      (try simp only [Act.put, List.getElem_toArray, List.getElem_cons_zero, List.getElem_cons_succ, List.setIfInBounds_toArray, List.set_cons_zero, List.set_cons_succ])
      refine wpAnyH_take (i := 6) (v := (.slice ra az.length rc)) rfl (by as_aux_lemma => kernel_rfl) (by as_aux_lemma => kernel_rfl) (by as_aux_lemma => kernel_rfl) (fun _ _ _ h => h) (Or.inl ⟨by kernel_rfl, ?_⟩) hS ?_
      · intro w hSw; (try dsimp only at hSw); have hc1 := hSw.2; go_simp
      (try simp only [Act.put, List.getElem_toArray, List.getElem_cons_zero, List.getElem_cons_succ, List.setIfInBounds_toArray, List.set_cons_zero, List.set_cons_succ])
      refine wpAnyH_take (i := 7) (v := (.int .u8 d)) rfl (by as_aux_lemma => kernel_rfl) (by as_aux_lemma => kernel_rfl) (by as_aux_lemma => kernel_rfl) (fun _ _ _ h => h) (Or.inl ⟨by kernel_rfl, ?_⟩) hS ?_
      · intro w hSw; (try dsimp only at hSw); go_simp
      (try simp only [Act.put, List.getElem_toArray, List.getElem_cons_zero, List.getElem_cons_succ, List.setIfInBounds_toArray, List.set_cons_zero, List.set_cons_succ])
      refine wpAnyH_take (i := 8) (v := (.int .i64 d)) rfl (by as_aux_lemma => kernel_rfl) (by as_aux_lemma => kernel_rfl) (by as_aux_lemma => kernel_rfl) (fun _ _ _ h => h) (Or.inl ⟨by kernel_rfl, ?_⟩) hS ?_
      · intro w hSw; (try dsimp only at hSw); go_simp
      (try simp only [Act.put, List.getElem_toArray, List.getElem_cons_zero, List.getElem_cons_succ, List.setIfInBounds_toArray, List.set_cons_zero, List.set_cons_succ])
      refine wpAnyH_take (i := 9) (v := (.int .i64 P)) rfl (by as_aux_lemma => kernel_rfl) (by as_aux_lemma => kernel_rfl) (by as_aux_lemma => kernel_rfl) (fun _ _ _ h => h) (Or.inl ⟨by kernel_rfl, ?_⟩) hS ?_
      · intro w hSw; (try dsimp only at hSw); go_simp
      (try simp only [Act.put, List.getElem_toArray, List.getElem_cons_zero, List.getElem_cons_succ, List.setIfInBounds_toArray, List.set_cons_zero, List.set_cons_succ])
      refine wpAnyH_take (i := 10) (v := (.agg #[.int .i64 d, .int .i64 P])) rfl (by as_aux_lemma => kernel_rfl) (by as_aux_lemma => kernel_rfl) (by as_aux_lemma => kernel_rfl) (fun _ _ _ h => h) (Or.inl ⟨by kernel_rfl, ?_⟩) hS ?_
      · intro w hSw; (try dsimp only at hSw); go_simp
      (try simp only [Act.put, List.getElem_toArray, List.getElem_cons_zero, List.getElem_cons_succ, List.setIfInBounds_toArray, List.set_cons_zero, List.set_cons_succ])
      refine wpAnyH_ready (rs := [11]) (by as_aux_lemma => kernel_rfl) (by simp) ?_
      refine AllReadyH.cons rfl (fun K hK => ?_) AllReadyH.nil
      go_simp
      rw [← hw7]
      refine hK.out _ _ (⟨cell_later hb7 hS.1, cell_later hb7 hS.2⟩) (fun hS2 => ?_)
      clear hK K hS
      have hS := hS2
      clear hS2
      (try simp only [Act.put, List.getElem_toArray, List.getElem_cons_zero, List.getElem_cons_succ, List.setIfInBounds_toArray, List.set_cons_zero, List.set_cons_succ])
      refine wpAnyH_ready (rs := [12]) (by as_aux_lemma => kernel_rfl) (by simp) ?_
      refine AllReadyH.cons rfl (fun K hK => ?_) AllReadyH.nil
      rw [if_pos (by rfl)]
      refine wp_runApp _ _ rfl rfl rfl (HAPP.out _) ?_
      intro v8 w8 row hg8 hrow8 hel8 hnew8
      obtain ⟨a8, n8, c8, rfl⟩ : ∃ a n c, v8 = Value.slice a n c := by (rcases hel8.2 with ⟨_, a, e, _⟩ | hs; exact ⟨_, _, _, e⟩; obtain ⟨a, c, e, _⟩ := SubV.shape hs; exact ⟨_, _, _, e⟩)
      have HB8 : Hid (Blk w8 B #[.int .i64 z, .slice (some ⟨g6, 0, none⟩) n6 c6, .map (some b), stepV q] 108) := hid (Blk.kept HM7.out.blk hg8 (fun e => HNO.out B _ _ HM7.out.blk (by decide) (hrow8 B e.symm)))
      have HX8 : Hid (Blk w8 X (mtC (markB ss) (.slice ra az.length rc)).toArray 115) := hid (Blk.kept HX7.out hg8 (fun e => HNO.out X _ _ HX7.out (by decide) (hrow8 X e.symm)))
      have HQ8 : Hid (Blk w8 q #[.slice i ni ci] 34) := hid (Blk.kept HM7.out.step hg8 (fun e => HNO.out q _ _ HM7.out.step (by decide) (hrow8 q e.symm)))
      have HP8 : Hid (OwnP w8 b (entsFrom 0 (E.map mtOf))) := hid (HM7.out.map.kept hg8 (fun e => HNP.out (hrow8 b e.symm)))
      have HW8 : Hid (Below W0.heap.size W0 w8) := hid (HM7.out.below.grown hg8 HM7.out.below.size (fun j hj => ((mtOk W0).inn HEL7.out j (hrow8 j hj)).1))
      obtain ⟨r1, r2, r3⟩ := HPUT.out w8 row (u7.1, ((Value.slice a8 n8 c8), (Value.slice a8 n8 c8).ownBlock)) 80 (Value.slice a8 n8 c8) (mtOf (ss, az ++ [(d, P)])) hg8 hrow8 (mtC_put u7.1.1 u7.2.1 (Value.slice a8 n8 c8) u7.1.2) (by decide) hel8 hnew8
      obtain ⟨cv, hcv⟩ := Option.isSome_iff_exists.1 r1
      have HR8 := hid r3
      clear r1 r3 hg8 hrow8 hel8 hnew8
      refine hK.out _ _ (⟨by have := HB8.out.cell 1; simpa using this, XCELL.out w8 HX8.out⟩) (fun hS2 => ?_)
      clear hK K hS
      have hS := hS2
      clear hS2
      (try simp only [Act.put, List.getElem_toArray, List.getElem_cons_zero, List.getElem_cons_succ, List.setIfInBounds_toArray, List.set_cons_zero, List.set_cons_succ])
      refine wpAnyH_take (i := 13) (v := (.pointer (some ⟨g6, s * 81, none⟩))) rfl (by as_aux_lemma => kernel_rfl) (by as_aux_lemma => kernel_rfl) (by as_aux_lemma => kernel_rfl) (fun _ _ _ h => h) (Or.inl ⟨by kernel_rfl, ?_⟩) hS ?_
      · intro w hSw; (try dsimp only at hSw); go_simp
      (try simp only [Act.put, List.getElem_toArray, List.getElem_cons_zero, List.getElem_cons_succ, List.setIfInBounds_toArray, List.set_cons_zero, List.set_cons_succ])
      refine wpAnyH_take (i := 14) (v := (.pointer (some ⟨g6, s * 81 + 80, none⟩))) rfl (by as_aux_lemma => kernel_rfl) (by as_aux_lemma => kernel_rfl) (by as_aux_lemma => kernel_rfl) (fun _ _ _ h => h) (Or.inl ⟨by kernel_rfl, ?_⟩) hS ?_
      · intro w hSw; (try dsimp only at hSw); go_simp
      (try simp only [Act.put, List.getElem_toArray, List.getElem_cons_zero, List.getElem_cons_succ, List.setIfInBounds_toArray, List.set_cons_zero, List.set_cons_succ])
      refine wpAnyH_ready (rs := [15]) (by as_aux_lemma => kernel_rfl) (by simp) ?_
      refine AllReadyH.cons rfl (fun K hK => ?_) AllReadyH.nil
      go_simp
      refine hK.out _ _ (⟨by have := (Blk.other HB8.out HBG.out (i := s * 81 + 80) (Value.slice a8 n8 c8)).cell 1; simpa using this, XCELL.out _ (Blk.other HX8.out HXG.out (i := s * 81 + 80) (Value.slice a8 n8 c8))⟩) (fun hS2 => ?_)
      clear hK K hS
      have hS := hS2
      clear hS2
      (try simp only [Act.put, List.getElem_toArray, List.getElem_cons_zero, List.getElem_cons_succ, List.setIfInBounds_toArray, List.set_cons_zero, List.set_cons_succ])
      refine wpAnyH_done (by kernel_rfl) ?_ _
      clear hS
      go_wp2
      go_ret
      have hset := set_grown w8 g6 (s * 81 + 80) (Value.slice a8 n8 c8)
      have eset : (E.map mtOf).set s (mtOf (ss, az ++ [(d, P)])) = (E.set s (ss, az ++ [(d, P)])).map mtOf := by rw [List.map_set]
      refine ⟨ret_int HVP.out, .slice (some ⟨g6, 0, none⟩) n6 c6, ?_⟩
      have hvs : RS = E.set s (ss, az ++ [(d, P)]) := by simpa using HVS.out
      rw [hvs, ← eset, entsFrom_set (mtOf (ss, az ++ [(d, P)])) (E.map mtOf) 0 s (mtOf (ss, az)) (by rw [List.getElem?_map, HXE.out]; rfl) rfl]
      refine ⟨Blk.other HB8.out HBG.out (Value.slice a8 n8 c8), ?_, HP8.out.kept hset (fun e => HPG.out (by simpa using e)), Blk.other HQ8.out HQG.out (Value.slice a8 n8 c8), HM7.out.hB, HM7.out.hq, HM7.out.hb, HW8.out.setCell (by show W0.heap.size ≤ g6; omega) _⟩
      have hrm : RowM W0 (w8.setCell ⟨g6, s * 81 + 80, none⟩ (Value.slice a8 n8 c8)) W0.heap.size w8.heap.size (.slice (some ⟨g6, 0, none⟩) n6 c6) n6 ((E.map mtOf).set s (mtOf (ss, az ++ [(d, P)]))) := HR8.out
      have := hrm.top
      rw [List.length_set, hLN]
      exact this
end Go.Proofs.YtlemdjgpkmjihaaGreat

namespace Go.Proofs.YtlemdjgpkmjihaaGreat
open Go.RowKit
set_option linter.unusedVariables false
set_option linter.unusedSimpArgs false

set_option maxHeartbeats 3200000 in
set_option maxRecDepth 20000 in
theorem implStepTable_any (i : Option Addr) (ni ci : Nat) (cs : List In) (z : Int) (a : Option Addr) (n ca : Nat) (ts : List St) (I d : Int) (w : World) (hi : RdR inE 8 w i ni cs) (hsi : inSum cs ≤ 1048576) (hni : ni ≤ 1048576) (ht : RdT w a n ts) (hs : (n : Int) + stN ts ≤ 1048576) (hca : n ≤ ca) (hmx : ca ≤ maxLen)
    (hd0 : 0 ≤ d) (hd1 : d < 256) :
    Calls Tryz.prog 10 #[.slice i ni ci, .agg #[.int .i64 z, .slice a n ca], .int .i64 I, .int .u8 d] w fun e w' => ∃ v, e = .returned (.agg #[.int .i64 (stpCode cs z ts I), .int .i64 (stpVal cs z ts I d), .int .i64 (stpSize cs z ts I), v]) ∧ TabR true w' w.heap.size w'.heap.size v (stpRows cs z ts I d).length (stpRows cs z ts I d) ∧ Below w.heap.size w w' := by
  have B1 : ∀ o1 o2, Below w.heap.size w ((w.alloc o1).alloc o2) := fun o1 o2 => ((Below.refl _ _).alloc (Nat.le_refl _) o1).alloc (by simp) o2
  have HCF := hid (fun w' h1 h2 => implTableFault_any i ni ci cs z a n ca ts w' h1 hsi hni h2 hs hca hmx)
  clear hmx
  by_cases hf : tabF cs z ts = 0
  case neg =>
    have e1 : stpCode cs z ts I = tabF cs z ts := by rw [stpCode, if_pos hf]
    have e2 : stpVal cs z ts I d = 0 := by rw [stpVal, e1, if_neg hf]
    have e3 : stpSize cs z ts I = 0 := by rw [stpSize, e1, if_neg hf]
    have e4 : stpRows cs z ts I d = [] := by rw [stpRows, e1, if_neg hf]
    rw [e1, e2, e3, e4]
    generalize tabF cs z ts = T at *
    have hf' : (T == 0) = false := by simpa using hf
    clear e1 e2 e3 e4 hf
    go_enter Tryz.func10, Tryz.ntmps10
    go_wp2_with fail
    refine (HCF.out _ (hi.below (B1 _ _)) (ht.below (B1 _ _))).mono ?_
    rintro e w1 ⟨rfl, hb1⟩
    have hb01 : Below w.heap.size w w1 := (B1 _ _).trans (hb1.mono (by simp; omega))
    have rb : Blk w1 (w.heap.size + 1) #[.int .i64 0, .int .i64 0, .int .i64 0, .slice none 0 0] 32 := Blk.of (Blk.new1 w _ _ _) hb1
    have d0 := rb.cell 0
    have d1 := rb.cell 1
    have d2 := rb.cell 2
    have d3 := rb.cell 3
    have df0 := rb.frozen 0
    have df1 := rb.frozen 1
    have df2 := rb.frozen 2
    have df3 := rb.frozen 3
    simp only [List.getElem?_toArray, List.getElem?_cons_zero, List.getElem?_cons_succ] at d0 d1 d2 d3
    clear rb hb1
    go_wp2
    refine bodyPost_ret (v := .agg #[.int .i64 T, .int .i64 0, .int .i64 0, .slice none 0 0]) (by simp [results, Tryz.results10, go_sem, d0, d1, d2, d3]) rfl ⟨_, rfl, TabR.nil _ _ _ _, ?_⟩
    repeat first | exact hb01 | refine Below.setCell ?_ (by first | exact Nat.le_refl _ | omega | (simp; done) | (show w.heap.size ≤ w.heap.size + 1; omega)) _
  have hln := ht.len
  have hE4 : (I < 0 ∨ (ts.length : Int) ≤ I) → stpCode cs z ts I = 3 ∧ stpVal cs z ts I d = 0 ∧ stpSize cs z ts I = 0 ∧ stpRows cs z ts I d = [] := fun h => by
    have e1 : stpCode cs z ts I = 3 := by rw [stpCode, if_neg (by simpa using hf), if_pos h]
    exact ⟨e1, by rw [stpVal, e1, if_neg (by omega)], by rw [stpSize, e1, if_neg (by omega)], by rw [stpRows, e1, if_neg (by omega)]⟩
  by_cases hI0 : I < 0
  case pos =>
    obtain ⟨e1, e2, e3, e4⟩ := hE4 (.inl hI0)
    rw [e1, e2, e3, e4]
    rw [hf] at HCF
    clear e1 e2 e3 e4 hf hE4
    go_enter Tryz.func10, Tryz.ntmps10
    go_wp2_with fail
    refine (HCF.out _ (hi.below (B1 _ _)) (ht.below (B1 _ _))).mono ?_
    rintro e w1 ⟨rfl, hb1⟩
    have hb01 : Below w.heap.size w w1 := (B1 _ _).trans (hb1.mono (by simp; omega))
    have rb : Blk w1 (w.heap.size + 1) #[.int .i64 0, .int .i64 0, .int .i64 0, .slice none 0 0] 32 := Blk.of (Blk.new1 w _ _ _) hb1
    have d0 := rb.cell 0
    have d1 := rb.cell 1
    have d2 := rb.cell 2
    have d3 := rb.cell 3
    have df0 := rb.frozen 0
    have df1 := rb.frozen 1
    have df2 := rb.frozen 2
    have df3 := rb.frozen 3
    have c1 : w1.cell? ⟨w.heap.size, 1, none⟩ = some (.slice a n ca) := by have := (Blk.of ((Blk.new w _ _).alloc _) hb1 : Blk w1 w.heap.size #[.int .i64 z, .slice a n ca] 30).cell 1; simpa using this
    simp only [List.getElem?_toArray, List.getElem?_cons_zero, List.getElem?_cons_succ] at d0 d1 d2 d3
    clear rb hb1
    go_wp2
    refine bodyPost_ret (v := .agg #[.int .i64 3, .int .i64 0, .int .i64 0, .slice none 0 0]) (by simp [results, Tryz.results10, go_sem, d0, d1, d2, d3]) rfl ⟨_, rfl, TabR.nil _ _ _ _, ?_⟩
    repeat first | exact hb01 | refine Below.setCell ?_ (by first | exact Nat.le_refl _ | omega | (simp; done) | (show w.heap.size ≤ w.heap.size + 1; omega)) _
  by_cases hIn : (n : Int) ≤ I
  case pos =>
    obtain ⟨e1, e2, e3, e4⟩ := hE4 (.inr (by omega))
    rw [e1, e2, e3, e4]
    rw [hf] at HCF
    clear e1 e2 e3 e4 hf hE4
    go_enter Tryz.func10, Tryz.ntmps10
    go_wp2_with fail
    refine (HCF.out _ (hi.below (B1 _ _)) (ht.below (B1 _ _))).mono ?_
    rintro e w1 ⟨rfl, hb1⟩
    have hb01 : Below w.heap.size w w1 := (B1 _ _).trans (hb1.mono (by simp; omega))
    have rb : Blk w1 (w.heap.size + 1) #[.int .i64 0, .int .i64 0, .int .i64 0, .slice none 0 0] 32 := Blk.of (Blk.new1 w _ _ _) hb1
    have d0 := rb.cell 0
    have d1 := rb.cell 1
    have d2 := rb.cell 2
    have d3 := rb.cell 3
    have df0 := rb.frozen 0
    have df1 := rb.frozen 1
    have df2 := rb.frozen 2
    have df3 := rb.frozen 3
    have c1 : w1.cell? ⟨w.heap.size, 1, none⟩ = some (.slice a n ca) := by have := (Blk.of ((Blk.new w _ _).alloc _) hb1 : Blk w1 w.heap.size #[.int .i64 z, .slice a n ca] 30).cell 1; simpa using this
    simp only [List.getElem?_toArray, List.getElem?_cons_zero, List.getElem?_cons_succ] at d0 d1 d2 d3
    clear rb hb1
    go_wp2
    refine bodyPost_ret (v := .agg #[.int .i64 3, .int .i64 0, .int .i64 0, .slice none 0 0]) (by simp [results, Tryz.results10, go_sem, d0, d1, d2, d3]) rfl ⟨_, rfl, TabR.nil _ _ _ _, ?_⟩
    repeat first | exact hb01 | refine Below.setCell ?_ (by first | exact Nat.le_refl _ | omega | (simp; done) | (show w.heap.size ≤ w.heap.size + 1; omega)) _
  obtain ⟨s, rfl⟩ : ∃ s : Nat, I = (s : Int) := ⟨I.toNat, by omega⟩
  have e1 : stpCode cs z ts (s : Int) = 0 := by rw [stpCode, if_neg (by simpa using hf), if_neg (by omega)]
  have e2 : stpVal cs z ts (s : Int) d = goP cs z ts s d := by rw [stpVal, e1, if_pos rfl]; rfl
  have e3 : stpSize cs z ts (s : Int) = z := by rw [stpSize, e1, if_pos rfl]
  have e4 : stpRows cs z ts (s : Int) d = goS cs z ts s d := by rw [stpRows, e1, if_pos rfl]; rfl
  rw [e1, e2, e3, e4]
  have hI := tabI_of hf
  obtain ⟨h1, h2, h3, h4, h5⟩ := tabF_ok hf
  have hp := progFault_ok h1
  have hin := inside_of h1
  have hE := hI.step hin hp.2.1 (s := s) (by omega) d
  have hll := hi.1
  rw [hf] at HCF
  have HMO := hid (fun q W0 w' ht0 hbl hq hq0 => memoryOf_any z a n ca ts q (.slice i ni ci) W0 w' ht0 hbl hq hq0 (by omega) h5 (fun y hy => ⟨⟨hI.rise y hy, fun x hx => by have := hI.inn y hy x hx; omega⟩, hI.lens y hy, hI.many y hy⟩))
  have HGO := hid (fun W0 w' B b q v h0 h => goOver_any W0 w' B b q z i ni ci cs v ts s d 256 h0 hin (by omega) hd0 hd1 h hI (by omega) (by omega))
  have HTB := hid (fun W0 w' B b q v h => tableT_any W0 w' B b q z (.slice i ni ci) v cs.length 257 (goS cs z ts s d) h hE.1 hp.2.1 (by omega))
  generalize goP cs z ts s d = P at *
  generalize goS cs z ts s d = E at *
  have hsn : (s : Int) < (n : Int) := by omega
  have hs0 : ¬ (s : Int) < 0 := by omega
  have hs1 : ¬ (n : Int) ≤ (s : Int) := by omega
  clear e1 e2 e3 e4 hf hI h1 h2 h3 h4 h5 hp hE hln hin hll hE4 hI0 hIn
  go_enter Tryz.func10, Tryz.ntmps10
  go_wp2_with fail
  refine (HCF.out _ (hi.below (B1 _ _)) (ht.below (B1 _ _))).mono ?_
  rintro e w1 ⟨rfl, hb1⟩
  have HB := hid (show Below w.heap.size w w1 from (B1 _ _).trans (hb1.mono (by simp; omega)))
  have HRB := hid (show Blk w1 (w.heap.size + 1) #[.int .i64 0, .int .i64 0, .int .i64 0, .slice none 0 0] 32 from Blk.of (Blk.new1 w _ _ _) hb1)
  have HXB := hid (show Blk w1 w.heap.size #[.int .i64 z, .slice a n ca] 30 from Blk.of ((Blk.new w _ _).alloc _) hb1)
  clear hb1
  have c0 := HXB.out.cell 0
  have c1 := HXB.out.cell 1
  simp only [List.getElem?_toArray, List.getElem?_cons_zero, List.getElem?_cons_succ] at c0 c1
  obtain ⟨w2, rfl⟩ : ∃ w2, w2 = w1 := ⟨_, rfl⟩
  have HB2 := HB
  have HRB2 := HRB
  clear HB HRB HXB HCF
  go_wp2_with fail
  have HBD := hid (show Below w.heap.size w w2.drew from HB2.out.drew)
  have HTA := hid (ht.below HBD.out)
  have HIA := hid (hi.below HBD.out)
  have hS0 : w2.drew.cell? ⟨w.heap.size, 0, none⟩ = some (.int .i64 z) ∧ w2.drew.cell? ⟨w.heap.size, 1, none⟩ = some (.slice a n ca) := ⟨c0, c1⟩
  have HRD := hid (show Blk w2.drew (w.heap.size + 1) #[.int .i64 0, .int .i64 0, .int .i64 0, .slice none 0 0] 32 from HRB2.out)
  refine wp_region_held_drew (S := fun w' => w'.cell? ⟨w.heap.size, 0, none⟩ = some (.int .i64 z) ∧ w'.cell? ⟨w.heap.size, 1, none⟩ = some (.slice a n ca)) (by kernel_rfl) (by exact hS0) (fun hS => ?_)
  refine wpAnyH_take (i := 0) (v := (.agg #[.int .i64 z, .slice a n ca])) rfl (by as_aux_lemma => kernel_rfl) (by as_aux_lemma => kernel_rfl) (by as_aux_lemma => kernel_rfl) (fun _ _ _ h => h) (Or.inl ⟨by kernel_rfl, ?_⟩) hS ?_
  · intro w hSw; (try dsimp only at hSw); have h0 := hSw.1; have h1 := hSw.2; go_simp
  (try simp only [Act.put, List.getElem_toArray, List.getElem_cons_zero, List.getElem_cons_succ, List.setIfInBounds_toArray, List.set_cons_zero, List.set_cons_succ])
  refine wpAnyH_take (i := 1) (v := (.slice i ni ci)) rfl (by as_aux_lemma => kernel_rfl) (by as_aux_lemma => kernel_rfl) (by as_aux_lemma => kernel_rfl) (fun _ _ _ h => h) (Or.inl ⟨by kernel_rfl, ?_⟩) hS ?_
  · intro w hSw; (try dsimp only at hSw); have h0 := hSw.1; have h1 := hSw.2; go_simp
  (try simp only [Act.put, List.getElem_toArray, List.getElem_cons_zero, List.getElem_cons_succ, List.setIfInBounds_toArray, List.set_cons_zero, List.set_cons_succ])
  refine wpAnyH_ready (rs := [2]) (by as_aux_lemma => kernel_rfl) (by simp) ?_
  refine AllReadyH.cons rfl (fun K hK => ?_) AllReadyH.nil
  go_simp
  refine (stepOf_any i ni ci _).mono ?_
  rintro e w3 ⟨rfl, hw3⟩
  have hb3 : Below w2.drew.heap.size w2.drew w3 := by rw [hw3]; exact (Below.refl _ _).alloc (Nat.le_refl _) _
  have hq3 : Blk w3 w2.drew.heap.size #[.slice i ni ci] 34 := by rw [hw3]; exact Blk.new _ _ _
  clear hw3
  refine hK.out _ _ (⟨cell_later hb3 hS.1, cell_later hb3 hS.2⟩) (fun hS2 => ?_)
  clear hK K hS
  have hS := hS2
  clear hS2
  (try simp only [Act.put, List.getElem_toArray, List.getElem_cons_zero, List.getElem_cons_succ, List.setIfInBounds_toArray, List.set_cons_zero, List.set_cons_succ])
  refine wpAnyH_ready (rs := [3]) (by as_aux_lemma => kernel_rfl) (by simp) ?_
  refine AllReadyH.cons rfl (fun K hK => ?_) AllReadyH.nil
  go_simp
  refine (HMO.out _ w2.drew w3 HTA.out hb3 hq3 (Nat.le_refl _)).mono ?_
  rintro e w4 ⟨B, b, v, rfl, hm4, -⟩
  refine hK.out _ _ (⟨cell_later hm4.below hS0.1, cell_later hm4.below hS0.2⟩) (fun hS2 => ?_)
  clear hK K hS
  have hS := hS2
  clear hS2
  (try simp only [Act.put, List.getElem_toArray, List.getElem_cons_zero, List.getElem_cons_succ, List.setIfInBounds_toArray, List.set_cons_zero, List.set_cons_succ])
  refine wpAnyH_take (i := 4) (v := (.pointer (some ⟨B, 0, none⟩))) rfl (by as_aux_lemma => kernel_rfl) (by as_aux_lemma => kernel_rfl) (by as_aux_lemma => kernel_rfl) (fun _ _ _ h => h) (Or.inl ⟨by kernel_rfl, ?_⟩) hS ?_
  · intro w hSw; (try dsimp only at hSw); have h0 := hSw.1; have h1 := hSw.2; go_simp
  (try simp only [Act.put, List.getElem_toArray, List.getElem_cons_zero, List.getElem_cons_succ, List.setIfInBounds_toArray, List.set_cons_zero, List.set_cons_succ])
  refine wpAnyH_done (by kernel_rfl) ?_ _
  have HM4 := hid hm4
  clear hS hS0 hm4 hb3 hq3 c0 c1
  go_wp2_with fail
  refine (HGO.out w2.drew w4 B b _ v HIA.out HM4.out).mono ?_
  rintro e w6 ⟨rfl, v6, hm6⟩
  have HM6 := hid hm6
  clear hm6 HM4
  go_wp2_with fail
  refine (HTB.out w2.drew w6 B b _ v6 HM6.out).mono ?_
  rintro e w7 ⟨va, cv, rfl, hrow, hb7⟩
  have hb27 : Below w2.drew.heap.size w2.drew w7 := HM6.out.below.trans (hb7.mono HM6.out.below.size)
  have rb := Blk.of HRD.out hb27
  have d0 := rb.cell 0
  have d1 := rb.cell 1
  have d2 := rb.cell 2
  have d3 := rb.cell 3
  have df0 := rb.frozen 0
  have df1 := rb.frozen 1
  have df2 := rb.frozen 2
  have df3 := rb.frozen 3
  simp only [List.getElem?_toArray, List.getElem?_cons_zero, List.getElem?_cons_succ] at d0 d1 d2 d3
  have HB07 := hid (HBD.out.trans (hb27.mono HBD.out.size))
  have hz6 : w.heap.size + 2 ≤ w6.heap.size := by have := HRD.out.lt; have := HM6.out.below.size; omega
  have HT : Hid (TabR true w7 w6.heap.size w7.heap.size (.slice va E.length cv) E.length E) := hid (TabR.weaken hrow)
  clear rb hrow hb7 hb27 HM6
  go_wp2
  refine bodyPost_ret (v := .agg #[.int .i64 0, .int .i64 P, .int .i64 z, .slice va E.length cv]) (by simp [results, Tryz.results10, go_sem, d0, d1, d2, d3]) rfl ⟨_, rfl, ?_, ?_⟩
  · refine TabR.mono (lo := w6.heap.size) (hi := w7.heap.size) ?_ (by omega) (by simp [World.setCell])
    repeat first | exact HT.out | refine TabR.setB ?_ (.inl (by omega)) _ _
  · repeat first | exact HB07.out | refine Below.setCell ?_ (by first | exact Nat.le_refl _ | omega | (simp; done) | (show w.heap.size ≤ w.heap.size + 1; omega)) _

set_option maxHeartbeats 1600000 in
theorem specStepTable_any (i : Option Addr) (ni ci : Nat) (cs : List In) (z : Int) (a : Option Addr) (n ca : Nat) (ts : List St) (I d : Int) (w : World) (hi : RdR inE 8 w i ni cs) (hsi : inSum cs ≤ 1048576) (hni : ni ≤ 1048576) (ht : RdT w a n ts) (hs : (n : Int) + stN ts ≤ 1048576)
    (hd0 : 0 ≤ d) (hd1 : d < 256) :
    Calls Tryz.prog 7 #[.slice i ni ci, .agg #[.int .i64 z, .slice a n ca], .int .i64 I, .int .u8 d] w fun e w' => ∃ v, e = .returned (.agg #[.int .i64 (stpCode cs z ts I), .int .i64 (stpVal cs z ts I d), .int .i64 (stpSize cs z ts I), v]) ∧ TabR true w' w.heap.size w'.heap.size v (stpRows cs z ts I d).length (stpRows cs z ts I d) ∧ Below w.heap.size w w' := by
  have B1 : ∀ o1 o2, Below w.heap.size w ((w.alloc o1).alloc o2) := fun o1 o2 => ((Below.refl _ _).alloc (Nat.le_refl _) o1).alloc (by simp) o2
  have HCF := hid (fun w' h1 h2 h3 h4 => l8Fault_any i ni ci cs w.heap.size z a n ca ts w' h1 hsi hni h2 h3 h4 hs)
  by_cases hf : tabF cs z ts = 0
  case neg =>
    have e1 : stpCode cs z ts I = tabF cs z ts := by rw [stpCode, if_pos hf]
    have e2 : stpVal cs z ts I d = 0 := by rw [stpVal, e1, if_neg hf]
    have e3 : stpSize cs z ts I = 0 := by rw [stpSize, e1, if_neg hf]
    have e4 : stpRows cs z ts I d = [] := by rw [stpRows, e1, if_neg hf]
    rw [e1, e2, e3, e4]
    generalize tabF cs z ts = T at *
    have hf' : (T == 0) = false := by simpa using hf
    clear e1 e2 e3 e4 hf
    go_enter Tryz.func7, Tryz.ntmps7
    go_wp2_with fail
    refine (HCF.out _ (hi.below (B1 _ _)) (by simp [go_sem]) (by simp [go_sem]) (ht.below (B1 _ _))).mono ?_
    rintro e w1 ⟨rfl, hb1⟩
    have hb01 : Below w.heap.size w w1 := (B1 _ _).trans (hb1.mono (by simp; omega))
    have RB : Blk w1 (w.heap.size + 1) #[.int .i64 0, .int .i64 0, .int .i64 0, .slice none 0 0] 32 := Blk.of (Blk.new1 w _ _ _) hb1
    have HB := hid hb01
    have HRB := hid RB
    clear hb1 RB hb01
    go_wp2_with fail
    refine (l8Bad_any T w1).mono ?_
    rintro e w2 ⟨rfl, hb2⟩
    have rb := Blk.of HRB.out hb2
    have d0 := rb.cell 0
    have d1 := rb.cell 1
    have d2 := rb.cell 2
    have d3 := rb.cell 3
    have df0 := rb.frozen 0
    have df1 := rb.frozen 1
    have df2 := rb.frozen 2
    have df3 := rb.frozen 3
    simp only [List.getElem?_toArray, List.getElem?_cons_zero, List.getElem?_cons_succ] at d0 d1 d2 d3
    have hb02 : Below w.heap.size w w2 := HB.out.trans (hb2.mono HB.out.size)
    clear rb hb2
    go_wp2
    refine bodyPost_ret (v := .agg #[.int .i64 T, .int .i64 0, .int .i64 0, .slice none 0 0]) (by simp [results, Tryz.results7, go_sem, d0, d1, d2, d3]) rfl ⟨_, rfl, TabR.nil _ _ _ _, ?_⟩
    repeat first | exact hb02 | refine Below.setCell ?_ (by first | exact Nat.le_refl _ | omega | (simp; done) | (show w.heap.size ≤ w.heap.size + 1; omega)) _
  have hln := ht.len
  by_cases hIb : 0 ≤ I ∧ I ≤ (n : Int) - 1
  case neg =>
    have e1 : stpCode cs z ts I = 3 := by rw [stpCode, if_neg (by simpa using hf), if_pos (by omega)]
    have e2 : stpVal cs z ts I d = 0 := by rw [stpVal, e1, if_neg (by omega)]
    have e3 : stpSize cs z ts I = 0 := by rw [stpSize, e1, if_neg (by omega)]
    have e4 : stpRows cs z ts I d = [] := by rw [stpRows, e1, if_neg (by omega)]
    rw [e1, e2, e3, e4]
    rw [hf] at HCF
    have CI : Hid _ := fun w' => in5_is I 0 ((n : Int) - 1) false w' (by simpa using hIb)
    have hwr : IntKind.i64.wrap ((n : Int) - 1) = (n : Int) - 1 := by
      have h12 := (tabF_ok hf)
      rw [IntKind.wrap_i64]
      omega
    clear e1 e2 e3 e4 hf hIb
    go_enter Tryz.func7, Tryz.ntmps7
    go_wp2_with fail
    refine (HCF.out _ (hi.below (B1 _ _)) (by simp [go_sem]) (by simp [go_sem]) (ht.below (B1 _ _))).mono ?_
    rintro e w1 ⟨rfl, hb1⟩
    have HRB := hid (show Blk w1 (w.heap.size + 1) #[.int .i64 0, .int .i64 0, .int .i64 0, .slice none 0 0] 32 from Blk.of (Blk.new1 w _ _ _) hb1)
    have c1 : w1.cell? ⟨w.heap.size, 1, none⟩ = some (.slice a n ca) := by have := (Blk.of ((Blk.new w _ _).alloc _) hb1 : Blk w1 w.heap.size #[.int .i64 z, .slice a n ca] 30).cell 1; simpa using this
    have HB := hid (show Below w.heap.size w w1 from (B1 _ _).trans (hb1.mono (by simp; omega)))
    clear hb1
    go_wp2_with fail
    refine (CI.out _).mono ?_
    rintro e w1' ⟨rfl, rfl⟩
    have HB' := HB
    have HRB' := HRB
    go_wp2_with fail
    refine (l8Bad_any 3 w1').mono ?_
    rintro e w2 ⟨rfl, hb2⟩
    have rb := Blk.of HRB'.out hb2
    have d0 := rb.cell 0
    have d1 := rb.cell 1
    have d2 := rb.cell 2
    have d3 := rb.cell 3
    have df0 := rb.frozen 0
    have df1 := rb.frozen 1
    have df2 := rb.frozen 2
    have df3 := rb.frozen 3
    simp only [List.getElem?_toArray, List.getElem?_cons_zero, List.getElem?_cons_succ] at d0 d1 d2 d3
    have hb02 : Below w.heap.size w w2 := HB'.out.trans (hb2.mono HB'.out.size)
    clear rb hb2
    go_wp2
    refine bodyPost_ret (v := .agg #[.int .i64 3, .int .i64 0, .int .i64 0, .slice none 0 0]) (by simp [results, Tryz.results7, go_sem, d0, d1, d2, d3]) rfl ⟨_, rfl, TabR.nil _ _ _ _, ?_⟩
    repeat first | exact hb02 | refine Below.setCell ?_ (by first | exact Nat.le_refl _ | omega | (simp; done) | (show w.heap.size ≤ w.heap.size + 1; omega)) _
  obtain ⟨s, rfl⟩ : ∃ s : Nat, I = (s : Int) := ⟨I.toNat, by omega⟩
  have e1 : stpCode cs z ts (s : Int) = 0 := by rw [stpCode, if_neg (by simpa using hf), if_neg (by omega)]
  have e2 : stpVal cs z ts (s : Int) d = goP cs z ts s d := by rw [stpVal, e1, if_pos rfl]; rfl
  have e3 : stpSize cs z ts (s : Int) = z := by rw [stpSize, e1, if_pos rfl]
  have e4 : stpRows cs z ts (s : Int) d = goS cs z ts s d := by rw [stpRows, e1, if_pos rfl]; rfl
  rw [e1, e2, e3, e4]
  have hI := tabI_of hf
  obtain ⟨h1, h2, h3, -, -⟩ := tabF_ok hf
  have hp := progFault_ok h1
  have hin := inside_of h1
  have hll := hi.1
  rw [hf] at HCF
  have HCP := hid (fun w' h => l8Copy_any z a n ca ts w' h hs)
  have HST := hid (fun W0 lo B va cva w' k1 k2 k3 k4 k5 k6 k7 => l8Step_any W0 i ni ci cs lo B z va n cva ts s d 256 w' hd0 hd1 hin hsi (by omega) (by omega) k1 k2 k3 k4 hI (by omega) (by omega) k5 k6 k7)
  have CI : Hid _ := fun w' => in5_is (s : Int) 0 ((n : Int) - 1) true w' (by simpa using hIb)
  have hwr : IntKind.i64.wrap ((n : Int) - 1) = (n : Int) - 1 := by rw [IntKind.wrap_i64]; omega
  generalize goP cs z ts s d = P at *
  generalize goS cs z ts s d = E at *
  clear e1 e2 e3 e4 hf hI h1 h2 h3 hp hin hll hIb hln
  go_enter Tryz.func7, Tryz.ntmps7
  go_wp2_with fail
  refine (HCF.out _ (hi.below (B1 _ _)) (by simp [go_sem]) (by simp [go_sem]) (ht.below (B1 _ _))).mono ?_
  rintro e w1 ⟨rfl, hb1⟩
  have hb01 : Below w.heap.size w w1 := (B1 _ _).trans (hb1.mono (by simp; omega))
  have HRB := hid (show Blk w1 (w.heap.size + 1) #[.int .i64 0, .int .i64 0, .int .i64 0, .slice none 0 0] 32 from Blk.of (Blk.new1 w _ _ _) hb1)
  have HXB := hid (show Blk w1 w.heap.size #[.int .i64 z, .slice a n ca] 30 from Blk.of ((Blk.new w _ _).alloc _) hb1)
  have HB := hid hb01
  clear hb1 hb01
  have x0 := HXB.out.cell 0
  have x1 := HXB.out.cell 1
  simp only [List.getElem?_toArray, List.getElem?_cons_zero, List.getElem?_cons_succ] at x0 x1
  go_wp2_with fail
  refine (CI.out _).mono ?_
  rintro e w2 ⟨rfl, rfl⟩
  have HB2 := HB
  have HRB2 := HRB
  clear HB HRB HXB HCF CI
  go_wp2_with fail
  refine (HCP.out w2 (ht.below HB2.out)).mono ?_
  rintro e w3 ⟨va, cva, rfl, hrow, hb3⟩
  have HB3 := hid (HB2.out.trans (hb3.mono HB2.out.size))
  have HRB3 := hid (Blk.of HRB2.out hb3)
  have HRW := hid hrow
  have hlo : w2.heap.size ≤ w3.heap.size := hb3.size
  have HB23 := hid hb3
  have hz2 : w.heap.size + 2 ≤ w2.heap.size := by have := HRB2.out.lt; omega
  clear hb3 hrow x0 x1
  have HBA := hid ((Below.refl w3.heap.size w3).alloc (Nat.le_refl _) (.cells #[.int .i64 z, .slice va n cva] 30))
  have HI3 := hid (hi.below HB2.out)
  go_wp2_with fail
  refine (HST.out w2 w2.heap.size w3.heap.size va cva _ HI3.out (HB23.out.trans (HBA.out.mono hlo)) (Blk.new w3 _ _) (RowN.mono (tabOk false) (RowN.below (tabOk false) HRW.out HBA.out) (Nat.le_refl _) HBA.out.size) (by simp; omega) (Nat.le_refl _) hlo).mono ?_
  rintro e w4 ⟨rfl, va4, n4, c4, hk4, hr4, hb4⟩
  have h24 : Below w2.heap.size w2 w4 := hb4
  have rb := Blk.of HRB2.out h24
  have d0 := rb.cell 0
  have d1 := rb.cell 1
  have d2 := rb.cell 2
  have d3 := rb.cell 3
  have df0 := rb.frozen 0
  have df1 := rb.frozen 1
  have df2 := rb.frozen 2
  have df3 := rb.frozen 3
  have k0 := hk4.cell 0
  have k1 := hk4.cell 1
  simp only [List.getElem?_toArray, List.getElem?_cons_zero, List.getElem?_cons_succ] at d0 d1 d2 d3 k0 k1
  have hb04 : Below w.heap.size w w4 := HB2.out.trans (h24.mono HB2.out.size)
  have HT : Hid (TabR true w4 w2.heap.size w4.heap.size (.slice va4 n4 c4) n4 E) := hid (TabR.weaken hr4)
  have HEL : Hid (E.length = n4) := hid (RowN.len hr4)
  have HB04 := hid hb04
  clear rb hk4 hr4 hb4 h24 hb04
  go_wp2
  refine bodyPost_ret (v := .agg #[.int .i64 0, .int .i64 P, .int .i64 z, .slice va4 n4 c4]) (by simp [results, Tryz.results7, go_sem, d0, d1, d2, d3]) rfl ⟨_, rfl, ?_, ?_⟩
  · rw [HEL.out]
    refine TabR.mono (lo := w2.heap.size) (hi := w4.heap.size) ?_ (by omega) (by simp [World.setCell])
    repeat first | exact HT.out | refine TabR.setB ?_ (.inl (by omega)) _ _
  · repeat first | exact HB04.out | refine Below.setCell ?_ (by first | exact Nat.le_refl _ | omega | (simp; done) | (show w.heap.size ≤ w.heap.size + 1; omega)) _
end Go.Proofs.YtlemdjgpkmjihaaGreat

namespace Go.Proofs.YtlemdjgpkmjihaaGreat
open Go.RowKit
set_option linter.unusedVariables false
set_option linter.unusedSimpArgs false

theorem stpRows_len (cs : List In) (z : Int) (ts : List St) (I d : Int) : ((stpRows cs z ts I d).length : Int) + stN (stpRows cs z ts I d) ≤ 10000 := by
  unfold stpRows
  by_cases h : stpCode cs z ts I = 0
  · rw [if_pos h]
    unfold stpCode at h
    by_cases hf : tabF cs z ts ≠ 0
    · rw [if_pos hf] at h; exact absurd h hf
    · rw [if_neg hf] at h
      have hf0 := Decidable.not_not.1 hf
      have hI := tabI_of hf0
      have h1 := (tabF_ok hf0).1
      by_cases hr : I < 0 ∨ (ts.length : Int) ≤ I
      · rw [if_pos hr] at h; omega
      · have := (hI.step (inside_of h1) (progFault_ok h1).2.1 (s := I.toNat) (by omega) d).1.sum
        omega
  · rw [if_neg h]; simp [stN]
end Go.Proofs.YtlemdjgpkmjihaaGreat
