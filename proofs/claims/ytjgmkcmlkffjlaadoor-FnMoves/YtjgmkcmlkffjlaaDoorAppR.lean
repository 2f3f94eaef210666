/-
  A row of structs put behind a row of structs that the call owns, whatever the struct; a row that begins within a block. It speaks of no program.
-/
import Derived.Test.YtjgmkcmlkffjlaaDoorAppend
namespace Go.Proofs.YtjgmkcmlkffjlaaDoor
open Go.RowKit
set_option linter.unusedVariables false

section
variable {α : Type} {enc : α → List Value} {size : Nat}

theorem rdR_cells (he : ∀ x, (enc x).length = size) (hs : 0 < size) {w : World} {ad : Addr} {m : Nat} {ys : List α} (hr : RdR enc size w (some ad) m ys) : ∀ j u, (ys.flatMap enc)[j]? = some u → w.cell? (ad.add j) = some u := by
  intro j u hu
  have hlen : (ys.flatMap enc).length = m * size := by rw [← hr.1]; exact length_flatMap' enc size he ys
  have hj : j < m * size := by rw [← hlen]; exact (List.getElem?_eq_some_iff.1 hu).1
  obtain ⟨b, off, x, ha, hx, hc⟩ := hr.at (show j / size < m by rw [Nat.div_lt_iff_lt_mul hs]; exact hj)
  simp only [Option.some.injEq] at ha
  subst ha
  have hdm := Nat.div_add_mod j size
  have hu2 : (enc x)[j % size]? = some u := by
    have := getElem?_flatMap enc size he ys (j / size) (j % size) x hx (Nat.mod_lt _ hs)
    rw [← this, ← hu]
    congr 1
    rw [Nat.mul_comm]; omega
  rw [Addr.add_lit, ← hc _ _ hu2]
  congr 2
  rw [Nat.mul_comm (j / size)]; omega

theorem one_all (hone : ∀ x, ∀ u ∈ enc x, u.oneCell' = true) (ys : List α) : ∀ u ∈ ys.flatMap enc, u.oneCell' = true := by
  intro u hu
  obtain ⟨y, _, hy⟩ := List.mem_flatMap.1 hu
  exact hone y u hy

theorem wp_append_rdR {P : Program} {w : World} {o : Oper} {a : Act} {K : Act → World → Prop} {Q : Exit → Act → World → Prop} (he : ∀ x, (enc x).length = size) (hone : ∀ x, ∀ u ∈ enc x, u.oneCell' = true) (s x : Operand) (t : TypeId)
    (ho : o.op = .call { callee := .builtin .append, args := #[s, x], argTypes := #[t, t] })
    (base : Nat) (e : TypeId) (i : TypeInfo) (z : Value) (bytes : Nat) (ht : P.underlying t = some (.slice e)) (hi : P.info? e = some i) (hz : i.zero = some z)
    (hsize : i.size = size) (hby : i.bytes = bytes) (hzc : z.cells.size = size) (hs0 : 0 < size) (v : Value) (n : Nat) (xs : List α) (hs : a.eval s = v) (hown : OwnR enc size e w base v n xs)
    (sa : Option Addr) (m c : Nat) (ys : List α) (hx : a.eval x = .slice sa m c) (hr : RdR enc size w sa m ys)
    (h63 : n + m ≤ maxLen) (hbytes : (n + m) * bytes ≤ 140737488355328) (hbase : base ≤ w.heap.size)
    (h : ∀ v' w', OwnR enc size e w' base v' (n + m) (xs ++ ys) → w.grownBy w' v.ownBlock → K (a.put o.dst v') w') : o.wp P a w K Q := by
  cases sa with
  | none =>
    have hm : m = 0 := by
      rcases hr.2 with h0 | ⟨b, off, ha, _⟩
      · exact h0
      · cases ha
    subst hm
    obtain rfl : ys = [] := List.eq_nil_of_length_eq_zero hr.1
    have hrun : (Builtin.append_ #[t, t] o.type #[v, .slice none 0 c]).run P w = .ok v w := by
      rcases hown.2.2 with ⟨rfl, rfl⟩ | ⟨g, cap, cur, rfl, _, _, hnc, _⟩
      · simp [Builtin.append_, run_underlying ht, sizeOf, typeInfo, hi, Builtin.lenOf, Builtin.firstCells]
      · simp [Builtin.append_, run_underlying ht, sizeOf, typeInfo, hi, Builtin.lenOf, Builtin.firstCells, hnc, storeCells]
    unfold Oper.wp
    simp [execOp, ho, resolve, invoke, builtin, hs, hx, hrun, Result.andThen]
    exact h v w (by simpa using hown) (World.grownBy.refl _ _)
  | some ad =>
    refine wp_append_own w s x t ho base e i z size bytes ht hi hz hsize hby hzc hs0 v n (xs.flatMap enc) hs hown.2 ad m c (ys.flatMap enc) hx (by rw [length_flatMap' enc size he, hr.1]) (rdR_cells he hs0 hr) (one_all hone ys) h63 hbytes hbase ?_
    intro v' w' h1 h2 _
    exact h v' w' ⟨by rw [List.length_append, hown.1, hr.1], by rw [List.flatMap_append]; exact h1⟩ h2

theorem wpList_append_rdR {P : Program} {w : World} {ops : Array Oper} {rest : List Oper} {o : Oper} {a : Act} {Q : Exit → Act → World → Prop} (hgd : o.guard = none) (he : ∀ x, (enc x).length = size) (hone : ∀ x, ∀ u ∈ enc x, u.oneCell' = true) (s x : Operand) (t : TypeId)
    (ho : o.op = .call { callee := .builtin .append, args := #[s, x], argTypes := #[t, t] })
    (base : Nat) (e : TypeId) (i : TypeInfo) (z : Value) (bytes : Nat) (ht : P.underlying t = some (.slice e)) (hi : P.info? e = some i) (hz : i.zero = some z)
    (hsize : i.size = size) (hby : i.bytes = bytes) (hzc : z.cells.size = size) (hs0 : 0 < size) (v : Value) (n : Nat) (xs : List α) (hs : a.eval s = v) (hown : OwnR enc size e w base v n xs)
    (sa : Option Addr) (m c : Nat) (ys : List α) (hx : a.eval x = .slice sa m c) (hr : RdR enc size w sa m ys)
    (h63 : n + m ≤ maxLen) (hbytes : (n + m) * bytes ≤ 140737488355328) (hbase : base ≤ w.heap.size)
    (h : ∀ v' w', OwnR enc size e w' base v' (n + m) (xs ++ ys) → w.grownBy w' v.ownBlock → wpList P ops Q rest (a.put o.dst v') w') : wpList P ops Q (o :: rest) a w :=
  wpList_plain hgd fun K hK => wp_append_rdR he hone s x t ho base e i z bytes ht hi hz hsize hby hzc hs0 v n xs hs hown sa m c ys hx hr h63 hbytes hbase fun v' w' h1 h2 => hK _ _ (h v' w' h1 h2)

theorem cell_set1 {w : World} {b i B j : Nat} {u v : Value} (h : w.cell? ⟨b, i, none⟩ = some v) (hne : b ≠ B) : (w.setCell ⟨B, j, none⟩ u).cell? ⟨b, i, none⟩ = some v :=
  (World.cell?_of_block (a := ⟨b, i, none⟩) (Below.heap_setCell w ⟨B, j, none⟩ u b hne)).trans h

/-- A part of a row is read as the part. -/
theorem RdR.cut {w : World} {a : Option Addr} {N : Nat} {XS : List α} (h : RdR enc size w a N XS) (k n : Nat) (hk : k + n ≤ N) (b : Option Addr) (hb : 0 < n → ∀ g off, a = some ⟨g, off, none⟩ → b = some ⟨g, off + k * size, none⟩) : RdR enc size w b n ((XS.drop k).take n) := by
  refine ⟨by have := h.1; simp; omega, ?_⟩
  rcases h.2 with h0 | ⟨g, off, ha, hc⟩
  · exact .inl (by omega)
  · by_cases hn : n = 0
    · exact .inl hn
    · refine .inr ⟨g, off + k * size, hb (by omega) g off ha, fun j x hx f v hv => ?_⟩
      have hj : j < n := by have := (List.getElem?_eq_some_iff.1 hx).1; simp at this; omega
      have hx2 : XS[k + j]? = some x := by rw [List.getElem?_take_of_lt hj, List.getElem?_drop] at hx; exact hx
      have := hc (k + j) x hx2 f v hv
      rw [show off + k * size + j * size + f = off + (k + j) * size + f by rw [Nat.add_mul]; omega]
      exact this

/-- A row that begins within a block of the call's own. -/
def RowO (enc : α → List Value) (size : Nat) (e : TypeId) (w : World) (lo hi : Nat) (v : Value) (n : Nat) (xs : List α) : Prop :=
  ∃ (V : Value) (N k : Nat) (XS : List α), RowS enc size e w lo hi V N XS ∧ k + n ≤ N ∧ xs = (XS.drop k).take n ∧ ∃ a cap, v = .slice a n cap ∧ (0 < n → ∃ g CAP, V = .slice (some ⟨g, 0, none⟩) N CAP ∧ a = some ⟨g, k * size, none⟩)

variable {e : TypeId} {w w' : World} {lo hi n : Nat} {v : Value} {xs : List α}
theorem RowO.chg {lo' hi' : Nat} (h : RowO enc size e w lo hi v n xs) (hc : Chg lo' hi' w w') (hd : hi ≤ lo' ∨ hi' ≤ lo) : RowO enc size e w' lo hi v n xs := by
  obtain ⟨V, N, k, XS, h1, h2⟩ := h; exact ⟨V, N, k, XS, h1.chg hc hd, h2⟩
theorem RowO.below (h : RowO enc size e w lo hi v n xs) (hb : Below w.heap.size w w') : RowO enc size e w' lo hi v n xs := by
  obtain ⟨V, N, k, XS, h1, h2⟩ := h; exact ⟨V, N, k, XS, h1.below hb, h2⟩
theorem RowO.mono {lo' hi' : Nat} (h : RowO enc size e w lo hi v n xs) (h1 : lo' ≤ lo) (h2 : hi ≤ hi') : RowO enc size e w lo' hi' v n xs := by
  obtain ⟨V, N, k, XS, h3, h4⟩ := h; exact ⟨V, N, k, XS, h3.mono h1 h2, h4⟩
theorem RowO.setB {B : Nat} (h : RowO enc size e w lo hi v n xs) (hb : B < lo ∨ hi ≤ B) (i : Nat) (u : Value) : RowO enc size e (w.setCell ⟨B, i, none⟩ u) lo hi v n xs :=
  h.chg (Chg.one (set_grown w B i u)) (by omega)
theorem RowS.setB {B : Nat} (h : RowS enc size e w lo hi v n xs) (hb : B < lo ∨ hi ≤ B) (i : Nat) (u : Value) : RowS enc size e (w.setCell ⟨B, i, none⟩ u) lo hi v n xs :=
  h.chg (Chg.one (set_grown w B i u)) (by omega)
theorem RowO.shape (h : RowO enc size e w lo hi v n xs) : ∃ a cap, v = .slice a n cap := by
  obtain ⟨V, N, k, XS, h1, h2, h3, a, cap, h4, h5⟩ := h; exact ⟨a, cap, h4⟩
theorem RowO.len (h : RowO enc size e w lo hi v n xs) : xs.length = n := by
  obtain ⟨V, N, k, XS, h1, h2, rfl, h4⟩ := h; have := h1.len; simp; omega
theorem RowO.read {a : Option Addr} {c : Nat} (he : ∀ x, (enc x).length = size) (h : RowO enc size e w lo hi (.slice a n c) n xs) : RdR enc size w a n xs := by
  obtain ⟨V, N, k, XS, h1, h2, rfl, a', cap, h4, h5⟩ := h
  simp only [Value.slice.injEq] at h4
  obtain ⟨A, C, rfl, _⟩ := h1.shape he
  refine (h1.read he).cut k n h2 a fun hn g off ha => ?_
  obtain ⟨g', CAP, e1, e2⟩ := h5 hn
  simp only [Value.slice.injEq] at e1
  rw [h4.1, e2]
  rw [ha] at e1
  simp at e1
  rw [e1.1.1, e1.1.2]; simp
end
end Go.Proofs.YtjgmkcmlkffjlaaDoor
