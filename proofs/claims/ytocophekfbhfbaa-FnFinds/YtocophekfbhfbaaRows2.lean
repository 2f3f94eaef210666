/-
  Rows whose elements take several cells: what such a slice reads as, and what the call owns of it. It speaks of no program.
-/
import Derived.Test.YtocophekfbhfbaaBase
namespace Go.Proofs.Ytocophekfbhfbaa
open Go.RowKit
set_option linter.unusedVariables false

theorem getElem?_flatMap {α β : Type} (enc : α → List β) (size : Nat) (he : ∀ x, (enc x).length = size) : ∀ (xs : List α) (j f : Nat) (x : α), xs[j]? = some x → f < size → (xs.flatMap enc)[j * size + f]? = (enc x)[f]?
  | [], j, f, x, h, _ => by simp at h
  | y :: ys, 0, f, x, h, hf => by
    simp at h
    subst h
    rw [List.flatMap_cons, Nat.zero_mul, Nat.zero_add, List.getElem?_append_left (by rw [he]; exact hf)]
  | y :: ys, j + 1, f, x, h, hf => by
    have ih := getElem?_flatMap enc size he ys j f x (by simpa using h) hf
    rw [List.flatMap_cons, List.getElem?_append_right (by rw [he, Nat.add_mul]; omega), he]
    rw [show (j + 1) * size + f - size = j * size + f by rw [Nat.add_mul]; omega]
    exact ih

theorem length_flatMap' {α β : Type} (enc : α → List β) (size : Nat) (he : ∀ x, (enc x).length = size) (xs : List α) : (xs.flatMap enc).length = xs.length * size := by
  induction xs with
  | nil => simp
  | cons x xs ih => rw [List.flatMap_cons, List.length_append, he, ih, List.length_cons, Nat.add_mul]; omega

/-- A store into one field of one element. -/
theorem set_flatMap {α β : Type} (enc : α → List β) (size : Nat) (he : ∀ x, (enc x).length = size) : ∀ (xs : List α) (j f : Nat) (x y : α) (v : β), xs[j]? = some x → f < size → enc y = (enc x).set f v → (xs.flatMap enc).set (j * size + f) v = (xs.set j y).flatMap enc
  | [], j, f, x, y, v, h, _, _ => by simp at h
  | z :: zs, 0, f, x, y, v, h, hf, hy => by
    simp at h
    subst h
    rw [List.flatMap_cons, Nat.zero_mul, Nat.zero_add, List.set_append_left _ _ (by rw [he]; exact hf), ← hy]
    simp
  | z :: zs, j + 1, f, x, y, v, h, hf, hy => by
    have ih := set_flatMap enc size he zs j f x y v (by simpa using h) hf hy
    rw [List.flatMap_cons, List.set_append_right _ _ (by rw [he, Nat.add_mul]; omega), he]
    rw [show (j + 1) * size + f - size = j * size + f by rw [Nat.add_mul]; omega, ih]
    simp

/-- Two rows of two types are two rows. -/
theorem rows_apart {w : World} {b1 b2 : Nat} {e1 e2 : TypeId} {s1 s2 : Nat} {v1 v2 : Value} {n1 n2 : Nat} {x1 x2 : List Value} (h1 : w.ownsRow b1 e1 s1 v1 n1 x1) (h2 : w.ownsRow b2 e2 s2 v2 n2 x2) (hne : e1 ≠ e2) :
    ∀ j, v1.ownBlock = some j → v2.ownBlock ≠ some j := by
  intro j hj1 hj2
  rcases h1.2 with ⟨rfl, _⟩ | ⟨g1, c1, u1, rfl, _, k1, _⟩
  · simp [Value.ownBlock] at hj1
  · rcases h2.2 with ⟨rfl, _⟩ | ⟨g2, c2, u2, rfl, _, k2, _⟩
    · simp [Value.ownBlock] at hj2
    · simp [Value.ownBlock] at hj1 hj2
      subst hj1
      subst hj2
      rw [k1] at k2
      simp at k2
      exact hne k2.2

theorem Own.read {k : IntKind} {e : TypeId} {w : World} {base : Nat} {a : Option Addr} {n c : Nat} {xs : List Int} (h : Own k e w base (.slice a n c) n xs) : Rd k w a n xs := by
  obtain ⟨a', c', hv, hr, _⟩ := h.rd
  simp only [Value.slice.injEq] at hv
  rw [hv.1]
  exact hr

/-- The slice with head a, of n elements of 'size' cells each, reads in w as xs. -/
def RdR {α : Type} (enc : α → List Value) (size : Nat) (w : World) (a : Option Addr) (n : Nat) (xs : List α) : Prop :=
  xs.length = n ∧ (n = 0 ∨ ∃ b off, a = some ⟨b, off, none⟩ ∧ ∀ j x, xs[j]? = some x → ∀ f v, (enc x)[f]? = some v → w.cell? ⟨b, off + j * size + f, none⟩ = some v)

theorem RdR.at {α : Type} {enc : α → List Value} {size : Nat} {w : World} {a : Option Addr} {n : Nat} {xs : List α} (h : RdR enc size w a n xs) {j : Nat} (hj : j < n) :
    ∃ b off x, a = some ⟨b, off, none⟩ ∧ xs[j]? = some x ∧ ∀ f v, (enc x)[f]? = some v → w.cell? ⟨b, off + j * size + f, none⟩ = some v := by
  rcases h.2 with h0 | ⟨b, off, ha, hc⟩
  · omega
  · have hj' : j < xs.length := by rw [h.1]; exact hj
    exact ⟨b, off, xs[j], ha, by simp [hj'], hc j _ (by simp [hj'])⟩

theorem RdR.below {α : Type} {enc : α → List Value} {size : Nat} {w w' : World} {a : Option Addr} {n : Nat} {xs : List α} (h : RdR enc size w a n xs) (hb : Below w.heap.size w w') : RdR enc size w' a n xs := by
  refine ⟨h.1, ?_⟩
  rcases h.2 with h0 | ⟨b, off, ha, hc⟩
  · exact .inl h0
  · exact .inr ⟨b, off, ha, fun j x hx f v hv => cell_later hb (hc j x hx f v hv)⟩

/-- A row that the call owns. -/
def OwnR {α : Type} (enc : α → List Value) (size : Nat) (e : TypeId) (w : World) (base : Nat) (v : Value) (n : Nat) (xs : List α) : Prop :=
  xs.length = n ∧ w.ownsRow base e size v n (xs.flatMap enc)

section
variable {α : Type} {enc : α → List Value} {size : Nat} {e : TypeId} {w w' : World} {base n : Nat} {v : Value} {xs : List α}

theorem OwnR.nil (enc : α → List Value) (size : Nat) (e : TypeId) (w : World) (base : Nat) : OwnR enc size e w base (.slice none 0 0) 0 ([] : List α) := ⟨rfl, World.ownsRow_nil _ _ _ _⟩

theorem OwnR.below (h : OwnR enc size e w base v n xs) (hb : Below w.heap.size w w') : OwnR enc size e w' base v n xs :=
  ⟨h.1, World.ownsRow.kept h.2 (grownBy_of_below hb) (by cases v.ownBlock <;> simp)⟩

theorem OwnR.kept {row : Option Nat} (h : OwnR enc size e w base v n xs) (hg : w.grownBy w' row) (hne : ∀ j, v.ownBlock = some j → row ≠ some j) : OwnR enc size e w' base v n xs := by
  refine ⟨h.1, World.ownsRow.kept h.2 hg ?_⟩
  cases hv : v.ownBlock with
  | none => exact .inl rfl
  | some j => exact .inr (Ne.symm (hne j hv))

theorem OwnR.lt (h : OwnR enc size e w base v n xs) : ∀ j, v.ownBlock = some j → base ≤ j ∧ j < w.heap.size := World.ownsRow.lt h.2

theorem OwnR.up {base' : Nat} (h : OwnR enc size e w base v n xs) (hb : base' ≤ base) : OwnR enc size e w base' v n xs := by
  refine ⟨h.1, h.2.1, ?_⟩
  rcases h.2.2 with h0 | ⟨g, cap, cur, hv, hg, r⟩
  · exact .inl h0
  · exact .inr ⟨g, cap, cur, hv, by omega, r⟩

theorem OwnR.setBelow (h : OwnR enc size e w base v n xs) {a : Addr} (ha : a.block < base) (u : Value) : OwnR enc size e (w.setCell a u) base v n xs :=
  ⟨h.1, ownsRow_setCell_below h.2 ha u⟩

theorem OwnR.alloc (h : OwnR enc size e w base v n xs) (o : Obj) : OwnR enc size e (w.alloc o) base v n xs := ⟨h.1, World.ownsRow.alloc h.2 o⟩

theorem OwnR.cell {g cap j f : Nat} {x : α} {u : Value} (he : ∀ x, (enc x).length = size) (h : OwnR enc size e w base (.slice (some ⟨g, 0, none⟩) n cap) n xs) (hx : xs[j]? = some x) (hu : (enc x)[f]? = some u) :
    w.cell? ⟨g, j * size + f, none⟩ = some u := by
  have hf : f < size := by rw [← he x]; exact (List.getElem?_eq_some_iff.1 hu).1
  have hj : j < n := by rw [← h.1]; exact (List.getElem?_eq_some_iff.1 hx).1
  have hlt : j * size + f < n * size := by
    have := Nat.mul_le_mul_right size (show j + 1 ≤ n from hj)
    rw [Nat.add_mul] at this
    omega
  rw [World.ownsRow.cellAt h.2 _ hlt, getElem?_flatMap enc size he xs j f x hx hf, hu]

theorem OwnR.rd (he : ∀ x, (enc x).length = size) (h : OwnR enc size e w base v n xs) :
    ∃ a cap, v = .slice a n cap ∧ RdR enc size w a n xs ∧ n ≤ cap ∧ cap ≤ maxLen := by
  rcases h.2.2 with ⟨rfl, rfl⟩ | ⟨g, cap, cur, rfl, hb, hg, hn, hm, hs, ht⟩
  · exact ⟨none, 0, rfl, ⟨h.1, .inl rfl⟩, Nat.le_refl _, by simp [maxLen]⟩
  · refine ⟨some ⟨g, 0, none⟩, cap, rfl, ⟨h.1, .inr ⟨g, 0, rfl, fun j x hx f u hu => ?_⟩⟩, hn, hm⟩
    have := OwnR.cell he h hx hu
    rwa [Nat.zero_add]

theorem OwnR.read {a : Option Addr} {c : Nat} (he : ∀ x, (enc x).length = size) (h : OwnR enc size e w base (.slice a n c) n xs) : RdR enc size w a n xs := by
  obtain ⟨a', c', hv, hr, _⟩ := h.rd he
  simp only [Value.slice.injEq] at hv
  rw [hv.1]
  exact hr

/-- A store into one field of one element. -/
theorem OwnR.store {g cap j f : Nat} {x y : α} {u : Value} (he : ∀ x, (enc x).length = size) (h : OwnR enc size e w base (.slice (some ⟨g, 0, none⟩) n cap) n xs) (hx : xs[j]? = some x) (hf : f < size) (hy : enc y = (enc x).set f u) :
    OwnR enc size e (w.setCell ⟨g, j * size + f, none⟩ u) base (.slice (some ⟨g, 0, none⟩) n cap) n (xs.set j y) ∧ w.grownBy (w.setCell ⟨g, j * size + f, none⟩ u) (some g) := by
  have hst := World.ownsRow.stored h.2 (j * size + f) u
  rw [set_flatMap enc size he xs j f x y u hx hf hy] at hst
  exact ⟨⟨by rw [List.length_set]; exact h.1, hst.1⟩, hst.2⟩

theorem OwnR.frozen {g cap : Nat} (h : OwnR enc size e w base (.slice (some ⟨g, 0, none⟩) n cap) n xs) (j : Nat) : w.frozen? ⟨g, j, none⟩ = false := World.ownsRow.frozenAt h.2 j
end
end Go.Proofs.Ytocophekfbhfbaa
