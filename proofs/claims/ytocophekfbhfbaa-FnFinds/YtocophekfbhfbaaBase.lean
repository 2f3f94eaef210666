/-
  What a slice of integers reads as, in a world: words of my own for the contracts of this seat. It speaks of no program.
-/
import Derived.WalkKit
import Derived.WalkSpells
import Derived.WalkLawsBesides
import Derived.Deep.QuietTactic
import Derived.BigQuiet
namespace Go.Proofs.Ytocophekfbhfbaa
open Go.RowKit

/-- The slice with head a, of n elements, reads in w as the integers xs of kind k. -/
def Rd (k : IntKind) (w : World) (a : Option Addr) (n : Nat) (xs : List Int) : Prop :=
  xs.length = n ∧ (n = 0 ∨ ∃ b off, a = some ⟨b, off, none⟩ ∧ ∀ j, j < n → w.cell? ⟨b, off + j, none⟩ = some (.int k (xs.getD j 0)))

theorem Rd.at {k : IntKind} {w : World} {a : Option Addr} {n : Nat} {xs : List Int} (h : Rd k w a n xs) {j : Nat} (hj : j < n) :
    ∃ b off, a = some ⟨b, off, none⟩ ∧ ∀ j, j < n → w.cell? ⟨b, off + j, none⟩ = some (.int k (xs.getD j 0)) := by
  rcases h.2 with h | h
  · omega
  · exact h

theorem Rd.drewN {k : IntKind} {w : World} {a : Option Addr} {n : Nat} {xs : List Int} (h : Rd k w a n xs) (q : Nat) : Rd k (w.drewN q) a n xs := h

/-- What is read below a mark is read behind it. -/
theorem Rd.below {k : IntKind} {w w' : World} {a : Option Addr} {n : Nat} {xs : List Int} (h : Rd k w a n xs) (hb : Below w.heap.size w w') : Rd k w' a n xs := by
  refine ⟨h.1, ?_⟩
  rcases h.2 with h0 | ⟨b, off, rfl, hc⟩
  · exact .inl h0
  · exact .inr ⟨b, off, rfl, fun j hj => cell_later hb (hc j hj)⟩

/-- A row of integers that the call owns. -/
def Own (k : IntKind) (e : TypeId) (w : World) (base : Nat) (v : Value) (n : Nat) (xs : List Int) : Prop :=
  w.ownsRow base e 1 v n (xs.map (Value.int k))

theorem Own.len {k : IntKind} {e : TypeId} {w : World} {base : Nat} {v : Value} {n : Nat} {xs : List Int} (h : Own k e w base v n xs) : xs.length = n := by
  simpa using h.1

theorem Own.rd {k : IntKind} {e : TypeId} {w : World} {base : Nat} {v : Value} {n : Nat} {xs : List Int} (h : Own k e w base v n xs) :
    ∃ a cap, v = .slice a n cap ∧ Rd k w a n xs ∧ n ≤ maxLen := by
  rcases h.2 with ⟨rfl, rfl⟩ | ⟨g, cap, cur, rfl, hb, hg, hn, hm, hs, ht⟩
  · exact ⟨none, 0, rfl, ⟨h.len, .inl rfl⟩, by simp [maxLen]⟩
  · refine ⟨some ⟨g, 0, none⟩, cap, rfl, ⟨h.len, .inr ⟨g, 0, rfl, fun j hj => ?_⟩⟩, Nat.le_trans hn hm⟩
    have h1 := World.ownsRow.cellAt h j (by simpa using hj)
    rw [Nat.zero_add, h1]
    have := h.len
    have hj' : j < xs.length := by omega
    simp [List.getD_eq_getElem?_getD, hj']

theorem Own.rdc {k : IntKind} {e : TypeId} {w : World} {base : Nat} {v : Value} {n : Nat} {xs : List Int} (h : Own k e w base v n xs) :
    ∃ a cap, v = .slice a n cap ∧ Rd k w a n xs ∧ n ≤ cap ∧ cap ≤ maxLen := by
  obtain ⟨a, cap, hv, hr, _⟩ := h.rd
  refine ⟨a, cap, hv, hr, ?_⟩
  rcases h.2 with ⟨rfl, rfl⟩ | ⟨g, cap', cur, rfl, hb, hg, hn, hm, hs, ht⟩
  · simp at hv
    obtain ⟨_, rfl⟩ := hv
    exact ⟨Nat.le_refl _, by simp [maxLen]⟩
  · simp at hv
    obtain ⟨_, rfl⟩ := hv
    exact ⟨hn, hm⟩

theorem Own.cell {k : IntKind} {e : TypeId} {w : World} {base g cap n j : Nat} {xs : List Int} (h : Own k e w base (.slice (some ⟨g, 0, none⟩) n cap) n xs) (hj : j < n) :
    w.cell? ⟨g, j, none⟩ = some (.int k (xs.getD j 0)) := by
  have h1 := World.ownsRow.cellAt h j (by simpa using hj)
  have := h.len
  have hj' : j < xs.length := by omega
  rw [h1]
  simp [List.getD_eq_getElem?_getD, hj']

theorem own_lit {k : IntKind} {e : TypeId} (w : World) (cs : Array Value) (n base : Nat) (xs : List Int) (hx : cs.toList = xs.map (Value.int k)) (hn : xs.length = n) (hb : base ≤ w.heap.size) (hm : n ≤ maxLen) :
    Own k e (w.alloc (.cells cs e)) base (.slice (some ⟨w.heap.size, 0, none⟩) n n) xs.length xs := by
  subst hn
  unfold Own
  rw [← hx]
  refine World.ownsRow_lit w cs _ hb hm ?_
  have := congrArg List.length hx
  simpa using this

/-- The cells of a block just laid. -/
theorem cells_new (w : World) (cs : Array Value) (e : TypeId) : ∀ j u, cs.toList[j]? = some u → (w.alloc (.cells cs e)).cell? ((⟨w.heap.size, 0, none⟩ : Addr).add j) = some u := by
  intro j u hu
  rw [Addr.add_lit, Nat.zero_add, cell_of_row _ _ _ cs e (0, 0) (heap_alloc_new w _)]
  simpa using hu

theorem grownBy_of_below {w w' : World} (hb : Below w.heap.size w w') : w.grownBy w' none :=
  ⟨hb.os, hb.tape, hb.output, hb.size, fun k hk _ => hb.block k hk⟩

theorem Own.below {k : IntKind} {e : TypeId} {w w' : World} {base : Nat} {v : Value} {n : Nat} {xs : List Int} (h : Own k e w base v n xs) (hb : Below w.heap.size w w') : Own k e w' base v n xs :=
  World.ownsRow.kept h (grownBy_of_below hb) (by cases v.ownBlock <;> simp)

theorem grownBy_alloc_trans {w w' : World} {o : Obj} {row : Option Nat} (h : (w.alloc o).grownBy w' row) : w.grownBy w' row :=
  ⟨h.os, h.tape, h.output, by have := h.size; simp at this; omega, fun k hk hr => (h.block k (by simp; omega) hr).trans (Below.heap_alloc w o k hk)⟩

theorem Own.up {k : IntKind} {e : TypeId} {w : World} {base base' : Nat} {v : Value} {n : Nat} {xs : List Int} (h : Own k e w base v n xs) (hb : base' ≤ base) : Own k e w base' v n xs := by
  refine ⟨h.1, ?_⟩
  rcases h.2 with h0 | ⟨g, cap, cur, hv, hg, r⟩
  · exact .inl h0
  · exact .inr ⟨g, cap, cur, hv, by omega, r⟩

theorem Own.setBelow {k : IntKind} {e : TypeId} {w : World} {base : Nat} {v : Value} {n : Nat} {xs : List Int} (h : Own k e w base v n xs) {a : Addr} (ha : a.block < base) (u : Value) : Own k e (w.setCell a u) base v n xs :=
  ownsRow_setCell_below h ha u

theorem Own.nil {k : IntKind} {e : TypeId} (w : World) (base : Nat) : Own k e w base (.slice none 0 0) 0 [] := World.ownsRow_nil _ _ _ _

/-- The frame of a call whose result lies in a slot of its own. -/
theorem below_slot {w w1 : World} {o : Obj} (hb : Below (w.alloc o).heap.size (w.alloc o) w1) : Below w.heap.size w w1 :=
  ((Below.refl _ _).alloc (Nat.le_refl _) o).trans (hb.mono (by simp))

/-- A write into the one row leaves the other one. -/
theorem Own.kept {k : IntKind} {e : TypeId} {w w' : World} {base : Nat} {v : Value} {n : Nat} {xs : List Int} {row : Option Nat} (h : Own k e w base v n xs) (hg : w.grownBy w' row) (hne : ∀ j, v.ownBlock = some j → row ≠ some j) : Own k e w' base v n xs := by
  refine World.ownsRow.kept h hg ?_
  cases hv : v.ownBlock with
  | none => exact .inl rfl
  | some j => exact .inr (Ne.symm (hne j hv))

theorem Own.lt {k : IntKind} {e : TypeId} {w : World} {base : Nat} {v : Value} {n : Nat} {xs : List Int} (h : Own k e w base v n xs) : ∀ j, v.ownBlock = some j → base ≤ j ∧ j < w.heap.size := World.ownsRow.lt h

theorem grown_cell {w w' : World} {row : Option Nat} {a : Addr} {v : Value} (hg : w.grownBy w' row) (hc : w.cell? a = some v) (hne : ∀ j, row = some j → a.block ≠ j) : w'.cell? a = some v :=
  hg.cell hc (fun e => hne _ e.symm rfl)

/-- Bytes that count on from k. -/
def mkB (k : Int) (n : Nat) : List Int := (List.range n).map fun (i : Nat) => (k + (i : Int)) % 256
theorem mkB_len (k : Int) (n : Nat) : (mkB k n).length = n := by simp [mkB]
theorem mkB_getD (k : Int) (n j : Nat) (h : j < n) : (mkB k n).getD j 0 = (k + (j : Int)) % 256 := by
  simp [mkB, List.getD_eq_getElem?_getD, h]

theorem mkB_succ (k : Int) (n : Nat) : mkB k (n + 1) = mkB k n ++ [(k + (n : Int)) % 256] := by
  simp [mkB, List.range_succ]

/-- A store at the place k of a list. -/
theorem set_mid {α : Type} (A : List α) (k : Nat) (h : A.length = k) (x y : α) (B : List α) : (A ++ x :: B).set k y = A ++ [y] ++ B := by
  subst h
  simp

/-- How long a slice is, for a loop's measure. -/
def lenOf : Value → Nat | .slice _ n _ => n | _ => 0

theorem ret_bool {a b : Bool} (h : a = b) : Ending.returned (.bool a) = .returned (.bool b) := by rw [h]
theorem ret_int {k : IntKind} {a b : Int} (h : a = b) : Ending.returned (.int k a) = .returned (.int k b) := by rw [h]
end Go.Proofs.Ytocophekfbhfbaa
