/-
  A world that turned in the blocks lo .. hi alone; rows that the call owns, with the blocks between which they lie. It speaks of no program.
-/
import Derived.Test.YtocophekfbhfbaaRows2
namespace Go.Proofs.Ytocophekfbhfbaa
open Go.RowKit
set_option linter.unusedVariables false

/-- w' is as w was, but for blocks from lo to hi and new ones. -/
structure Chg (lo hi : Nat) (w w' : World) : Prop where
  os : w'.os = w.os
  tape : w'.tape = w.tape
  output : w'.output = w.output
  size : w.heap.size ≤ w'.heap.size
  block : ∀ k, k < w.heap.size → (k < lo ∨ hi ≤ k) → w'.heap[k]? = w.heap[k]?

theorem Chg.refl (lo hi : Nat) (w : World) : Chg lo hi w w := ⟨rfl, rfl, rfl, Nat.le_refl _, fun _ _ _ => rfl⟩
theorem Chg.of_below {lo hi : Nat} {w w' : World} (h : Below w.heap.size w w') : Chg lo hi w w' := ⟨h.os, h.tape, h.output, h.size, fun k hk _ => h.block k hk⟩
theorem Chg.trans {lo hi : Nat} {a b c : World} (h : Chg lo hi a b) (k : Chg lo hi b c) : Chg lo hi a c :=
  ⟨k.os.trans h.os, k.tape.trans h.tape, k.output.trans h.output, Nat.le_trans h.size k.size, fun i hi' hr => (k.block i (Nat.lt_of_lt_of_le hi' h.size) hr).trans (h.block i hi' hr)⟩
theorem Chg.mono {lo hi lo' hi' : Nat} {w w' : World} (h : Chg lo hi w w') (h1 : lo' ≤ lo) (h2 : hi ≤ hi') : Chg lo' hi' w w' :=
  ⟨h.os, h.tape, h.output, h.size, fun k hk hr => h.block k hk (by omega)⟩
theorem Chg.of_grown {lo hi : Nat} {w w' : World} {row : Option Nat} (h : w.grownBy w' row) (hr : ∀ j, row = some j → lo ≤ j ∧ j < hi) : Chg lo hi w w' :=
  ⟨h.os, h.tape, h.output, h.size, fun k hk ho => h.block k hk (fun e => by have := hr k e.symm; omega)⟩
theorem Chg.drewN {lo hi : Nat} {w w' : World} (h : Chg lo hi w w') (q : Nat) : Chg lo hi w (w'.drewN q) := by
  have := below_drewN (Below.refl w'.heap.size w') q
  exact h.trans (Chg.of_below this)
theorem Chg.alloc {lo hi : Nat} {w w' : World} (h : Chg lo hi w w') (o : Obj) : Chg lo hi w (w'.alloc o) :=
  h.trans (Chg.of_below ((Below.refl _ _).alloc (Nat.le_refl _) o))

theorem Chg.cell {lo hi : Nat} {w w' : World} {a : Addr} {v : Value} (h : Chg lo hi w w') (hc : w.cell? a = some v) (hb : a.block < w.heap.size) (hr : a.block < lo ∨ hi ≤ a.block) : w'.cell? a = some v :=
  (World.cell?_of_block (w := w) (h.block a.block hb hr)).trans hc

theorem Chg.at {lo hi : Nat} {w w' : World} {b off : Nat} {v : Value} (h : Chg lo hi w w') (hc : w.cell? ⟨b, off, none⟩ = some v) (hb : b < w.heap.size) (hr : b < lo ∨ hi ≤ b) : w'.cell? ⟨b, off, none⟩ = some v := h.cell hc hb hr

theorem Chg.fr {lo hi : Nat} {w w' : World} {b off : Nat} (h : Chg lo hi w w') (hc : w.frozen? ⟨b, off, none⟩ = false) (hb : b < w.heap.size) (hr : b < lo ∨ hi ≤ b) : w'.frozen? ⟨b, off, none⟩ = false := (World.frozen?_of_block (w := w) (h.block b hb hr)).trans hc
theorem Chg.one {b : Nat} {w w' : World} (h : w.grownBy w' (some b)) : Chg b (b + 1) w w' := Chg.of_grown h (fun j hj => by simp at hj; omega)

theorem set_grown (W : World) (B i : Nat) (u : Value) : W.grownBy (W.setCell ⟨B, i, none⟩ u) (some B) :=
  ⟨rfl, rfl, rfl, by simp [World.setCell], fun k _ hk => Below.heap_setCell W ⟨B, i, none⟩ u k (fun e => hk (by rw [e]))⟩

/-- What is below B stays, where the blocks that turned lie from B on. -/
theorem below_chg {B lo hi : Nat} {w0 w w' : World} (h : Below B w0 w) (hc : Chg lo hi w w') (hB : B ≤ w.heap.size) (hl : B ≤ lo) : Below B w0 w' :=
  h.trans ⟨hc.os, hc.tape, hc.output, hc.size, fun k hk => hc.block k (by omega) (by omega)⟩

/-- A row that the call owns is kept by what turns elsewhere. -/
theorem ownsRow_chg {w w' : World} {lo hi lo' hi' : Nat} {e : TypeId} {size n : Nat} {v : Value} {xs : List Value} (h : w.ownsRow lo e size v n xs) (hv : ∀ j, v.ownBlock = some j → j < hi) (hc : Chg lo' hi' w w') (hd : hi ≤ lo' ∨ hi' ≤ lo) :
    w'.ownsRow lo e size v n xs := by
  have hlt := World.ownsRow.lt h
  obtain ⟨h1, h2⟩ := h
  refine ⟨h1, ?_⟩
  rcases h2 with h2 | ⟨g, cap, cur, rfl, hg, hh, r⟩
  · exact Or.inl h2
  · have l1 := hlt g rfl
    have l2 := hv g rfl
    exact Or.inr ⟨g, cap, cur, rfl, hg, (hc.block g l1.2 (by omega)).trans hh, r⟩

/-- A row of integers that the call owns, between lo and hi. -/
def RowI (k : IntKind) (e : TypeId) (w : World) (lo hi : Nat) (v : Value) (n : Nat) (xs : List Int) : Prop := Own k e w lo v n xs ∧ ∀ j, v.ownBlock = some j → j < hi

section
variable {k : IntKind} {e : TypeId} {w w' : World} {lo hi n : Nat} {v : Value} {xs : List Int}
theorem RowI.of (h : Own k e w lo v n xs) : RowI k e w lo w.heap.size v n xs := ⟨h, fun j hj => (h.lt j hj).2⟩
theorem RowI.chg {lo' hi' : Nat} (h : RowI k e w lo hi v n xs) (hc : Chg lo' hi' w w') (hd : hi ≤ lo' ∨ hi' ≤ lo) : RowI k e w' lo hi v n xs := ⟨ownsRow_chg h.1 h.2 hc hd, h.2⟩
theorem RowI.below (h : RowI k e w lo hi v n xs) (hb : Below w.heap.size w w') : RowI k e w' lo hi v n xs := ⟨h.1.below hb, h.2⟩
theorem RowI.mono {lo' hi' : Nat} (h : RowI k e w lo hi v n xs) (h1 : lo' ≤ lo) (h2 : hi ≤ hi') : RowI k e w lo' hi' v n xs := ⟨h.1.up h1, fun j hj => Nat.lt_of_lt_of_le (h.2 j hj) h2⟩
theorem RowI.shape (h : RowI k e w lo hi v n xs) : ∃ a cap, v = .slice a n cap ∧ n ≤ cap ∧ cap ≤ maxLen := by
  obtain ⟨a, cap, hv, _, h1, h2⟩ := h.1.rdc
  exact ⟨a, cap, hv, h1, h2⟩
theorem RowI.read {a : Option Addr} {c : Nat} (h : RowI k e w lo hi (.slice a n c) n xs) : Rd k w a n xs := h.1.read
theorem RowI.len (h : RowI k e w lo hi v n xs) : xs.length = n := h.1.len
theorem RowI.nil (k : IntKind) (e : TypeId) (w : World) (lo hi : Nat) : RowI k e w lo hi (.slice none 0 0) 0 [] := ⟨Own.nil w lo, fun j hj => by simp [Value.ownBlock] at hj⟩
end

/-- A row of structs that the call owns, between lo and hi. -/
def RowS {α : Type} (enc : α → List Value) (size : Nat) (e : TypeId) (w : World) (lo hi : Nat) (v : Value) (n : Nat) (xs : List α) : Prop := OwnR enc size e w lo v n xs ∧ ∀ j, v.ownBlock = some j → j < hi

section
variable {α : Type} {enc : α → List Value} {size : Nat} {e : TypeId} {w w' : World} {lo hi n : Nat} {v : Value} {xs : List α}
theorem RowS.of (h : OwnR enc size e w lo v n xs) : RowS enc size e w lo w.heap.size v n xs := ⟨h, fun j hj => (h.lt j hj).2⟩
theorem RowS.chg {lo' hi' : Nat} (h : RowS enc size e w lo hi v n xs) (hc : Chg lo' hi' w w') (hd : hi ≤ lo' ∨ hi' ≤ lo) : RowS enc size e w' lo hi v n xs := ⟨⟨h.1.1, ownsRow_chg h.1.2 h.2 hc hd⟩, h.2⟩
theorem RowS.below (h : RowS enc size e w lo hi v n xs) (hb : Below w.heap.size w w') : RowS enc size e w' lo hi v n xs := ⟨h.1.below hb, h.2⟩
theorem RowS.mono {lo' hi' : Nat} (h : RowS enc size e w lo hi v n xs) (h1 : lo' ≤ lo) (h2 : hi ≤ hi') : RowS enc size e w lo' hi' v n xs := ⟨h.1.up h1, fun j hj => Nat.lt_of_lt_of_le (h.2 j hj) h2⟩
theorem RowS.shape (he : ∀ x, (enc x).length = size) (h : RowS enc size e w lo hi v n xs) : ∃ a cap, v = .slice a n cap ∧ n ≤ cap ∧ cap ≤ maxLen := by
  obtain ⟨a, cap, hv, _, h1, h2⟩ := h.1.rd he
  exact ⟨a, cap, hv, h1, h2⟩
theorem RowS.read {a : Option Addr} {c : Nat} (he : ∀ x, (enc x).length = size) (h : RowS enc size e w lo hi (.slice a n c) n xs) : RdR enc size w a n xs := h.1.read he
theorem RowS.nil (enc : α → List Value) (size : Nat) (e : TypeId) (w : World) (lo hi : Nat) : RowS enc size e w lo hi (.slice none 0 0) 0 ([] : List α) := ⟨OwnR.nil _ _ _ _ _, fun j hj => by simp [Value.ownBlock] at hj⟩
theorem RowS.len (h : RowS enc size e w lo hi v n xs) : xs.length = n := h.1.1
end

theorem rd_of_len {k : IntKind} {w : World} {a : Option Addr} {n m : Nat} {xs : List Int} (h : Rd k w a n xs) (e : n = m) : Rd k w a m xs := e ▸ h
end Go.Proofs.Ytocophekfbhfbaa
