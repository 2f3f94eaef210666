/-
  The cells of a row: contracts of both sides.
-/
import Derived.Test.YtjgmkcmlkffjlaaDoorRow1
import Derived.Test.YtjgmkcmlkffjlaaDoorAppR
namespace Go.Proofs.YtjgmkcmlkffjlaaDoor
open Go.RowKit
set_option linter.unusedVariables false
set_option linter.unusedSimpArgs false

/-- from which cell on a row goes, and how far -/
def rFrom (C : Bool) (W S R : Int) (m : Nat) : Nat := min (if C = true then S else R * W).toNat m
def rTo (C : Bool) (W S R : Int) (m : Nat) : Nat := min m (rFrom C W S R m + W.toNat)
def rowOf (C : Bool) (W S R : Int) (cs : List C3) : List C3 := (cs.drop (rFrom C W S R cs.length)).take (rTo C W S R cs.length - rFrom C W S R cs.length)
theorem rF_le (C : Bool) (W S R : Int) (m : Nat) : rFrom C W S R m ≤ rTo C W S R m ∧ rTo C W S R m ≤ m := by
  unfold rTo rFrom; omega
theorem mul_bd {R W : Int} (hR : 0 ≤ R) (hR2 : R ≤ 2000) (hW : 1 ≤ W) (hW2 : W ≤ 40) : 0 ≤ R * W ∧ R * W ≤ 80000 := by
  refine ⟨Int.mul_nonneg hR (by omega), ?_⟩
  calc R * W ≤ 2000 * W := Int.mul_le_mul_of_nonneg_right hR2 (by omega)
    _ ≤ 80000 := by omega

/-- the part of a row that a slice expression gives -/
theorem part_rd {α : Type} {enc : α → List Value} {size : Nat} {w : World} {a : Option Addr} {N cap : Nat} {XS : List α} (h : RdR enc size w a N XS) (F T : Nat) (hF : F ≤ T) (hT : T ≤ N) (hN : N ≤ cap) :
    RdR enc size w (if cap = F then a else a.map (·.add (F * size))) (T - F) ((XS.drop F).take (T - F)) := by
  refine h.cut F (T - F) (by omega) _ fun hn g off ha => ?_
  subst ha
  rw [if_neg (by omega)]
  simp [Addr.add_lit]
theorem part_own {α : Type} {enc : α → List Value} {size : Nat} {e : TypeId} {w : World} {lo hi : Nat} {a : Option Addr} {N cap : Nat} {XS : List α} (he : ∀ x, (enc x).length = size) (h : RowS enc size e w lo hi (.slice a N cap) N XS) (F T : Nat) (hF : F ≤ T) (hT : T ≤ N) :
    RowO enc size e w lo hi (.slice (if cap = F then a else a.map (·.add (F * size))) (T - F) (cap - F)) (T - F) ((XS.drop F).take (T - F)) := by
  refine ⟨_, N, F, XS, h, by omega, rfl, _, _, rfl, fun hn => ?_⟩
  obtain ⟨a', cap', hv, hn1, hn2⟩ := h.shape he
  simp only [Value.slice.injEq] at hv
  obtain ⟨rfl, -, rfl⟩ := hv
  rcases h.1.2.2 with ⟨h0, h1⟩ | ⟨g, c, cur, h0, _⟩
  · omega
  · simp only [Value.slice.injEq] at h0
    obtain ⟨rfl, -, rfl⟩ := h0
    exact ⟨g, cap, rfl, by rw [if_neg (by omega)]; simp [Addr.add_lit]⟩

theorem rFrom_chop {W S R : Int} {m : Nat} (h : 0 ≤ S) : ((rFrom true W S R m : Nat) : Int) = min S (m : Int) := by
  unfold rFrom; rw [if_pos rfl]; omega
theorem rFrom_rows {W S R : Int} {m : Nat} (h : 0 ≤ R * W) : ((rFrom false W S R m : Nat) : Int) = min (R * W) (m : Int) := by
  unfold rFrom; rw [if_neg (by simp)]; omega
theorem rTo_is {C : Bool} {W S R : Int} {m : Nat} (h : 1 ≤ W) : ((rTo C W S R m : Nat) : Int) = min (m : Int) ((rFrom C W S R m : Nat) + W) := by
  unfold rTo; omega

/-- what RowCells tells -/
def rwC (xs : List Int) (W : Int) (C : Bool) (S R : Int) : Int := if askF xs W C S ≠ 0 then askF xs W C S else if R < 0 ∨ (lnRows C W xs : Nat) ≤ R then 3 else 0
def rwRes (xs : List Int) (W : Int) (C : Bool) (S R : Int) : List C3 := if rwC xs W C S R = 0 then rowOf C W S R (cellsAll xs) else []
theorem askF_ok {xs : List Int} {W : Int} {C : Bool} {S : Int} (h : askF xs W C S = 0) : lyF W C S = 0 ∧ xs.length ≤ 400 := by
  unfold askF at h
  split at h
  · omega
  · split at h <;> omega
theorem lnRows_le {C : Bool} {W : Int} {xs : List Int} (hB : Bytes xs) (hn : xs.length ≤ 400) (hW : 1 ≤ W) : lnRows C W xs ≤ 1601 := by
  have h1 := cellsAll_len hB
  have h2 := rwN_le (C := C) (n := (cellsAll xs).length) hW
  unfold lnRows; omega
theorem rwRes_len {xs : List Int} {W : Int} {C : Bool} {S R : Int} (hB : Bytes xs) : (rwRes xs W C S R).length ≤ 1600 := by
  unfold rwRes
  split
  · rename_i h
    have h1 := cellsAll_len hB
    have h2 : askF xs W C S = 0 := by
      unfold rwC at h
      split at h
      · assumption
      · omega
    have := (askF_ok h2).2
    unfold rowOf; simp; omega
  · simp

theorem cellE_one2 : ∀ c : C3, ∀ u ∈ cellE c, u.oneCell' = true := by
  intro c u hu
  simp [cellE] at hu
  rcases hu with rfl | rfl | rfl <;> rfl
theorem own_emptyC (w : World) (base : Nat) (hb : base ≤ w.heap.size) : OwnR cellE 3 113 (w.alloc (.cells #[] 113)) base (.slice (some ⟨w.heap.size, 0, none⟩) 0 0) 0 ([] : List C3) :=
  ⟨rfl, World.ownsRow_made w #[] 0 hb (by simp [maxLen]) rfl⟩

end Go.Proofs.YtjgmkcmlkffjlaaDoor