/-
  Layouts and how many rows a line has: contracts of both sides.
-/
import Derived.Test.YtjgmkcmlkffjlaaDoorCells3
import Derived.Test.YtjgmkcmlkffjlaaDoorFiles1
import Derived.Test.YtjgmkcmlkffjlaaDoorRowM
import Derived.Test.YtjgmkcmlkffjlaaDoorBox
import Derived.Test.YtjgmkcmlkffjlaaDoorJoin
namespace Go.Proofs.YtjgmkcmlkffjlaaDoor
open Go.RowKit
set_option linter.unusedVariables false
set_option linter.unusedSimpArgs false

/-- a layout as a value -/
def lyV (W : Int) (C : Bool) (S : Int) : Value := .agg #[.int .i64 W, .bool C, .int .i64 S]

set_option maxHeartbeats 800000 in
theorem implLayoutFault_any (W S : Int) (C : Bool) (w : World) :
    Calls Tryd.prog 43 #[.agg #[.int .i64 W, .bool C, .int .i64 S]] w fun e w' => e = .returned (.int .i64 (lyF W C S)) ∧ Below w.heap.size w w' := by
  go_enter Tryd.func43, Tryd.ntmps43
  go_wp2
  all_goals go_ret
  all_goals refine ⟨ret_int ?_, (Below.refl _ _).alloc (Nat.le_refl _) _⟩
  all_goals (unfold lyF; cases C <;> simp_all <;> omega)

set_option maxHeartbeats 800000 in
theorem l10Fault_any (b : Nat) (W S : Int) (C : Bool) (w : World) (c0 : w.cell? ⟨b, 0, none⟩ = some (.int .i64 W)) (c1 : w.cell? ⟨b, 1, none⟩ = some (.bool C)) (c2 : w.cell? ⟨b, 2, none⟩ = some (.int .i64 S)) :
    Calls Tryd.prog 50 #[.pointer (some ⟨b, 0, none⟩)] w fun e w' => e = .returned (.int .i64 (lyF W C S)) ∧ w' = w := by
  go_enter Tryd.func50, Tryd.ntmps50
  go_wp2_with (go_at_call 20; refine (l1In_any _ _ _ _).mono ?_; rintro e w1 ⟨rfl, rfl⟩)
  all_goals go_ret
  all_goals refine ⟨ret_int ?_, rfl⟩
  all_goals (unfold lyF; cases C <;> simp_all <;> omega)

theorem rwN_quo {C : Bool} {W : Int} {n : Nat} (hW : 1 ≤ W) (hC : C = false) (hn : n ≠ 0) : ((n : Int) + W - 1) / W = (rwN C W n : Nat) := by
  unfold rwN
  rw [if_neg (by simp [hC, hn])]
  obtain ⟨k, rfl⟩ : ∃ k : Nat, W = (k : Int) := ⟨W.toNat, by omega⟩
  obtain ⟨m, hm⟩ : ∃ m : Nat, (n : Int) + k - 1 = (m : Int) := ⟨n + k - 1, by omega⟩
  rw [hm, Int.toNat_natCast, Int.toNat_natCast, Int.natCast_ediv]

set_option maxHeartbeats 800000 in
theorem rowsFor_any (W S : Int) (C : Bool) (n : Nat) (w : World) (hW : 1 ≤ W) (hW2 : W ≤ 40) (hn : n ≤ 100000) :
    Calls Tryd.prog 46 #[.agg #[.int .i64 W, .bool C, .int .i64 S], .int .i64 n] w fun e w' => e = .returned (.int .i64 (rwN C W n : Nat)) ∧ Below w.heap.size w w' := by
  have hle := rwN_le (C := C) (n := n) hW
  have hq := @rwN_quo C W n hW
  have HQ : Hid _ := hq
  have ht : C = true ∨ n = 0 → (1 : Int) = (rwN C W n : Nat) := fun h => by unfold rwN; rw [if_pos h]; rfl
  have HT : Hid _ := ht
  clear hq ht
  go_enter Tryd.func46, Tryd.ntmps46
  go_wp2
  all_goals go_ret
  all_goals refine ⟨ret_int ?_, (Below.refl _ _).alloc (Nat.le_refl _) _⟩
  · exact HT.out (Or.inl (by assumption))
  · exact HT.out (Or.inr (by simp_all))
  · exact HQ.out (by simp_all) (by simp_all)

/-- a line's rows -/
def lnRows (C : Bool) (W : Int) (xs : List Int) : Nat := rwN C W (cellsAll xs).length

set_option maxHeartbeats 800000 in
theorem l10Count_any (b : Nat) (a : Option Addr) (n ca : Nat) (xs : List Int) (W S : Int) (C : Bool) (w : World) (ha : Rd .u8 w a n xs) (hB : Bytes xs) (h1 : n ≤ 400) (hW : 1 ≤ W) (hW2 : W ≤ 40)
    (c0 : w.cell? ⟨b, 0, none⟩ = some (.int .i64 W)) (c1 : w.cell? ⟨b, 1, none⟩ = some (.bool C)) (c2 : w.cell? ⟨b, 2, none⟩ = some (.int .i64 S)) :
    Calls Tryd.prog 39 #[.slice a n ca, .pointer (some ⟨b, 0, none⟩)] w fun e w' => e = .returned (.int .i64 (lnRows C W xs : Nat)) ∧ Below w.heap.size w w' := by
  have hq := @rwN_quo C W (cellsAll xs).length hW
  have HQ : Hid _ := hq
  have ht : C = true ∨ (cellsAll xs).length = 0 → (1 : Int) = (rwN C W (cellsAll xs).length : Nat) := fun h => by unfold rwN; rw [if_pos h]; rfl
  have HT : Hid _ := ht
  have hlc : (cellsAll xs).length ≤ 100000 := by have h2 := cellsAll_len hB; have h3 := ha.1; omega
  clear hq ht
  unfold lnRows
  have CC := l1Cells_any a n ca xs w ha hB h1
  generalize (cellsAll xs).length = k at *
  have HC : Hid _ := CC
  clear CC
  go_enter Tryd.func39, Tryd.ntmps39
  go_wp2_with fail
  refine Calls.mono HC.out ?_
  rintro e w1 ⟨v, rfl, ho, hb⟩
  obtain ⟨av, cap, hv, -⟩ := ho.rd cellE_len
  subst hv
  replace c0 := cell_later hb c0
  replace c1 := cell_later hb c1
  replace c2 := cell_later hb c2
  go_wp2
  · go_ret
    exact ⟨ret_int (HT.out (Or.inl (by assumption))), hb⟩
  · go_ret
    exact ⟨ret_int (HT.out (Or.inr (by simp_all))), hb⟩
  · go_quiet (fail)
    go_wp2
    go_ret
    exact ⟨ret_int (HQ.out (by simp_all) (by simp_all)), hb.trans (below_drewN (Below.refl _ _) _ |>.mono hb.size)⟩

/-- what is asked of a line and a layout -/
def askF (xs : List Int) (W : Int) (C : Bool) (S : Int) : Int := if lyF W C S ≠ 0 then lyF W C S else if 400 < xs.length then 2 else 0
theorem lyF_ok {W : Int} {C : Bool} {S : Int} (h : lyF W C S = 0) : 1 ≤ W ∧ W ≤ 40 ∧ 0 ≤ S ∧ S ≤ 400 ∧ (C = false → S = 0) := by
  unfold lyF at h
  split at h
  · omega
  · split at h
    · omega
    · rename_i h1 h2
      refine ⟨by omega, by omega, by omega, by omega, fun hc => ?_⟩
      apply Classical.byContradiction; intro hs; exact h2 ⟨hs, hc⟩

/-- what RowCount tells -/
def rcVal (xs : List Int) (W : Int) (C : Bool) (S : Int) : Int := if askF xs W C S = 0 then (lnRows C W xs : Nat) else 0

end Go.Proofs.YtjgmkcmlkffjlaaDoor