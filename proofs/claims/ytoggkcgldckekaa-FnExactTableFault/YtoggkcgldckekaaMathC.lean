/-
  Cells, as plain mathematics.
-/
import Derived.Test.YtoggkcgldckekaaRows2
import Derived.Test.YtoggkcgldckekaaMath1
namespace Go.Proofs.Ytoggkcgldckekaa

/-- A cell: Char, From, Size. -/
abbrev C3 := Int × Int × Int
def cellE (c : C3) : List Value := [.int .i64 c.1, .int .i64 c.2.1, .int .i64 c.2.2]
theorem cellE_len (c : C3) : (cellE c).length = 3 := rfl

/-- A cell that has no fault. -/
def cellOk (c : C3) : Bool := shown c.1 && decide (0 ≤ c.2.1) && decide (c.2.1 ≤ 400) && decide (1 ≤ c.2.2) && decide (c.2.2 ≤ 3)
theorem cellOk_yes {x y z : Int} (h : cellOk (x, y, z) = true) : isCh x = true ∧ 32 ≤ x ∧ ¬ x = 127 ∧ 0 ≤ y ∧ y ≤ 400 ∧ 1 ≤ z ∧ z ≤ 3 := by
  simp [cellOk, shown] at h
  exact ⟨h.1.1.1.1.1.1, by omega, by omega, by omega, by omega, by omega, by omega⟩
theorem cellOk_no {x y z : Int} (h : ¬ cellOk (x, y, z) = true) : isCh x = false ∨ (isCh x = true ∧ (x < 32 ∨ x = 127 ∨ y < 0 ∨ 400 < y ∨ z < 1 ∨ 3 < z)) := by
  cases hq : isCh x
  · exact .inl rfl
  · refine .inr ⟨rfl, ?_⟩
    simp [cellOk, shown, hq] at h; omega
theorem cellOk_no' {x y z : Int} (h : ¬ cellOk (x, y, z) = true) (hs : shown x = true) : y < 0 ∨ 400 < y ∨ z < 1 ∨ 3 < z := by
  simp [cellOk, hs] at h; omega
def cellsFault (cs : List C3) : Int := if 2000 < cs.length then 2 else if cs.all cellOk then 0 else 3

/-- Cells that count on from k. -/
def mkC (k : Int) (n : Nat) : List C3 := (List.range n).map fun (i : Nat) => (k + 3 * (i : Int), k + 3 * (i : Int) + 1, k + 3 * (i : Int) + 1 + 1)
theorem mkC_len (k : Int) (n : Nat) : (mkC k n).length = n := by simp [mkC]
theorem mkC_at (k : Int) (n j : Nat) (h : j < n) : (mkC k n)[j]? = some (k + 3 * (j : Int), k + 3 * (j : Int) + 1, k + 3 * (j : Int) + 1 + 1) := by
  simp [mkC, h]
theorem mkC_succ (k : Int) (n : Nat) : mkC k (n + 1) = mkC k n ++ [(k + 3 * (n : Int), k + 3 * (n : Int) + 1, k + 3 * (n : Int) + 1 + 1)] := by
  simp [mkC, List.range_succ]

theorem all_take_succ {cs : List C3} {k : Nat} {c : C3} (h : cs[k]? = some c) (h1 : (cs.take k).all cellOk = true) (h2 : cellOk c = true) : (cs.take (k + 1)).all cellOk = true := by
  have hk := (List.getElem?_eq_some_iff.1 h)
  rw [List.take_add_one, List.all_append, h1, h]
  simp [h2]
theorem fault_bad {cs : List C3} {k : Nat} {c : C3} (hn : cs.length ≤ 2000) (h : cs[k]? = some c) (h2 : cellOk c = false) : cellsFault cs = 3 := by
  unfold cellsFault
  rw [if_neg (by omega), if_neg]
  intro hall
  have := List.all_eq_true.1 hall c (List.mem_of_getElem? h)
  rw [h2] at this
  cases this
theorem fault_ok {cs : List C3} {n : Nat} (hl : cs.length ≤ n) (hn : cs.length ≤ 2000) (h : (cs.take n).all cellOk = true) : cellsFault cs = 0 := by
  unfold cellsFault
  rw [List.take_of_length_le hl] at h
  rw [if_neg (by omega), if_pos h]
theorem fault_many {cs : List C3} (hn : 2000 < cs.length) : cellsFault cs = 2 := by
  unfold cellsFault
  rw [if_pos hn]
end Go.Proofs.Ytoggkcgldckekaa
