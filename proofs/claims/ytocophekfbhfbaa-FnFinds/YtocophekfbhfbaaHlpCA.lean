/-
  Chars, MathC, HlpC, HlpD in one text.
-/
import Derived.Deep.RegionWith
import Derived.Test.YtocophekfbhfbaaRows
import Derived.Test.YtocophekfbhfbaaBase
import Derived.Test.YtocophekfbhfbaaMath1
import Derived.Test.YtocophekfbhfbaaHlp1
import Derived.Test.YtocophekfbhfbaaRows2
namespace Go.Proofs.Ytocophekfbhfbaa
open Go.RowKit

theorem l1Encode_any (c : Int) (w : World) (h0 : 0 ≤ c) (h1 : c ≤ 65535) :
    Calls Try.prog 247 #[.int .i64 c] w fun e w' => ∃ v, e = .returned v ∧ Own .u8 5 w' w.heap.size v (enc c).length (enc c) ∧ Below w.heap.size w w' := by
  go_enter Try.func247, Try.ntmps247
  go_wp2
  all_goals go_ret
  · refine ⟨_, rfl, own_lit w _ 1 _ _ ?_ ?_ (Nat.le_refl _) (by simp [maxLen]), (Below.refl _ _).alloc (Nat.le_refl _) _⟩
    · rw [enc, if_pos (by assumption)]
      rfl
    · rw [enc, if_pos (by assumption)]; rfl
  · refine ⟨_, rfl, own_lit w _ 2 _ _ ?_ ?_ (Nat.le_refl _) (by simp [maxLen]), (Below.refl _ _).alloc (Nat.le_refl _) _⟩
    · rw [enc, if_neg (by omega), if_pos (by assumption)]
      rfl
    · rw [enc, if_neg (by omega), if_pos (by assumption)]; rfl
  · refine ⟨_, rfl, own_lit w _ 3 _ _ ?_ ?_ (Nat.le_refl _) (by simp [maxLen]), (Below.refl _ _).alloc (Nat.le_refl _) _⟩
    · rw [enc, if_neg (by omega), if_neg (by omega)]
      rfl
    · rw [enc, if_neg (by omega), if_neg (by omega)]; rfl

theorem info8c : (Try.prog.info? 5).map (fun i => (i.zero, i.size, i.bytes)) = some (some (.int .u8 0), 1, 1) := by kernel_rfl

end Go.Proofs.Ytocophekfbhfbaa

namespace Go.Proofs.Ytocophekfbhfbaa

/-- A cell: Char, From, Size. -/
abbrev C3 := Int × Int × Int
def cellE (c : C3) : List Value := [.int .i64 c.1, .int .i64 c.2.1, .int .i64 c.2.2]
theorem cellE_len (c : C3) : (cellE c).length = 3 := rfl

/-- A cell that has no fault. -/
def cellOk (c : C3) : Bool := shown c.1 && decide (0 ≤ c.2.1) && decide (c.2.1 ≤ 400) && decide (1 ≤ c.2.2) && decide (c.2.2 ≤ 3)
theorem cellOk_yes {x y z : Int} (h : cellOk (x, y, z) = true) : isCh x = true ∧ 32 ≤ x ∧ ¬ x = 127 ∧ 0 ≤ y ∧ y ≤ 400 ∧ 1 ≤ z ∧ z ≤ 3 := by
  simp [cellOk, shown] at h
  exact ⟨h.1.1.1.1.1.1, by omega, by omega, by omega, by omega, by omega, by omega⟩
theorem cellOk_no {x y z : Int} (h : ¬ cellOk (x, y, z) = true) : isCh x = false ∨ (isCh x = true ∧ (x < 32 ∨ x = 127 ∨ y < 0 ∨ 400 < y ∨ z < 1 ∨ 3 < z)) := by
  cases hq : isCh x
  · exact .inl rfl
  · refine .inr ⟨rfl, ?_⟩
    simp [cellOk, shown, hq] at h; omega
theorem cellOk_no' {x y z : Int} (h : ¬ cellOk (x, y, z) = true) (hs : shown x = true) : y < 0 ∨ 400 < y ∨ z < 1 ∨ 3 < z := by
  simp [cellOk, hs] at h; omega
def cellsFault (cs : List C3) : Int := if 2000 < cs.length then 2 else if cs.all cellOk then 0 else 3

/-- Cells that count on from k. -/
def mkC (k : Int) (n : Nat) : List C3 := (List.range n).map fun (i : Nat) => (k + 3 * (i : Int), k + 3 * (i : Int) + 1, k + 3 * (i : Int) + 1 + 1)
theorem mkC_len (k : Int) (n : Nat) : (mkC k n).length = n := by simp [mkC]
theorem mkC_at (k : Int) (n j : Nat) (h : j < n) : (mkC k n)[j]? = some (k + 3 * (j : Int), k + 3 * (j : Int) + 1, k + 3 * (j : Int) + 1 + 1) := by
  simp [mkC, h]
theorem mkC_succ (k : Int) (n : Nat) : mkC k (n + 1) = mkC k n ++ [(k + 3 * (n : Int), k + 3 * (n : Int) + 1, k + 3 * (n : Int) + 1 + 1)] := by
  simp [mkC, List.range_succ]

theorem all_take_succ {cs : List C3} {k : Nat} {c : C3} (h : cs[k]? = some c) (h1 : (cs.take k).all cellOk = true) (h2 : cellOk c = true) : (cs.take (k + 1)).all cellOk = true := by
  have hk := (List.getElem?_eq_some_iff.1 h)
  rw [List.take_add_one, List.all_append, h1, h]
  simp [h2]
theorem fault_bad {cs : List C3} {k : Nat} {c : C3} (hn : cs.length ≤ 2000) (h : cs[k]? = some c) (h2 : cellOk c = false) : cellsFault cs = 3 := by
  unfold cellsFault
  rw [if_neg (by omega), if_neg]
  intro hall
  have := List.all_eq_true.1 hall c (List.mem_of_getElem? h)
  rw [h2] at this
  cases this
theorem fault_ok {cs : List C3} {n : Nat} (hl : cs.length ≤ n) (hn : cs.length ≤ 2000) (h : (cs.take n).all cellOk = true) : cellsFault cs = 0 := by
  unfold cellsFault
  rw [List.take_of_length_le hl] at h
  rw [if_neg (by omega), if_pos h]
theorem fault_many {cs : List C3} (hn : 2000 < cs.length) : cellsFault cs = 2 := by
  unfold cellsFault
  rw [if_pos hn]
end Go.Proofs.Ytocophekfbhfbaa

namespace Go.Proofs.Ytocophekfbhfbaa
open Go.RowKit
set_option linter.unusedVariables false

theorem cellE_at (c : C3) : (cellE c)[0]? = some (.int .i64 c.1) ∧ (cellE c)[1]? = some (.int .i64 c.2.1) ∧ (cellE c)[2]? = some (.int .i64 c.2.2) := ⟨rfl, rfl, rfl⟩

/-- The three cells of an element. -/
theorem three {w : World} {b off : Nat} {c : C3} (h : ∀ f v, (cellE c)[f]? = some v → w.cell? ⟨b, off + f, none⟩ = some v) :
    w.cell? ⟨b, off, none⟩ = some (.int .i64 c.1) ∧ w.cell? ⟨b, off + 1, none⟩ = some (.int .i64 c.2.1) ∧ w.cell? ⟨b, off + 2, none⟩ = some (.int .i64 c.2.2) :=
  ⟨h 0 _ rfl, h 1 _ rfl, h 2 _ rfl⟩

end Go.Proofs.Ytocophekfbhfbaa

namespace Go.Proofs.Ytocophekfbhfbaa
open Go.RowKit
set_option linter.unusedVariables false

theorem madeC (n : Nat) : (madeCells #[Value.int .i64 0, .int .i64 0, .int .i64 0] (n * 3)).toList = (List.replicate n ((0, 0, 0) : C3)).flatMap cellE := by
  apply List.ext_getElem?
  intro j
  by_cases hj : j < n * 3
  · have e1 : j / 3 < n := by omega
    have h := getElem?_flatMap cellE 3 cellE_len (List.replicate n ((0, 0, 0) : C3)) (j / 3) (j % 3) (0, 0, 0) (by simp [e1]) (by omega)
    rw [show j / 3 * 3 + j % 3 = j by omega] at h
    rw [h]
    have : j % 3 = 0 ∨ j % 3 = 1 ∨ j % 3 = 2 := by omega
    rcases this with h | h | h <;> simp [madeCells, hj, h, cellE]
  · have h2 := length_flatMap' cellE 3 cellE_len (List.replicate n ((0, 0, 0) : C3))
    rw [List.getElem?_eq_none (by simp [madeCells]; omega), List.getElem?_eq_none (by rw [h2]; simp; omega)]

/-- The element k of a list that is copied. -/
theorem copyC_set (cs : List C3) (n k : Nat) (c : C3) (h : cs.length = n) (hk : cs[k]? = some c) :
    (cs.take k ++ List.replicate (n - k) ((0, 0, 0) : C3)).set k c = cs.take (k + 1) ++ List.replicate (n - (k + 1)) (0, 0, 0) := by
  have hk' := (List.getElem?_eq_some_iff.1 hk).1
  obtain ⟨d, hd⟩ : ∃ d, n - k = d + 1 := ⟨n - k - 1, by omega⟩
  rw [hd, List.replicate_succ, set_mid _ _ (by simp; omega), List.take_add_one, hk, show n - (k + 1) = d by omega]
  simp

theorem grown_trans' {w1 w2 w3 : World} {row : Option Nat} (h : w1.grownBy w2 row) (k : w2.grownBy w3 row) : w1.grownBy w3 row :=
  ⟨k.os.trans h.os, k.tape.trans h.tape, k.output.trans h.output, Nat.le_trans h.size k.size, fun i hi hr => (k.block i (Nat.lt_of_lt_of_le hi h.size) hr).trans (h.block i hi hr)⟩

/-- A whole cell is stored. -/
theorem store3 {e : TypeId} {w : World} {base g n cap j : Nat} {xs : List C3} {c : C3} (h : OwnR cellE 3 e w base (.slice (some ⟨g, 0, none⟩) n cap) n xs) (hx : xs[j]? = some c) (x y z : Int) :
    OwnR cellE 3 e (((w.setCell ⟨g, j * 3, none⟩ (.int .i64 x)).setCell ⟨g, j * 3 + 1, none⟩ (.int .i64 y)).setCell ⟨g, j * 3 + 2, none⟩ (.int .i64 z)) base (.slice (some ⟨g, 0, none⟩) n cap) n (xs.set j (x, y, z)) ∧
    w.grownBy (((w.setCell ⟨g, j * 3, none⟩ (.int .i64 x)).setCell ⟨g, j * 3 + 1, none⟩ (.int .i64 y)).setCell ⟨g, j * 3 + 2, none⟩ (.int .i64 z)) (some g) := by
  have hj : j < xs.length := (List.getElem?_eq_some_iff.1 hx).1
  have s0 := OwnR.store (f := 0) (u := .int .i64 x) (y := (x, c.2.1, c.2.2)) cellE_len h hx (by omega) rfl
  have x1 : (xs.set j (x, c.2.1, c.2.2))[j]? = some (x, c.2.1, c.2.2) := by simp [hj]
  have s1 := OwnR.store (f := 1) (u := .int .i64 y) (y := (x, y, c.2.2)) cellE_len s0.1 x1 (by omega) rfl
  have x2 : ((xs.set j (x, c.2.1, c.2.2)).set j (x, y, c.2.2))[j]? = some (x, y, c.2.2) := by simp [hj]
  have s2 := OwnR.store (f := 2) (u := .int .i64 z) (y := (x, y, z)) cellE_len s1.1 x2 (by omega) rfl
  rw [List.set_set, List.set_set] at s2
  exact ⟨s2.1, grown_trans' (grown_trans' s0.2 s1.2) s2.2⟩

theorem markC_set (cs : List C3) (x0 : Int) (n k : Nat) (h : cs.length = n) (hk : k < n) (c : C3) :
    ((mkC x0 k ++ cs.drop k).set k (x0 + 3 * (k : Int), x0 + 3 * (k : Int) + 1, x0 + 3 * (k : Int) + 1 + 1)) = mkC x0 (k + 1) ++ cs.drop (k + 1) := by
  rw [List.drop_eq_getElem_cons (show k < cs.length by omega), set_mid _ _ (mkC_len _ _), mkC_succ]

end Go.Proofs.Ytocophekfbhfbaa