/-
  Contracts of the helpers of the exact laws over byte slices.
-/
import Derived.Test.YtocophekfbhfbaaRows
import Derived.Test.YtocophekfbhfbaaBase
namespace Go.Proofs.Ytocophekfbhfbaa
open Go.RowKit

theorem eq_step {xs ys : List Int} {n k : Nat} (h1 : xs.length = n) (h2 : ys.length = n) (hk : k < n) (h : xs.take k = ys.take k) (he : (xs[k]?.getD 0 != ys[k]?.getD 0) = false) :
    xs.take (k + 1) = ys.take (k + 1) := by
  have h3 : k < xs.length := by omega
  have h4 : k < ys.length := by omega
  have e1 := List.take_succ_eq_append_getElem h3
  have e2 := List.take_succ_eq_append_getElem h4
  rw [e1, e2, h]
  simp [h3, h4] at he
  rw [he]

theorem eq_stop {xs ys : List Int} {k : Nat} (h : (xs[k]?.getD 0 != ys[k]?.getD 0) = true) : false = decide (xs = ys) := by
  symm
  simp only [decide_eq_false_iff_not]
  intro e
  simp [e] at h

theorem eq_end {xs ys : List Int} {n k : Nat} (h1 : xs.length = n) (h2 : ys.length = n) (hk : n ≤ k) (h : xs.take k = ys.take k) : true = decide (xs = ys) := by
  rw [List.take_of_length_le (by omega), List.take_of_length_le (by omega)] at h
  simpa using h

theorem grownBy_trans {w1 w2 w3 : World} {row : Option Nat} (h : w1.grownBy w2 row) (k : w2.grownBy w3 row) : w1.grownBy w3 row :=
  ⟨k.os.trans h.os, k.tape.trans h.tape, k.output.trans h.output, Nat.le_trans h.size k.size, fun i hi hr => (k.block i (Nat.lt_of_lt_of_le hi h.size) hr).trans (h.block i hi hr)⟩

theorem mkB_set (xs : List Int) (x0 : Int) (n k : Nat) (h : xs.length = n) (hk : k < n) :
    ((mkB x0 k ++ xs.drop k).map (Value.int .u8)).set k (Value.int .u8 ((x0 + (k : Int)) % 256)) = (mkB x0 (k + 1) ++ xs.drop (k + 1)).map (Value.int .u8) := by
  rw [List.drop_eq_getElem_cons (show k < xs.length by omega), List.map_append, List.map_cons, set_mid _ _ (by simp [mkB_len]), mkB_succ]
  simp

theorem info8 : (Try.prog.info? 5).map (fun i => (i.zero, i.size, i.bytes)) = some (some (.int .u8 0), 1, 1) := by kernel_rfl

theorem copy_set (xs : List Int) (n k : Nat) (h : xs.length = n) (hk : k < n) :
    ((xs.take k ++ List.replicate (n - k) 0).map (Value.int .u8)).set k (Value.int .u8 (xs.getD k 0)) = (xs.take (k + 1) ++ List.replicate (n - (k + 1)) 0).map (Value.int .u8) := by
  obtain ⟨d, hd⟩ : ∃ d, n - k = d + 1 := ⟨n - k - 1, by omega⟩
  have hk' : k < xs.length := by omega
  have e : xs.take (k + 1) = xs.take k ++ [xs.getD k 0] := by
    rw [List.take_succ_eq_append_getElem hk', List.getD_eq_getElem?_getD, List.getElem?_eq_getElem hk', Option.getD_some]
  rw [hd, List.replicate_succ, List.map_append, List.map_cons, set_mid _ _ (by simp; omega), e, show n - (k + 1) = d by omega, List.map_append, List.map_append]
  rfl

end Go.Proofs.Ytocophekfbhfbaa