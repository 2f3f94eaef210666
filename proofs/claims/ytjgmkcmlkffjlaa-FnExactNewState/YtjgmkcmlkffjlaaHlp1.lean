/-
  Contracts of the helpers of the exact laws over byte slices.
-/
import Derived.Test.YtjgmkcmlkffjlaaRows
import Derived.Test.YtjgmkcmlkffjlaaBase
namespace Go.Proofs.Ytjgmkcmlkffjlaa
open Go.RowKit

theorem eq_step {xs ys : List Int} {n k : Nat} (h1 : xs.length = n) (h2 : ys.length = n) (hk : k < n) (h : xs.take k = ys.take k) (he : (xs[k]?.getD 0 != ys[k]?.getD 0) = false) :
    xs.take (k + 1) = ys.take (k + 1) := by
  have h3 : k < xs.length := by omega
  have h4 : k < ys.length := by omega
  have e1 := List.take_succ_eq_append_getElem h3
  have e2 := List.take_succ_eq_append_getElem h4
  rw [e1, e2, h]
  simp [h3, h4] at he
  rw [he]

theorem eq_stop {xs ys : List Int} {k : Nat} (h : (xs[k]?.getD 0 != ys[k]?.getD 0) = true) : false = decide (xs = ys) := by
  symm
  simp only [decide_eq_false_iff_not]
  intro e
  simp [e] at h

theorem eq_end {xs ys : List Int} {n k : Nat} (h1 : xs.length = n) (h2 : ys.length = n) (hk : n ≤ k) (h : xs.take k = ys.take k) : true = decide (xs = ys) := by
  rw [List.take_of_length_le (by omega), List.take_of_length_le (by omega)] at h
  simpa using h

set_option maxHeartbeats 400000 in
theorem eqByteS_any (a b : Option Addr) (n m ca cb : Nat) (xs ys : List Int) (w : World) (ha : Rd .u8 w a n xs) (hb : Rd .u8 w b m ys) (h1 : n ≤ maxLen) (h2 : m ≤ maxLen) :
    Calls Try.prog 54 #[.slice a n ca, .slice b m cb] w fun e w' => e = .returned (.bool (decide (xs = ys))) ∧ ∃ q, w' = w.drewN q := by
  unfold maxLen at h1 h2
  by_cases hl : n = m
  · subst hl
    go_enter Try.func54, Try.ntmps54
    go_wp2
    go_loopw [5] (fun i wr => ∃ k q : Nat, k ≤ n ∧ i = .int .i64 k ∧ wr = w.drewN q ∧ xs.take k = ys.take k) (fun i _ => n - (intOf i).toNat)
    case atStart => exact ⟨0, 0, Nat.zero_le _, rfl, rfl, rfl⟩
    case round =>
      obtain ⟨k, q, hk, rfl, rfl, hx⟩ := hrel
      have HX : Hid (xs.take k = ys.take k) := hx
      clear hx
      by_cases hlt : k < n
      · obtain ⟨b1, o1, rfl, hc1⟩ := ha.at hlt
        obtain ⟨b2, o2, rfl, hc2⟩ := hb.at hlt
        have hk1 := hc1 k hlt
        have hk2 := hc2 k hlt
        clear hc1 hc2
        have hlt' : (k : Int) < (n : Int) := by omega
        go_wp2
        go_quiet (fail)
        go_wp2
        · go_ret
          exact ⟨ret_bool (eq_stop (by assumption)), _, World.drewN_drewN _ _ _⟩
        · go_roundw
          case rel => exact ⟨k + 1, _, by omega, by go_num, rfl, eq_step ha.1 hb.1 hlt HX.out (by assumption)⟩
          case measure => simp [intOf]; omega
      · go_wp2
        go_ret
        exact ⟨ret_bool (eq_end ha.1 hb.1 (by omega) HX.out), q, rfl⟩
  · go_enter Try.func54, Try.ntmps54
    go_wp2
    go_ret
    refine ⟨ret_bool ?_, 0, rfl⟩
    have : ¬ xs = ys := fun e => hl (by rw [← ha.1, ← hb.1, e])
    simp [this]

theorem grownBy_trans {w1 w2 w3 : World} {row : Option Nat} (h : w1.grownBy w2 row) (k : w2.grownBy w3 row) : w1.grownBy w3 row :=
  ⟨k.os.trans h.os, k.tape.trans h.tape, k.output.trans h.output, Nat.le_trans h.size k.size, fun i hi hr => (k.block i (Nat.lt_of_lt_of_le hi h.size) hr).trans (h.block i hi hr)⟩

theorem mkB_set (xs : List Int) (x0 : Int) (n k : Nat) (h : xs.length = n) (hk : k < n) :
    ((mkB x0 k ++ xs.drop k).map (Value.int .u8)).set k (Value.int .u8 ((x0 + (k : Int)) % 256)) = (mkB x0 (k + 1) ++ xs.drop (k + 1)).map (Value.int .u8) := by
  rw [List.drop_eq_getElem_cons (show k < xs.length by omega), List.map_append, List.map_cons, set_mid _ _ (by simp [mkB_len]), mkB_succ]
  simp

theorem info8 : (Try.prog.info? 5).map (fun i => (i.zero, i.size, i.bytes)) = some (some (.int .u8 0), 1, 1) := by kernel_rfl

theorem copy_set (xs : List Int) (n k : Nat) (h : xs.length = n) (hk : k < n) :
    ((xs.take k ++ List.replicate (n - k) 0).map (Value.int .u8)).set k (Value.int .u8 (xs.getD k 0)) = (xs.take (k + 1) ++ List.replicate (n - (k + 1)) 0).map (Value.int .u8) := by
  obtain ⟨d, hd⟩ : ∃ d, n - k = d + 1 := ⟨n - k - 1, by omega⟩
  have hk' : k < xs.length := by omega
  have e : xs.take (k + 1) = xs.take k ++ [xs.getD k 0] := by
    rw [List.take_succ_eq_append_getElem hk', List.getD_eq_getElem?_getD, List.getElem?_eq_getElem hk', Option.getD_some]
  rw [hd, List.replicate_succ, List.map_append, List.map_cons, set_mid _ _ (by simp; omega), e, show n - (k + 1) = d by omega, List.map_append, List.map_append]
  rfl

set_option maxHeartbeats 400000 in
theorem toByteS_any (a : Option Addr) (n ca : Nat) (xs : List Int) (w : World) (ha : Rd .u8 w a n xs) (h1 : n ≤ 1073741824) :
    Calls Try.prog 53 #[.slice a n ca] w fun e w' => ∃ v, e = .returned v ∧ Own .u8 5 w' w.heap.size v n xs ∧ Below w.heap.size w w' := by
  obtain ⟨i0, hi, hz0, hz1, hz2⟩ := info_parts info8
  have hlen := ha.1
  go_enter Try.func53, Try.ntmps53
  go_wp2_with (at_make; refine wpList_make_full _ rfl _ _ 22 rfl w.heap.size 5 i0 (.int .u8 0) 1 Try.underlying22 hi hz0 hz1 _ _ _ _ n rfl rfl rfl rfl (by rw [hz2]; omega) (by unfold maxLen; omega) (Nat.le_refl _) ?_)
  intro w1 hown1 hgrow1
  have ho1 : Own .u8 5 w1 w.heap.size (.slice (some ⟨w.heap.size, 0, none⟩) n n) n (List.replicate n 0) := by
    unfold Own
    rw [List.map_replicate, ← toList_madeCells_one]
    exact hown1
  have hb1 : Below w.heap.size w w1 := (Below.refl _ _).grown hgrow1 (Nat.le_refl _) (by simp)
  clear hown1 hgrow1
  go_wp2
  go_loopw [4] (fun i wr => ∃ k : Nat, k ≤ n ∧ i = .int .i64 k ∧ Own .u8 5 wr w.heap.size (.slice (some ⟨w.heap.size, 0, none⟩) n n) n (xs.take k ++ List.replicate (n - k) 0) ∧ Below w.heap.size w wr) (fun i _ => n - (intOf i).toNat)
  case atStart => exact ⟨0, Nat.zero_le _, rfl, by simpa using ho1, hb1⟩
  case round =>
    obtain ⟨k, hk, rfl, ho, hb⟩ := hrel
    by_cases hlt : k < n
    · obtain ⟨b1, o1, rfl, hc1⟩ := ha.at hlt
      have hk1 := cell_later hb (hc1 k hlt)
      have hf := World.ownsRow.frozenAt ho k
      have hst := World.ownsRow.stored ho k (Value.int .u8 (xs.getD k 0))
      rw [copy_set xs n k hlen hlt] at hst
      have hcell := ho.cell hlt
      generalize xs.getD k 0 = x at hk1 hst
      have HS : Hid _ := hst
      clear hst ho hc1
      have hlt' : (k : Int) < (n : Int) := by omega
      go_wp2
      go_roundw
      case rel => exact ⟨k + 1, by omega, by go_num, HS.out.1, hb.setCell (Nat.le_refl _) _⟩
      case measure => simp [intOf]; omega
    · go_wp2
      go_ret
      obtain rfl : k = n := by omega
      refine ⟨_, rfl, ?_, hb⟩
      rw [List.take_of_length_le (by omega), Nat.sub_self, List.replicate_zero, List.append_nil] at ho
      exact ho
end Go.Proofs.Ytjgmkcmlkffjlaa
