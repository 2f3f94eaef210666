/-
  Hlp2, HlpF, HlpI in one text.
-/
import Derived.Test.YtjgmkcmlkffjlaaHlp1
import Derived.Test.YtjgmkcmlkffjlaaChg
import Derived.Test.YtjgmkcmlkffjlaaRows
namespace Go.Proofs.Ytjgmkcmlkffjlaa
open Go.RowKit

end Go.Proofs.Ytjgmkcmlkffjlaa

namespace Go.Proofs.Ytjgmkcmlkffjlaa
open Go.RowKit
set_option linter.unusedVariables false

theorem szByteS_yes (a : Option Addr) (n ca : Nat) (L : Int) (w : World) (h : (n : Int) ≤ L) (hL : L ≤ 1048576) :
    Calls Try.prog 51 #[.slice a n ca, .int .i64 L] w fun e w' => e = .returned (.int .i64 (L - n)) ∧ w' = w := by
  go_enter Try.func51, Try.ntmps51
  go_wp2
  go_ret
  exact ⟨rfl, rfl⟩

theorem szByteS_no (a : Option Addr) (n ca : Nat) (L : Int) (w : World) (h : ¬ (n : Int) ≤ L) (hn : n ≤ maxLen) (h0 : 0 ≤ L) (hL : L ≤ 1048576) :
    Calls Try.prog 51 #[.slice a n ca, .int .i64 L] w fun e w' => e = .returned (.int .i64 (-1)) ∧ w' = w := by
  unfold maxLen at hn
  have h' : L - (n : Int) < 0 := by omega
  go_enter Try.func51, Try.ntmps51
  go_wp2
  go_ret
  exact ⟨rfl, rfl⟩

theorem szFile_yes (a : Option Addr) (n ca : Nat) (L : Int) (w : World) (h : (n : Int) ≤ L) (hL : L ≤ 1048576) :
    Calls Try.prog 16 #[.agg #[.slice a n ca], .int .i64 L] w fun e w' => e = .returned (.int .i64 (L - n)) ∧ Below w.heap.size w w' := by
  go_enter Try.func16, Try.ntmps16
  go_wp2_with fail
  refine (szByteS_yes a n ca L _ h hL).mono ?_
  rintro e w1 ⟨rfl, rfl⟩
  have h' : ¬ L - (n : Int) < 0 := by omega
  go_wp2
  go_ret
  exact ⟨rfl, (Below.refl _ _).alloc (Nat.le_refl _) _⟩

theorem szFile_no (a : Option Addr) (n ca : Nat) (L : Int) (w : World) (h : ¬ (n : Int) ≤ L) (hn : n ≤ maxLen) (h0 : 0 ≤ L) (hL : L ≤ 1048576) :
    Calls Try.prog 16 #[.agg #[.slice a n ca], .int .i64 L] w fun e w' => e = .returned (.int .i64 (-1)) ∧ Below w.heap.size w w' := by
  go_enter Try.func16, Try.ntmps16
  go_wp2_with fail
  refine (szByteS_no a n ca L _ (by omega) hn h0 hL).mono ?_
  rintro e w1 ⟨rfl, rfl⟩
  go_wp2
  go_ret
  exact ⟨rfl, (Below.refl _ _).alloc (Nat.le_refl _) _⟩

set_option maxHeartbeats 400000 in
theorem toFile_any (a : Option Addr) (n ca : Nat) (xs : List Int) (w : World) (ha : Rd .u8 w a n xs) (h1 : n ≤ 1073741824) :
    Calls Try.prog 18 #[.agg #[.slice a n ca]] w fun e w' => ∃ v, e = .returned (.agg #[v]) ∧ RowI .u8 5 w' w.heap.size w'.heap.size v n xs ∧ Below w.heap.size w w' := by
  have B3 : ∀ o1 o2 o3, Below w.heap.size w (((w.alloc o1).alloc o2).alloc o3) := fun o1 o2 o3 => (((Below.refl _ _).alloc (Nat.le_refl _) o1).alloc (by simp) o2).alloc (by simp; omega) o3
  go_enter Try.func18, Try.ntmps18
  go_wp2_with fail
  refine (toByteS_any a n ca xs _ (ha.below (B3 _ _ _)) h1).mono ?_
  rintro e w1 ⟨v1, rfl, ho1, hb1⟩
  obtain ⟨a1, c1, hv1, _⟩ := ho1.rdc
  subst hv1
  have hb01 := (B3 _ _ _).trans (hb1.mono (by simp; omega))
  have d0 : w1.cell? ⟨w.heap.size + 1 + 1, 0, none⟩ = some (.slice none 0 0) := cell_later hb1 (by simp [go_sem])
  have d1 : w1.cell? ⟨w.heap.size + 1, 0, none⟩ = some (.slice none 0 0) := cell_later hb1 (by simp [go_sem])
  have z1 : w.heap.size + 1 + 1 < w1.heap.size := by have := hb1.size; simp at this; omega
  have f0 : w1.frozen? ⟨w.heap.size + 1 + 1, 0, none⟩ = false := (hb1.frozen (p := ⟨w.heap.size + 1 + 1, 0, none⟩) (by simp)).trans (by simp [go_sem])
  have f1 : w1.frozen? ⟨w.heap.size + 1, 0, none⟩ = false := (hb1.frozen (p := ⟨w.heap.size + 1, 0, none⟩) (by simp)).trans (by simp [go_sem])
  go_wp2
  refine bodyPost_ret (v := .agg #[.slice a1 n c1]) (by simp [results, Try.results18, go_sem, d1]) rfl ⟨_, rfl, ?_, ?_⟩
  · exact RowI.mono (RowI.of ((ho1.setBelow (by simp) _).setBelow (by simp) _)) (by simp; omega) (Nat.le_refl _)
  · exact (hb01.setCell (by simp; omega) _).setCell (by simp) _

set_option maxHeartbeats 400000 in
theorem eqFile_yes (a b : Option Addr) (n ca cb : Nat) (xs : List Int) (w : World) (ha : Rd .u8 w a n xs) (hb : Rd .u8 w b n xs) (h1 : n ≤ maxLen) :
    Calls Try.prog 21 #[.agg #[.slice a n ca], .agg #[.slice b n cb]] w fun e w' => e = .returned (.bool true) ∧ Below w.heap.size w w' := by
  have B2 : ∀ o1 o2, Below w.heap.size w ((w.alloc o1).alloc o2) := fun o1 o2 => ((Below.refl _ _).alloc (Nat.le_refl _) o1).alloc (by simp) o2
  go_enter Try.func21, Try.ntmps21
  go_wp2_with fail
  refine (eqByteS_any a b n n ca cb xs xs _ (ha.below (B2 _ _)) (hb.below (B2 _ _)) h1 h1).mono ?_
  rintro e w1 ⟨rfl, q, rfl⟩
  have e1 : decide (xs = xs) = true := by simp
  rw [e1]
  clear e1
  go_wp2
  go_ret
  exact ⟨rfl, below_drewN (B2 _ _) q⟩

theorem eqByteS_yes (a b : Option Addr) (n ca cb : Nat) (xs : List Int) (w : World) (ha : Rd .u8 w a n xs) (hb : Rd .u8 w b n xs) (h1 : n ≤ maxLen) :
    Calls Try.prog 54 #[.slice a n ca, .slice b n cb] w fun e w' => e = .returned (.bool true) ∧ Below w.heap.size w w' :=
  (eqByteS_any a b n n ca cb xs xs w ha hb h1 h1).mono fun e w' ⟨he, q, hw⟩ => ⟨by rw [he]; simp, by rw [hw]; exact below_drewN (Below.refl _ _) q⟩

theorem toByteS_row (a : Option Addr) (n ca : Nat) (xs : List Int) (w : World) (ha : Rd .u8 w a n xs) (h1 : n ≤ 1073741824) :
    Calls Try.prog 53 #[.slice a n ca] w fun e w' => ∃ v, e = .returned v ∧ RowI .u8 5 w' w.heap.size w'.heap.size v n xs ∧ Below w.heap.size w w' :=
  (toByteS_any a n ca xs w ha h1).mono fun e w' ⟨v, he, ho, hb⟩ => ⟨v, he, RowI.of ho, hb⟩

theorem chg_alloc {lo hi : Nat} {w w' : World} {o : Obj} (h : Chg lo hi (w.alloc o) w') : Chg lo hi w w' :=
  (Chg.of_below ((Below.refl _ _).alloc (Nat.le_refl _) o)).trans h

end Go.Proofs.Ytjgmkcmlkffjlaa

namespace Go.Proofs.Ytjgmkcmlkffjlaa
open Go.RowKit
set_option linter.unusedVariables false

/-- Integers that count on from k. -/
def mkI (k : Int) (n : Nat) : List Int := (List.range n).map fun (i : Nat) => k + (i : Int)

theorem mkI_len (k : Int) (n : Nat) : (mkI k n).length = n := by simp [mkI]

theorem mkI_getD (k : Int) (n j : Nat) (h : j < n) : (mkI k n).getD j 0 = k + (j : Int) := by
  simp [mkI, List.getD_eq_getElem?_getD, h]

theorem mkI_succ (k : Int) (n : Nat) : mkI k (n + 1) = mkI k n ++ [k + (n : Int)] := by
  simp [mkI, List.range_succ]

set_option maxHeartbeats 400000 in
theorem eqInt64S_any (a b : Option Addr) (n m ca cb : Nat) (xs ys : List Int) (w : World) (ha : Rd .i64 w a n xs) (hb : Rd .i64 w b m ys) (h1 : n ≤ maxLen) (h2 : m ≤ maxLen) :
    Calls Try.prog 72 #[.slice a n ca, .slice b m cb] w fun e w' => e = .returned (.bool (decide (xs = ys))) ∧ ∃ q, w' = w.drewN q := by
  unfold maxLen at h1 h2
  by_cases hl : n = m
  · subst hl
    go_enter Try.func72, Try.ntmps72
    go_wp2
    go_loopw [5] (fun i wr => ∃ k q : Nat, k ≤ n ∧ i = .int .i64 k ∧ wr = w.drewN q ∧ xs.take k = ys.take k) (fun i _ => n - (intOf i).toNat)
    case atStart => exact ⟨0, 0, Nat.zero_le _, rfl, rfl, rfl⟩
    case round =>
      obtain ⟨k, q, hk, rfl, rfl, hx⟩ := hrel
      have HX : Hid (xs.take k = ys.take k) := hx
      clear hx
      by_cases hlt : k < n
      · obtain ⟨b1, o1, rfl, hc1⟩ := ha.at hlt
        obtain ⟨b2, o2, rfl, hc2⟩ := hb.at hlt
        have hk1 := hc1 k hlt
        have hk2 := hc2 k hlt
        clear hc1 hc2
        have hlt' : (k : Int) < (n : Int) := by omega
        go_wp2
        go_quiet (fail)
        go_wp2
        · go_ret
          exact ⟨ret_bool (eq_stop (by assumption)), _, World.drewN_drewN _ _ _⟩
        · go_roundw
          case rel => exact ⟨k + 1, _, by omega, by go_num, rfl, eq_step ha.1 hb.1 hlt HX.out (by assumption)⟩
          case measure => simp [intOf]; omega
      · go_wp2
        go_ret
        exact ⟨ret_bool (eq_end ha.1 hb.1 (by omega) HX.out), q, rfl⟩
  · go_enter Try.func72, Try.ntmps72
    go_wp2
    go_ret
    refine ⟨ret_bool ?_, 0, rfl⟩
    have : ¬ xs = ys := fun e => hl (by rw [← ha.1, ← hb.1, e])
    simp [this]

theorem mkI_set (xs : List Int) (x0 : Int) (n k : Nat) (h : xs.length = n) (hk : k < n) :
    ((mkI x0 k ++ xs.drop k).map (Value.int .i64)).set k (Value.int .i64 (x0 + (k : Int))) = (mkI x0 (k + 1) ++ xs.drop (k + 1)).map (Value.int .i64) := by
  rw [List.drop_eq_getElem_cons (show k < xs.length by omega), List.map_append, List.map_cons, set_mid _ _ (by simp [mkI_len]), mkI_succ]
  simp

theorem info64 : (Try.prog.info? 2).map (fun i => (i.zero, i.size, i.bytes)) = some (some (.int .i64 0), 1, 8) := by kernel_rfl

theorem copyI_set (xs : List Int) (n k : Nat) (h : xs.length = n) (hk : k < n) :
    ((xs.take k ++ List.replicate (n - k) 0).map (Value.int .i64)).set k (Value.int .i64 (xs.getD k 0)) = (xs.take (k + 1) ++ List.replicate (n - (k + 1)) 0).map (Value.int .i64) := by
  obtain ⟨d, hd⟩ : ∃ d, n - k = d + 1 := ⟨n - k - 1, by omega⟩
  have hk' : k < xs.length := by omega
  have e : xs.take (k + 1) = xs.take k ++ [xs.getD k 0] := by
    rw [List.take_succ_eq_append_getElem hk', List.getD_eq_getElem?_getD, List.getElem?_eq_getElem hk', Option.getD_some]
  rw [hd, List.replicate_succ, List.map_append, List.map_cons, set_mid _ _ (by simp; omega), e, show n - (k + 1) = d by omega, List.map_append, List.map_append]
  rfl

set_option maxHeartbeats 400000 in
theorem toInt64S_any (a : Option Addr) (n ca : Nat) (xs : List Int) (w : World) (ha : Rd .i64 w a n xs) (h1 : n ≤ 1073741824) :
    Calls Try.prog 67 #[.slice a n ca] w fun e w' => ∃ v, e = .returned v ∧ Own .i64 2 w' w.heap.size v n xs ∧ Below w.heap.size w w' := by
  obtain ⟨i0, hi, hz0, hz1, hz2⟩ := info_parts info64
  have hlen := ha.1
  go_enter Try.func67, Try.ntmps67
  go_wp2_with (at_make; refine wpList_make_full _ rfl _ _ 65 rfl w.heap.size 2 i0 (.int .i64 0) 1 Try.underlying65 hi hz0 hz1 _ _ _ _ n rfl rfl rfl rfl (by rw [hz2]; omega) (by unfold maxLen; omega) (Nat.le_refl _) ?_)
  intro w1 hown1 hgrow1
  have ho1 : Own .i64 2 w1 w.heap.size (.slice (some ⟨w.heap.size, 0, none⟩) n n) n (List.replicate n 0) := by
    unfold Own
    rw [List.map_replicate, ← toList_madeCells_one]
    exact hown1
  have hb1 : Below w.heap.size w w1 := (Below.refl _ _).grown hgrow1 (Nat.le_refl _) (by simp)
  clear hown1 hgrow1
  go_wp2
  go_loopw [4] (fun i wr => ∃ k : Nat, k ≤ n ∧ i = .int .i64 k ∧ Own .i64 2 wr w.heap.size (.slice (some ⟨w.heap.size, 0, none⟩) n n) n (xs.take k ++ List.replicate (n - k) 0) ∧ Below w.heap.size w wr) (fun i _ => n - (intOf i).toNat)
  case atStart => exact ⟨0, Nat.zero_le _, rfl, by simpa using ho1, hb1⟩
  case round =>
    obtain ⟨k, hk, rfl, ho, hb⟩ := hrel
    by_cases hlt : k < n
    · obtain ⟨b1, o1, rfl, hc1⟩ := ha.at hlt
      have hk1 := cell_later hb (hc1 k hlt)
      have hf := World.ownsRow.frozenAt ho k
      have hst := World.ownsRow.stored ho k (Value.int .i64 (xs.getD k 0))
      rw [copyI_set xs n k hlen hlt] at hst
      have hcell := ho.cell hlt
      generalize xs.getD k 0 = x at hk1 hst
      have HS : Hid _ := hst
      clear hst ho hc1
      have hlt' : (k : Int) < (n : Int) := by omega
      go_wp2
      go_roundw
      case rel => exact ⟨k + 1, by omega, by go_num, HS.out.1, hb.setCell (Nat.le_refl _) _⟩
      case measure => simp [intOf]; omega
    · go_wp2
      go_ret
      obtain rfl : k = n := by omega
      refine ⟨_, rfl, ?_, hb⟩
      rw [List.take_of_length_le (by omega), Nat.sub_self, List.replicate_zero, List.append_nil] at ho
      exact ho

theorem szInt64S_yes (a : Option Addr) (n ca : Nat) (L : Int) (w : World) (h : (n : Int) ≤ L) (hL : L ≤ 1048576) :
    Calls Try.prog 64 #[.slice a n ca, .int .i64 L] w fun e w' => e = .returned (.int .i64 (L - n)) ∧ w' = w := by
  go_enter Try.func64, Try.ntmps64
  go_wp2
  go_ret
  exact ⟨rfl, rfl⟩

theorem szInt64S_no (a : Option Addr) (n ca : Nat) (L : Int) (w : World) (h : ¬ (n : Int) ≤ L) (hn : n ≤ maxLen) (h0 : 0 ≤ L) (hL : L ≤ 1048576) :
    Calls Try.prog 64 #[.slice a n ca, .int .i64 L] w fun e w' => e = .returned (.int .i64 (-1)) ∧ w' = w := by
  unfold maxLen at hn
  have h' : L - (n : Int) < 0 := by omega
  go_enter Try.func64, Try.ntmps64
  go_wp2
  go_ret
  exact ⟨rfl, rfl⟩

theorem eqInt64S_yes (a b : Option Addr) (n ca cb : Nat) (xs : List Int) (w : World) (ha : Rd .i64 w a n xs) (hb : Rd .i64 w b n xs) (h1 : n ≤ maxLen) :
    Calls Try.prog 72 #[.slice a n ca, .slice b n cb] w fun e w' => e = .returned (.bool true) ∧ Below w.heap.size w w' :=
  (eqInt64S_any a b n n ca cb xs xs w ha hb h1 h1).mono fun e w' ⟨he, q, hw⟩ => ⟨by rw [he]; simp, by rw [hw]; exact below_drewN (Below.refl _ _) q⟩

theorem toInt64S_row (a : Option Addr) (n ca : Nat) (xs : List Int) (w : World) (ha : Rd .i64 w a n xs) (h1 : n ≤ 1073741824) :
    Calls Try.prog 67 #[.slice a n ca] w fun e w' => ∃ v, e = .returned v ∧ RowI .i64 2 w' w.heap.size w'.heap.size v n xs ∧ Below w.heap.size w w' :=
  (toInt64S_any a n ca xs w ha h1).mono fun e w' ⟨v, he, ho, hb⟩ => ⟨v, he, RowI.of ho, hb⟩

end Go.Proofs.Ytjgmkcmlkffjlaa