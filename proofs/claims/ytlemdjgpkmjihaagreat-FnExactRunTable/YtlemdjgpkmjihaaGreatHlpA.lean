/-
  Hlp2, HlpF, HlpI in one text.
-/
import Derived.Test.YtlemdjgpkmjihaaGreatHlp1
import Derived.Test.YtlemdjgpkmjihaaGreatChg
import Derived.Test.YtlemdjgpkmjihaaGreatRows
namespace Go.Proofs.YtlemdjgpkmjihaaGreat
open Go.RowKit

end Go.Proofs.YtlemdjgpkmjihaaGreat

namespace Go.Proofs.YtlemdjgpkmjihaaGreat
open Go.RowKit
set_option linter.unusedVariables false

theorem eqByteS_yes (a b : Option Addr) (n ca cb : Nat) (xs : List Int) (w : World) (ha : Rd .u8 w a n xs) (hb : Rd .u8 w b n xs) (h1 : n ≤ maxLen) :
    Calls Tryz.prog 21 #[.slice a n ca, .slice b n cb] w fun e w' => e = .returned (.bool true) ∧ Below w.heap.size w w' :=
  (eqByteS_any a b n n ca cb xs xs w ha hb h1 h1).mono fun e w' ⟨he, q, hw⟩ => ⟨by rw [he]; simp, by rw [hw]; exact below_drewN (Below.refl _ _) q⟩

theorem toByteS_row (a : Option Addr) (n ca : Nat) (xs : List Int) (w : World) (ha : Rd .u8 w a n xs) (h1 : n ≤ 1073741824) :
    Calls Tryz.prog 19 #[.slice a n ca] w fun e w' => ∃ v, e = .returned v ∧ RowI .u8 5 w' w.heap.size w'.heap.size v n xs ∧ Below w.heap.size w w' :=
  (toByteS_any a n ca xs w ha h1).mono fun e w' ⟨v, he, ho, hb⟩ => ⟨v, he, RowI.of ho, hb⟩

theorem markByteS_row (v : Value) (n lo hi : Nat) (xs : List Int) (x0 : Int) (w : World) (ho : RowI .u8 5 w lo hi v n xs) (h1 : n ≤ 1073741824) (h2 : 0 ≤ x0) (h3 : x0 ≤ 1073741824) :
    Calls Tryz.prog 22 #[v, .int .i64 x0] w fun e w' => e = .returned (.int .i64 (x0 + n)) ∧ RowI .u8 5 w' lo hi v n (mkB x0 n) ∧ Chg lo hi w w' :=
  (markByteS_own v n lo xs x0 w ho.1 h1 h2 h3).mono fun e w' ⟨he, h, hg⟩ => ⟨he, ⟨h, ho.2⟩, Chg.of_grown hg (fun j hj => ⟨(ho.1.lt j hj).1, ho.2 j hj⟩)⟩

theorem chg_alloc {lo hi : Nat} {w w' : World} {o : Obj} (h : Chg lo hi (w.alloc o) w') : Chg lo hi w w' :=
  (Chg.of_below ((Below.refl _ _).alloc (Nat.le_refl _) o)).trans h

end Go.Proofs.YtlemdjgpkmjihaaGreat

namespace Go.Proofs.YtlemdjgpkmjihaaGreat
open Go.RowKit
set_option linter.unusedVariables false

/-- Integers that count on from k. -/
def mkI (k : Int) (n : Nat) : List Int := (List.range n).map fun (i : Nat) => k + (i : Int)

theorem mkI_len (k : Int) (n : Nat) : (mkI k n).length = n := by simp [mkI]

theorem mkI_getD (k : Int) (n j : Nat) (h : j < n) : (mkI k n).getD j 0 = k + (j : Int) := by
  simp [mkI, List.getD_eq_getElem?_getD, h]

theorem mkI_succ (k : Int) (n : Nat) : mkI k (n + 1) = mkI k n ++ [k + (n : Int)] := by
  simp [mkI, List.range_succ]

set_option maxHeartbeats 400000 in
theorem eqInt64S_any (a b : Option Addr) (n m ca cb : Nat) (xs ys : List Int) (w : World) (ha : Rd .i64 w a n xs) (hb : Rd .i64 w b m ys) (h1 : n ≤ maxLen) (h2 : m ≤ maxLen) :
    Calls Tryz.prog 92 #[.slice a n ca, .slice b m cb] w fun e w' => e = .returned (.bool (decide (xs = ys))) ∧ ∃ q, w' = w.drewN q := by
  unfold maxLen at h1 h2
  by_cases hl : n = m
  · subst hl
    go_enter Tryz.func92, Tryz.ntmps92
    go_wp2
    go_loopw [5] (fun i wr => ∃ k q : Nat, k ≤ n ∧ i = .int .i64 k ∧ wr = w.drewN q ∧ xs.take k = ys.take k) (fun i _ => n - (intOf i).toNat)
    case atStart => exact ⟨0, 0, Nat.zero_le _, rfl, rfl, rfl⟩
    case round =>
      obtain ⟨k, q, hk, rfl, rfl, hx⟩ := hrel
      have HX : Hid (xs.take k = ys.take k) := hx
      clear hx
      by_cases hlt : k < n
      · obtain ⟨b1, o1, rfl, hc1⟩ := ha.at hlt
        obtain ⟨b2, o2, rfl, hc2⟩ := hb.at hlt
        have hk1 := hc1 k hlt
        have hk2 := hc2 k hlt
        clear hc1 hc2
        have hlt' : (k : Int) < (n : Int) := by omega
        go_wp2
        go_quiet (fail)
        go_wp2
        · go_ret
          exact ⟨ret_bool (eq_stop (by assumption)), _, World.drewN_drewN _ _ _⟩
        · go_roundw
          case rel => exact ⟨k + 1, _, by omega, by go_num, rfl, eq_step ha.1 hb.1 hlt HX.out (by assumption)⟩
          case measure => simp [intOf]; omega
      · go_wp2
        go_ret
        exact ⟨ret_bool (eq_end ha.1 hb.1 (by omega) HX.out), q, rfl⟩
  · go_enter Tryz.func92, Tryz.ntmps92
    go_wp2
    go_ret
    refine ⟨ret_bool ?_, 0, rfl⟩
    have : ¬ xs = ys := fun e => hl (by rw [← ha.1, ← hb.1, e])
    simp [this]

set_option maxHeartbeats 400000 in
theorem heldInt64S_yes (a : Option Addr) (n ca : Nat) (x0 : Int) (w : World) (ha : Rd .i64 w a n (mkI x0 n)) (h1 : n ≤ 1073741824) (h2 : 0 ≤ x0) (h3 : x0 ≤ 1073741824) :
    Calls Tryz.prog 94 #[.slice a n ca, .int .i64 x0] w fun e w' => e = .returned (.int .i64 (x0 + n)) ∧ w' = w := by
  go_enter Tryz.func94, Tryz.ntmps94
  go_wp2
  go_loop [1, 5] (fun x i => ∃ k : Nat, k ≤ n ∧ i = .int .i64 k ∧ x = .int .i64 (x0 + k)) (fun _ i => n - (intOf i).toNat)
  case atStart => exact ⟨0, Nat.zero_le _, rfl, by go_num⟩
  case round =>
    obtain ⟨k, hk, rfl, rfl⟩ := hrel
    by_cases hlt : k < n
    · obtain ⟨b1, o1, rfl, hc1⟩ := ha.at hlt
      have hk1 := hc1 k hlt
      rw [mkI_getD _ _ _ hlt] at hk1
      clear hc1
      have hlt' : (k : Int) < (n : Int) := by omega
      go_wp2
      go_round
      case rel => exact ⟨k + 1, by omega, by go_num, by go_num⟩
      case measure => simp [intOf]; omega
    · go_wp2
      go_ret
      obtain rfl : k = n := by omega
      exact ⟨rfl, rfl⟩

theorem mkI_set (xs : List Int) (x0 : Int) (n k : Nat) (h : xs.length = n) (hk : k < n) :
    ((mkI x0 k ++ xs.drop k).map (Value.int .i64)).set k (Value.int .i64 (x0 + (k : Int))) = (mkI x0 (k + 1) ++ xs.drop (k + 1)).map (Value.int .i64) := by
  rw [List.drop_eq_getElem_cons (show k < xs.length by omega), List.map_append, List.map_cons, set_mid _ _ (by simp [mkI_len]), mkI_succ]
  simp

set_option maxHeartbeats 400000 in
theorem markInt64S_own (v : Value) (n base : Nat) (xs : List Int) (x0 : Int) (w : World) (hown : Own .i64 2 w base v n xs) (h1 : n ≤ 1073741824) (h2 : 0 ≤ x0) (h3 : x0 ≤ 1073741824) :
    Calls Tryz.prog 71 #[v, .int .i64 x0] w fun e w' => e = .returned (.int .i64 (x0 + n)) ∧ Own .i64 2 w' base v n (mkI x0 n) ∧ w.grownBy w' v.ownBlock := by
  have hlen := hown.len
  rcases hown.2 with ⟨rfl, rfl⟩ | ⟨g, cap, cur, rfl, _⟩
  · go_enter Tryz.func71, Tryz.ntmps71
    go_wp2
    refine wp_loop_rounds 1 ?_
    rw [rounds_succ]
    go_wp2
    go_ret
    have hx : xs = [] := List.eq_nil_of_length_eq_zero hlen
    subst hx
    exact ⟨by simp, by simpa [mkI] using hown, World.grownBy.refl _ _⟩
  · go_enter Tryz.func71, Tryz.ntmps71
    go_wp2
    go_loopw [1, 5] (fun x i wr => ∃ k : Nat, k ≤ n ∧ i = .int .i64 k ∧ x = .int .i64 (x0 + k) ∧ Own .i64 2 wr base (.slice (some ⟨g, 0, none⟩) n cap) n (mkI x0 k ++ xs.drop k) ∧ w.grownBy wr (some g)) (fun _ i _ => n - (intOf i).toNat)
    case atStart => exact ⟨0, Nat.zero_le _, rfl, by go_num, by simpa [mkI] using hown, World.grownBy.refl _ _⟩
    case round =>
      obtain ⟨k, hk, rfl, rfl, ho, hg⟩ := hrel
      by_cases hlt : k < n
      · have hf := World.ownsRow.frozenAt ho k
        have hst := World.ownsRow.stored ho k (Value.int .i64 (x0 + (k : Int)))
        rw [mkI_set xs x0 n k hlen hlt] at hst
        have hcell := ho.cell hlt
        have HS : Hid _ := hst
        clear hst ho
        have hlt' : (k : Int) < (n : Int) := by omega
        go_wp2
        go_roundw
        case rel => exact ⟨k + 1, by omega, by go_num, by go_num, HS.out.1, grownBy_trans hg HS.out.2⟩
        case measure => simp [intOf]; omega
      · go_wp2
        go_ret
        obtain rfl : k = n := by omega
        refine ⟨rfl, ?_, hg⟩
        rw [List.drop_of_length_le (by omega), List.append_nil] at ho
        exact ho

theorem info64 : (Tryz.prog.info? 2).map (fun i => (i.zero, i.size, i.bytes)) = some (some (.int .i64 0), 1, 8) := by kernel_rfl

theorem copyI_set (xs : List Int) (n k : Nat) (h : xs.length = n) (hk : k < n) :
    ((xs.take k ++ List.replicate (n - k) 0).map (Value.int .i64)).set k (Value.int .i64 (xs.getD k 0)) = (xs.take (k + 1) ++ List.replicate (n - (k + 1)) 0).map (Value.int .i64) := by
  obtain ⟨d, hd⟩ : ∃ d, n - k = d + 1 := ⟨n - k - 1, by omega⟩
  have hk' : k < xs.length := by omega
  have e : xs.take (k + 1) = xs.take k ++ [xs.getD k 0] := by
    rw [List.take_succ_eq_append_getElem hk', List.getD_eq_getElem?_getD, List.getElem?_eq_getElem hk', Option.getD_some]
  rw [hd, List.replicate_succ, List.map_append, List.map_cons, set_mid _ _ (by simp; omega), e, show n - (k + 1) = d by omega, List.map_append, List.map_append]
  rfl

set_option maxHeartbeats 400000 in
theorem toInt64S_any (a : Option Addr) (n ca : Nat) (xs : List Int) (w : World) (ha : Rd .i64 w a n xs) (h1 : n ≤ 1073741824) :
    Calls Tryz.prog 84 #[.slice a n ca] w fun e w' => ∃ v, e = .returned v ∧ Own .i64 2 w' w.heap.size v n xs ∧ Below w.heap.size w w' := by
  obtain ⟨i0, hi, hz0, hz1, hz2⟩ := info_parts info64
  have hlen := ha.1
  go_enter Tryz.func84, Tryz.ntmps84
  go_wp2_with (at_make; refine wpList_make_full _ rfl _ _ 83 rfl w.heap.size 2 i0 (.int .i64 0) 1 Tryz.underlying83 hi hz0 hz1 _ _ _ _ n rfl rfl rfl rfl (by rw [hz2]; omega) (by unfold maxLen; omega) (Nat.le_refl _) ?_)
  intro w1 hown1 hgrow1
  have ho1 : Own .i64 2 w1 w.heap.size (.slice (some ⟨w.heap.size, 0, none⟩) n n) n (List.replicate n 0) := by
    unfold Own
    rw [List.map_replicate, ← toList_madeCells_one]
    exact hown1
  have hb1 : Below w.heap.size w w1 := (Below.refl _ _).grown hgrow1 (Nat.le_refl _) (by simp)
  clear hown1 hgrow1
  go_wp2
  go_loopw [4] (fun i wr => ∃ k : Nat, k ≤ n ∧ i = .int .i64 k ∧ Own .i64 2 wr w.heap.size (.slice (some ⟨w.heap.size, 0, none⟩) n n) n (xs.take k ++ List.replicate (n - k) 0) ∧ Below w.heap.size w wr) (fun i _ => n - (intOf i).toNat)
  case atStart => exact ⟨0, Nat.zero_le _, rfl, by simpa using ho1, hb1⟩
  case round =>
    obtain ⟨k, hk, rfl, ho, hb⟩ := hrel
    by_cases hlt : k < n
    · obtain ⟨b1, o1, rfl, hc1⟩ := ha.at hlt
      have hk1 := cell_later hb (hc1 k hlt)
      have hf := World.ownsRow.frozenAt ho k
      have hst := World.ownsRow.stored ho k (Value.int .i64 (xs.getD k 0))
      rw [copyI_set xs n k hlen hlt] at hst
      have hcell := ho.cell hlt
      generalize xs.getD k 0 = x at hk1 hst
      have HS : Hid _ := hst
      clear hst ho hc1
      have hlt' : (k : Int) < (n : Int) := by omega
      go_wp2
      go_roundw
      case rel => exact ⟨k + 1, by omega, by go_num, HS.out.1, hb.setCell (Nat.le_refl _) _⟩
      case measure => simp [intOf]; omega
    · go_wp2
      go_ret
      obtain rfl : k = n := by omega
      refine ⟨_, rfl, ?_, hb⟩
      rw [List.take_of_length_le (by omega), Nat.sub_self, List.replicate_zero, List.append_nil] at ho
      exact ho

theorem szInt64S_yes (a : Option Addr) (n ca : Nat) (L : Int) (w : World) (h : (n : Int) ≤ L) (hL : L ≤ 1048576) :
    Calls Tryz.prog 77 #[.slice a n ca, .int .i64 L] w fun e w' => e = .returned (.int .i64 (L - n)) ∧ w' = w := by
  go_enter Tryz.func77, Tryz.ntmps77
  go_wp2
  go_ret
  exact ⟨rfl, rfl⟩

theorem szInt64S_no (a : Option Addr) (n ca : Nat) (L : Int) (w : World) (h : ¬ (n : Int) ≤ L) (hn : n ≤ maxLen) (h0 : 0 ≤ L) (hL : L ≤ 1048576) :
    Calls Tryz.prog 77 #[.slice a n ca, .int .i64 L] w fun e w' => e = .returned (.int .i64 (-1)) ∧ w' = w := by
  unfold maxLen at hn
  have h' : L - (n : Int) < 0 := by omega
  go_enter Tryz.func77, Tryz.ntmps77
  go_wp2
  go_ret
  exact ⟨rfl, rfl⟩

theorem eqInt64S_yes (a b : Option Addr) (n ca cb : Nat) (xs : List Int) (w : World) (ha : Rd .i64 w a n xs) (hb : Rd .i64 w b n xs) (h1 : n ≤ maxLen) :
    Calls Tryz.prog 92 #[.slice a n ca, .slice b n cb] w fun e w' => e = .returned (.bool true) ∧ Below w.heap.size w w' :=
  (eqInt64S_any a b n n ca cb xs xs w ha hb h1 h1).mono fun e w' ⟨he, q, hw⟩ => ⟨by rw [he]; simp, by rw [hw]; exact below_drewN (Below.refl _ _) q⟩

theorem toInt64S_row (a : Option Addr) (n ca : Nat) (xs : List Int) (w : World) (ha : Rd .i64 w a n xs) (h1 : n ≤ 1073741824) :
    Calls Tryz.prog 84 #[.slice a n ca] w fun e w' => ∃ v, e = .returned v ∧ RowI .i64 2 w' w.heap.size w'.heap.size v n xs ∧ Below w.heap.size w w' :=
  (toInt64S_any a n ca xs w ha h1).mono fun e w' ⟨v, he, ho, hb⟩ => ⟨v, he, RowI.of ho, hb⟩

theorem markInt64S_row (v : Value) (n lo hi : Nat) (xs : List Int) (x0 : Int) (w : World) (ho : RowI .i64 2 w lo hi v n xs) (h1 : n ≤ 1073741824) (h2 : 0 ≤ x0) (h3 : x0 ≤ 1073741824) :
    Calls Tryz.prog 71 #[v, .int .i64 x0] w fun e w' => e = .returned (.int .i64 (x0 + n)) ∧ RowI .i64 2 w' lo hi v n (mkI x0 n) ∧ Chg lo hi w w' :=
  (markInt64S_own v n lo xs x0 w ho.1 h1 h2 h3).mono fun e w' ⟨he, h, hg⟩ => ⟨he, ⟨h, ho.2⟩, Chg.of_grown hg (fun j hj => ⟨(ho.1.lt j hj).1, ho.2 j hj⟩)⟩

end Go.Proofs.YtlemdjgpkmjihaaGreat