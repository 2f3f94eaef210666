/-
  Contracts of the exact laws' helpers over caches: copies, sizes, comparisons, marks.
-/
import Derived.Test.YtckkkhabjfbngaaBlkM
import Derived.Test.YtckkkhabjfbngaaHlpF
import Derived.Deep.RegionWith
namespace Go.Proofs.Ytckkkhabjfbngaa
open Go.RowKit
set_option linter.unusedVariables false

theorem bu_ne : (93 : TypeId) ≠ 5 := by decide

theorem infoB : (Try.prog.info? 93).map (fun i => (i.zero, i.size, i.bytes)) = some (some (.agg #[.int .i64 0, .slice none 0 0]), 2, 32) := by kernel_rfl

theorem szBlock_yes (num : Int) (a : Option Addr) (n ca : Nat) (L : Int) (w : World) (h : (n : Int) ≤ L) (hL : L ≤ 1048576) :
    Calls Try.prog 95 #[.agg #[.int .i64 num, .slice a n ca], .int .i64 L] w fun e w' => e = .returned (.int .i64 (L - n)) ∧ Below w.heap.size w w' := by
  go_enter Try.func95, Try.ntmps95
  go_wp2_with fail
  refine (szByteS_yes a n ca L _ h hL).mono ?_
  rintro e w1 ⟨rfl, rfl⟩
  have h' : ¬ L - (n : Int) < 0 := by omega
  go_wp2
  go_ret
  exact ⟨rfl, (Below.refl _ _).alloc (Nat.le_refl _) _⟩

theorem szBlock_no (num : Int) (a : Option Addr) (n ca : Nat) (L : Int) (w : World) (h : ¬ (n : Int) ≤ L) (hn : n ≤ maxLen) (h0 : 0 ≤ L) (hL : L ≤ 1048576) :
    Calls Try.prog 95 #[.agg #[.int .i64 num, .slice a n ca], .int .i64 L] w fun e w' => e = .returned (.int .i64 (-1)) ∧ Below w.heap.size w w' := by
  go_enter Try.func95, Try.ntmps95
  go_wp2_with fail
  refine (szByteS_no a n ca L _ (by omega) hn h0 hL).mono ?_
  rintro e w1 ⟨rfl, rfl⟩
  go_wp2
  go_ret
  exact ⟨rfl, (Below.refl _ _).alloc (Nat.le_refl _) _⟩

set_option maxHeartbeats 800000 in
theorem szBlockS_yes (a : Option Addr) (n ca : Nat) (bs : List Bk) (L : Int) (w : World) (ha : RdB w a n bs) (h : (n : Int) + byB bs ≤ L) (hL : L ≤ 1048576) :
    Calls Try.prog 68 #[.slice a n ca, .int .i64 L] w fun e w' => e = .returned (.int .i64 (L - n - byB bs)) ∧ Below w.heap.size w w' := by
  have hlen := ha.len
  have h' : ¬ L - (n : Int) < 0 := by omega
  go_enter Try.func68, Try.ntmps68
  go_wp2
  go_loopw [1, 5] (fun x i wr => ∃ k : Nat, k ≤ n ∧ i = .int .i64 k ∧ x = .int .i64 (L - n - byB (bs.take k)) ∧ Below w.heap.size w wr) (fun _ i _ => n - (intOf i).toNat)
  case atStart => exact ⟨0, Nat.zero_le _, rfl, by simp [byB], Below.refl _ _⟩
  case round =>
    obtain ⟨k, hk, rfl, rfl, hbw⟩ := hrel
    by_cases hlt : k < n
    · obtain ⟨blk, off, num, a', c', xs, rfl, hx, hc0, hc1, hr, _⟩ := (ha.below hbw).at hlt
      have hlt' : (k : Int) < (n : Int) := by omega
      have hs := byB_succ hx
      have ht := byB_take bs (k + 1)
      go_wp2_with fail
      refine (szBlock_yes num a' xs.length c' _ _ (by omega) (by omega)).mono ?_
      rintro e w2 ⟨rfl, hb2⟩
      have h2 : ¬ L - (n : Int) - (byB (bs.take k) : Int) - (xs.length : Int) < 0 := by omega
      go_wp2
      go_roundw
      case rel => exact ⟨k + 1, by omega, by go_num, by rw [hs]; congr 1; push_cast; omega, hbw.trans (hb2.mono hbw.size)⟩
      case measure => simp [intOf]; omega
    · obtain rfl : k = n := by omega
      go_wp2
      go_ret
      rw [List.take_of_length_le (by omega)]
      exact ⟨rfl, hbw⟩

set_option maxHeartbeats 800000 in
theorem szBlockS_no (a : Option Addr) (n ca : Nat) (bs : List Bk) (L : Int) (w : World) (ha : RdB w a n bs) (h : ¬ (n : Int) + byB bs ≤ L) (hn : n ≤ maxLen) (h0 : 0 ≤ L) (hL : L ≤ 1048576) :
    Calls Try.prog 68 #[.slice a n ca, .int .i64 L] w fun e w' => e = .returned (.int .i64 (-1)) ∧ Below w.heap.size w w' := by
  have hlen := ha.len
  unfold maxLen at hn
  by_cases h' : L - (n : Int) < 0
  · go_enter Try.func68, Try.ntmps68
    go_wp2
    go_ret
    exact ⟨rfl, Below.refl _ _⟩
  · go_enter Try.func68, Try.ntmps68
    go_wp2
    go_loopw [1, 5] (fun x i wr => ∃ k : Nat, k ≤ n ∧ i = .int .i64 k ∧ x = .int .i64 (L - n - byB (bs.take k)) ∧ (byB (bs.take k) : Int) ≤ L - n ∧ Below w.heap.size w wr) (fun _ i _ => n - (intOf i).toNat)
    case atStart => exact ⟨0, Nat.zero_le _, rfl, by simp [byB], by simp [byB]; omega, Below.refl _ _⟩
    case round =>
      obtain ⟨k, hk, rfl, rfl, hle, hbw⟩ := hrel
      by_cases hlt : k < n
      · obtain ⟨blk, off, num, a', c', xs, rfl, hx, hc0, hc1, hr, hxc, hcm⟩ := (ha.below hbw).at hlt
        have hxm : xs.length ≤ maxLen := Nat.le_trans hxc hcm
        clear hxc hcm
        have HX : Hid _ := hxm
        clear hxm
        have hlt' : (k : Int) < (n : Int) := by omega
        have hs := byB_succ hx
        by_cases hy : (xs.length : Int) ≤ L - n - byB (bs.take k)
        · go_wp2_with fail
          refine (szBlock_yes num a' xs.length c' _ _ (by omega) (by omega)).mono ?_
          rintro e w2 ⟨rfl, hb2⟩
          have h2 : ¬ L - (n : Int) - (byB (bs.take k) : Int) - (xs.length : Int) < 0 := by omega
          go_wp2
          go_roundw
          case rel => exact ⟨k + 1, by omega, by go_num, by rw [hs]; congr 1; push_cast; omega, by rw [hs]; push_cast; omega, hbw.trans (hb2.mono hbw.size)⟩
          case measure => simp [intOf]; omega
        · go_wp2_with fail
          refine (szBlock_no num a' xs.length c' _ _ (by omega) HX.out (by omega) (by omega)).mono ?_
          rintro e w2 ⟨rfl, hb2⟩
          go_wp2
          go_ret
          exact ⟨rfl, hbw.trans (hb2.mono hbw.size)⟩
      · exfalso
        obtain rfl : k = n := by omega
        rw [List.take_of_length_le (by omega)] at hle
        omega

theorem szCache_yes (u z : Int) (a : Option Addr) (n ca : Nat) (bs : List Bk) (L : Int) (w : World) (ha : RdB w a n bs) (h : (n : Int) + byB bs ≤ L) (hL : L ≤ 1048576) :
    Calls Try.prog 28 #[.agg #[.int .i64 u, .int .i64 z, .slice a n ca], .int .i64 L] w fun e w' => e = .returned (.int .i64 (L - n - byB bs)) ∧ Below w.heap.size w w' := by
  go_enter Try.func28, Try.ntmps28
  go_wp2_with fail
  refine (szBlockS_yes a n ca bs L _ (ha.below ((Below.refl _ _).alloc (Nat.le_refl _) _)) h hL).mono ?_
  rintro e w1 ⟨rfl, hb1⟩
  have h' : ¬ L - (n : Int) - (byB bs : Int) < 0 := by omega
  go_wp2
  go_ret
  exact ⟨rfl, below_slot hb1⟩

theorem szCache_no (u z : Int) (a : Option Addr) (n ca : Nat) (bs : List Bk) (L : Int) (w : World) (ha : RdB w a n bs) (h : ¬ (n : Int) + byB bs ≤ L) (hn : n ≤ maxLen) (h0 : 0 ≤ L) (hL : L ≤ 1048576) :
    Calls Try.prog 28 #[.agg #[.int .i64 u, .int .i64 z, .slice a n ca], .int .i64 L] w fun e w' => e = .returned (.int .i64 (-1)) ∧ Below w.heap.size w w' := by
  go_enter Try.func28, Try.ntmps28
  go_wp2_with fail
  refine (szBlockS_no a n ca bs L _ (ha.below ((Below.refl _ _).alloc (Nat.le_refl _) _)) (by omega) hn h0 hL).mono ?_
  rintro e w1 ⟨rfl, hb1⟩
  go_wp2
  go_ret
  exact ⟨rfl, below_slot hb1⟩

set_option maxHeartbeats 400000 in
theorem toBlock_any (num : Int) (a : Option Addr) (n ca : Nat) (xs : List Int) (w : World) (ha : Rd .u8 w a n xs) (h1 : n ≤ 1073741824) :
    Calls Try.prog 96 #[.agg #[.int .i64 num, .slice a n ca]] w fun e w' => ∃ a1 c1, e = .returned (.agg #[.int .i64 num, .slice a1 n c1]) ∧ RowI .u8 5 w' w.heap.size w'.heap.size (.slice a1 n c1) n xs ∧ Below w.heap.size w w' := by
  have B3 : ∀ o1 o2 o3, Below w.heap.size w (((w.alloc o1).alloc o2).alloc o3) := fun o1 o2 o3 => (((Below.refl _ _).alloc (Nat.le_refl _) o1).alloc (by simp) o2).alloc (by simp; omega) o3
  go_enter Try.func96, Try.ntmps96
  go_wp2_with fail
  refine (toByteS_any a n ca xs _ (ha.below (B3 _ _ _)) h1).mono ?_
  rintro e w1 ⟨v1, rfl, ho1, hb1⟩
  obtain ⟨a1, c1, hv1, _⟩ := ho1.rdc
  subst hv1
  have hb01 := (B3 _ _ _).trans (hb1.mono (by simp; omega))
  have d0 : w1.cell? ⟨w.heap.size + 1 + 1, 0, none⟩ = some (.int .i64 num) := cell_later hb1 (by simp [go_sem])
  have d1 : w1.cell? ⟨w.heap.size + 1 + 1, 1, none⟩ = some (.slice none 0 0) := cell_later hb1 (by simp [go_sem])
  have d2 : w1.cell? ⟨w.heap.size + 1, 0, none⟩ = some (.int .i64 0) := cell_later hb1 (by simp [go_sem])
  have d3 : w1.cell? ⟨w.heap.size + 1, 1, none⟩ = some (.slice none 0 0) := cell_later hb1 (by simp [go_sem])
  have z1 : w.heap.size + 1 + 1 < w1.heap.size := by have := hb1.size; simp at this; omega
  have f0 : ∀ j, w1.frozen? ⟨w.heap.size + 1 + 1, j, none⟩ = false := fun j => (hb1.frozen (p := ⟨w.heap.size + 1 + 1, j, none⟩) (by simp)).trans (by simp [go_sem])
  have f1 : ∀ j, w1.frozen? ⟨w.heap.size + 1, j, none⟩ = false := fun j => (hb1.frozen (p := ⟨w.heap.size + 1, j, none⟩) (by simp)).trans (by simp [go_sem])
  have f00 := f0 1
  have f10 := f1 0
  have f11 := f1 1
  go_wp2
  refine bodyPost_ret (v := .agg #[.int .i64 num, .slice a1 n c1]) (by simp [results, Try.results96, go_sem, d2, d3]) rfl ⟨a1, c1, rfl, ?_, ?_⟩
  · exact RowI.mono (RowI.of (((ho1.setBelow (by simp) _).setBelow (by simp) _).setBelow (by simp) _)) (by simp; omega) (Nat.le_refl _)
  · exact ((hb01.setCell (by simp; omega) _).setCell (by simp) _).setCell (by simp) _

theorem madeBk (n : Nat) : (madeCells #[Value.int .i64 0, .slice none 0 0] (n * 2)).toList = (List.replicate n (((0 : Int), Value.slice none 0 0) : Bv)).flatMap bkE := by
  apply List.ext_getElem?
  intro j
  by_cases hj : j < n * 2
  · have hq : j / 2 < n := by omega
    have h := getElem?_flatMap bkE 2 bkE_len (List.replicate n (((0 : Int), Value.slice none 0 0) : Bv)) (j / 2) (j % 2) (0, .slice none 0 0) (by simp [hq]) (by omega)
    rw [show j / 2 * 2 + j % 2 = j by omega] at h
    rw [h]
    have : j % 2 = 0 ∨ j % 2 = 1 := by omega
    rcases this with h | h <;> simp [madeCells, hj, h, bkE]
  · have h2 := length_flatMap' bkE 2 bkE_len (List.replicate n (((0 : Int), Value.slice none 0 0) : Bv))
    rw [List.getElem?_eq_none (by simp [madeCells]; omega), List.getElem?_eq_none (by rw [h2]; simp; omega)]

theorem cpB_mid (bs : List Bk) (n k : Nat) (hn : bs.length = n) (hk : k < n) : (bs.take k ++ List.replicate (n - k) ((0, []) : Bk))[k]? = some (0, []) := by
  have hl : (bs.take k).length = k := by rw [List.length_take]; omega
  rw [List.getElem?_append_right (by omega), hl, Nat.sub_self, List.getElem?_replicate]
  simp; omega

set_option maxHeartbeats 1600000 in
theorem toBlockS_any (a : Option Addr) (n ca : Nat) (bs : List Bk) (w : World) (ha : RdB w a n bs) (h1 : (n : Int) + byB bs ≤ 1073741824) :
    Calls Try.prog 69 #[.slice a n ca] w fun e w' => ∃ v, e = .returned v ∧ RowB 93 5 w' w.heap.size w'.heap.size v n bs ∧ Below w.heap.size w w' := by
  obtain ⟨i0, hi, hz0, hz1, hz2⟩ := info_parts infoB
  have hlen := ha.len
  go_enter Try.func69, Try.ntmps69
  go_wp2_with (at_make; refine wpList_make_full _ rfl _ _ 24 rfl w.heap.size 93 i0 (.agg #[.int .i64 0, .slice none 0 0]) 2 Try.underlying24 hi hz0 hz1 _ _ _ _ n rfl rfl rfl rfl (by rw [hz2]; omega) (by unfold maxLen; omega) (Nat.le_refl _) ?_)
  intro w1 hown1 hgrow1
  have ho0 : w1.ownsRow w.heap.size 93 2 (.slice (some ⟨w.heap.size, 0, none⟩) n n) n ((List.replicate n (((0 : Int), Value.slice none 0 0) : Bv)).flatMap bkE) := by
    rw [← madeBk]
    simpa [Value.cells] using hown1
  have hs1 : w.heap.size < w1.heap.size := (World.ownsRow.lt ho0 w.heap.size rfl).2
  have ho1 : RowB 93 5 w1 w.heap.size w1.heap.size (.slice (some ⟨w.heap.size, 0, none⟩) n n) n (List.replicate n (0, [])) := RowB.zeros ho0 hs1
  have hb1 : Below w.heap.size w w1 := (Below.refl _ _).grown hgrow1 (Nat.le_refl _) (by simp)
  clear hown1 hgrow1 ho0
  go_wp2
  go_loopw [4] (fun i wr => ∃ k : Nat, k ≤ n ∧ i = .int .i64 k ∧ RowB 93 5 wr w.heap.size wr.heap.size (.slice (some ⟨w.heap.size, 0, none⟩) n n) n (bs.take k ++ List.replicate (n - k) (0, [])) ∧ Below w.heap.size w wr ∧ w.heap.size < wr.heap.size) (fun i _ => n - (intOf i).toNat)
  case atStart => exact ⟨0, Nat.zero_le _, rfl, by simpa using ho1, hb1, hs1⟩
  case round =>
    obtain ⟨k, hk, rfl, ho, hb, hz⟩ := hrel
    by_cases hlt : k < n
    · obtain ⟨blk, off, num, a', c', xs, rfl, hx, c0, c1, hr, _⟩ := (ha.below hb).at hlt
      have hlx := byB_at hx
      have HX : Hid _ := hx
      clear hx
      have hlt' : (k : Int) < (n : Int) := by omega
      go_wp2_with fail
      refine (toBlock_any num a' xs.length c' xs _ hr (by omega)).mono ?_
      rintro e w2 ⟨a2, c2, rfl, hr2, hb2⟩
      have ho2 := ho.below hb2
      obtain ⟨q1, q2, e0, e1, _⟩ := RowB.elem bu_ne ho2 (cpB_mid bs n k hlen hlt)
      have f0 := ho2.frozen (k * 2)
      have f1 := ho2.frozen (k * 2 + 1)
      have hst := RowB.set (num := num) bu_ne ho2 hlt hr2 (Nat.le_refl _) hb.size hb2.size
      rw [cpB_set hlen HX.out] at hst
      have hz2' : w.heap.size < w2.heap.size := Nat.lt_of_lt_of_le hz hb2.size
      have HS : Hid _ := hst
      clear hst ho ho2
      go_wp2
      go_roundw
      case rel => exact ⟨k + 1, by omega, by go_num, by simpa using HS.out.1, ((hb.trans (hb2.mono hb.size)).setCell (Nat.le_refl _) _).setCell (Nat.le_refl _) _, by simpa using hz2'⟩
      case measure => simp [intOf]; omega
    · go_wp2
      go_ret
      obtain rfl : k = n := by omega
      rw [Nat.sub_self, List.replicate_zero, List.append_nil, List.take_of_length_le (by omega)] at ho
      exact ⟨_, rfl, ho, hb⟩

set_option maxHeartbeats 400000 in
theorem toCache_any (u z : Int) (a : Option Addr) (n ca : Nat) (bs : List Bk) (w : World) (ha : RdB w a n bs) (h1 : (n : Int) + byB bs ≤ 1073741824) :
    Calls Try.prog 30 #[.agg #[.int .i64 u, .int .i64 z, .slice a n ca]] w fun e w' => ∃ v, e = .returned (.agg #[.int .i64 u, .int .i64 z, v]) ∧ RowB 93 5 w' w.heap.size w'.heap.size v n bs ∧ Below w.heap.size w w' := by
  have B3 : ∀ o1 o2 o3, Below w.heap.size w (((w.alloc o1).alloc o2).alloc o3) := fun o1 o2 o3 => (((Below.refl _ _).alloc (Nat.le_refl _) o1).alloc (by simp) o2).alloc (by simp; omega) o3
  go_enter Try.func30, Try.ntmps30
  go_wp2_with fail
  refine (toBlockS_any a n ca bs _ (ha.below (B3 _ _ _)) h1).mono ?_
  rintro e w1 ⟨v1, rfl, ho1, hb1⟩
  obtain ⟨a1, c1, hv1, _⟩ := ho1.shape
  subst hv1
  have hb01 := (B3 _ _ _).trans (hb1.mono (by simp; omega))
  have d0 : w1.cell? ⟨w.heap.size + 1 + 1, 0, none⟩ = some (.int .i64 u) := cell_later hb1 (by simp [go_sem])
  have d1 : w1.cell? ⟨w.heap.size + 1 + 1, 1, none⟩ = some (.int .i64 z) := cell_later hb1 (by simp [go_sem])
  have d2 : w1.cell? ⟨w.heap.size + 1 + 1, 2, none⟩ = some (.slice none 0 0) := cell_later hb1 (by simp [go_sem])
  have g0 : w1.cell? ⟨w.heap.size + 1, 0, none⟩ = some (.int .i64 0) := cell_later hb1 (by simp [go_sem])
  have g1 : w1.cell? ⟨w.heap.size + 1, 1, none⟩ = some (.int .i64 0) := cell_later hb1 (by simp [go_sem])
  have g2 : w1.cell? ⟨w.heap.size + 1, 2, none⟩ = some (.slice none 0 0) := cell_later hb1 (by simp [go_sem])
  have z1 : w.heap.size + 1 + 1 < w1.heap.size := by have := hb1.size; simp at this; omega
  have f0 : ∀ j, w1.frozen? ⟨w.heap.size + 1 + 1, j, none⟩ = false := fun j => (hb1.frozen (p := ⟨w.heap.size + 1 + 1, j, none⟩) (by simp)).trans (by simp [go_sem])
  have f1 : ∀ j, w1.frozen? ⟨w.heap.size + 1, j, none⟩ = false := fun j => (hb1.frozen (p := ⟨w.heap.size + 1, j, none⟩) (by simp)).trans (by simp [go_sem])
  have f02 := f0 2
  have f10 := f1 0
  have f11 := f1 1
  have f12 := f1 2
  have S : ∀ (W : World) (b i : Nat) (x : Value), w.heap.size ≤ b → b < w.heap.size + 1 + 1 + 1 → RowB 93 5 W (w.heap.size + 1 + 1 + 1) w1.heap.size (.slice a1 n c1) n bs → RowB 93 5 (W.setCell ⟨b, i, none⟩ x) (w.heap.size + 1 + 1 + 1) w1.heap.size (.slice a1 n c1) n bs := fun W b i x hb hb' hr =>
    hr.chg (Chg.one (set_grown W b i x)) (by omega)
  have r1 : RowB 93 5 w1 (w.heap.size + 1 + 1 + 1) w1.heap.size (.slice a1 n c1) n bs := ho1.mono (by simp) (Nat.le_refl _)
  go_wp2
  refine bodyPost_ret (v := .agg #[.int .i64 u, .int .i64 z, .slice a1 n c1]) (by simp [results, Try.results30, go_sem, g0, g1, g2]) rfl ⟨_, rfl, ?_, ?_⟩
  · refine RowB.mono (S _ _ _ _ (by omega) (by omega) (S _ _ _ _ (by omega) (by omega) (S _ _ _ _ (by omega) (by omega) (S _ _ _ _ (by omega) (by omega) r1)))) (by omega) (by simp)
  · exact (((hb01.setCell (by simp; omega) _).setCell (by simp) _).setCell (by simp) _).setCell (by simp) _
end Go.Proofs.Ytckkkhabjfbngaa
