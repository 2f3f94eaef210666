/-
  Helpers of the exact laws of chapter 11: grids.
-/
import Derived.Test.YtjgmkcmlkffjlaaHlpP
import Derived.Test.YtjgmkcmlkffjlaaHlpA
import Derived.Test.YtjgmkcmlkffjlaaChg
namespace Go.Proofs.Ytjgmkcmlkffjlaa
open Go.RowKit
set_option linter.unusedVariables false
set_option linter.unusedSimpArgs false

theorem szBoolS_any (a : Option Addr) (n ca : Nat) (L : Int) (w : World) (hn : n ≤ maxLen) (h0 : 0 ≤ L) (hL : L ≤ 1048576) :
    Calls Try.prog 65 #[.slice a n ca, .int .i64 L] w fun e w' => e = .returned (.int .i64 (if L < (n : Int) then -1 else L - n)) ∧ w' = w := by
  unfold maxLen at hn
  by_cases h : L < (n : Int)
  · rw [if_pos h]
    have h' : L - (n : Int) < 0 := by omega
    go_enter Try.func65, Try.ntmps65
    go_wp2
    go_ret
    exact ⟨rfl, rfl⟩
  · rw [if_neg h]
    have h' : ¬ L - (n : Int) < 0 := by omega
    go_enter Try.func65, Try.ntmps65
    go_wp2
    go_ret
    exact ⟨rfl, rfl⟩

theorem szGrid_yes (W : Int) (a b : Option Addr) (n m ca cb : Nat) (L : Int) (w : World) (h : (n : Int) + m ≤ L) (hL : L ≤ 1048576) :
    Calls Try.prog 33 #[.agg #[.int .i64 W, .slice a n ca, .slice b m cb], .int .i64 L] w fun e w' => e = .returned (.int .i64 (L - n - m)) ∧ Below w.heap.size w w' := by
  have SB := fun w' => szBoolS_any b m cb (L - n) w' (by unfold maxLen; omega) (by omega) (by omega)
  rw [if_neg (by omega)] at SB
  have HSB : Hid _ := SB
  clear SB
  go_enter Try.func33, Try.ntmps33
  go_wp2_with fail
  refine (szInt64S_yes a n ca L _ (by omega) hL).mono ?_
  rintro e w1 ⟨rfl, rfl⟩
  have h1 : ¬ L - (n : Int) < 0 := by omega
  go_wp2_with fail
  refine (HSB.out _).mono ?_
  rintro e w1 ⟨rfl, rfl⟩
  have h2 : ¬ L - (n : Int) - (m : Int) < 0 := by omega
  go_wp2
  go_ret
  exact ⟨rfl, (Below.refl _ _).alloc (Nat.le_refl _) _⟩

theorem szGrid_no (W : Int) (a b : Option Addr) (n m ca cb : Nat) (L : Int) (w : World) (h : ¬ (n : Int) + m ≤ L) (hn : n ≤ maxLen) (hm : m ≤ maxLen) (h0 : 0 ≤ L) (hL : L ≤ 1048576) :
    Calls Try.prog 33 #[.agg #[.int .i64 W, .slice a n ca, .slice b m cb], .int .i64 L] w fun e w' => e = .returned (.int .i64 (-1)) ∧ Below w.heap.size w w' := by
  by_cases hn1 : (n : Int) ≤ L
  · have SB := fun w' => szBoolS_any b m cb (L - n) w' hm (by omega) (by omega)
    rw [if_pos (by omega)] at SB
    have HSB : Hid _ := SB
    clear SB
    unfold maxLen at hn hm
    go_enter Try.func33, Try.ntmps33
    go_wp2_with fail
    refine (szInt64S_yes a n ca L _ (by omega) hL).mono ?_
    rintro e w1 ⟨rfl, rfl⟩
    have h1 : ¬ L - (n : Int) < 0 := by omega
    go_wp2_with fail
    refine (HSB.out _).mono ?_
    rintro e w1 ⟨rfl, rfl⟩
    go_wp2
    go_ret
    exact ⟨rfl, (Below.refl _ _).alloc (Nat.le_refl _) _⟩
  · have hn' := hn
    have hm' := hm
    unfold maxLen at hn' hm'
    have HN := hid hn
    clear hn hm
    go_enter Try.func33, Try.ntmps33
    go_wp2_with fail
    refine (szInt64S_no a n ca L _ (by omega) HN.out h0 hL).mono ?_
    rintro e w1 ⟨rfl, rfl⟩
    go_wp2
    go_ret
    exact ⟨rfl, (Below.refl _ _).alloc (Nat.le_refl _) _⟩

theorem bl1 {w : World} {b off : Nat} {c : Bool} (h : ∀ f v, (blE c)[f]? = some v → w.cell? ⟨b, off + f, none⟩ = some v) : w.cell? ⟨b, off, none⟩ = some (.bool c) := by
  have := h 0 _ rfl
  simpa using this

set_option maxHeartbeats 800000 in
theorem eqBoolS_yes (a b : Option Addr) (n ca cb : Nat) (cs : List Bool) (w : World) (ha : RdR blE 1 w a n cs) (hb : RdR blE 1 w b n cs) (h1 : n ≤ 1073741824) :
    Calls Try.prog 73 #[.slice a n ca, .slice b n cb] w fun e w' => e = .returned (.bool true) ∧ Below w.heap.size w w' := by
  go_enter Try.func73, Try.ntmps73
  go_wp2
  go_loopw [5] (fun i wr => ∃ k : Nat, k ≤ n ∧ i = .int .i64 k ∧ Below w.heap.size w wr) (fun i _ => n - (intOf i).toNat)
  case atStart => exact ⟨0, Nat.zero_le _, rfl, Below.refl _ _⟩
  case round =>
    obtain ⟨k, hk, rfl, hbw⟩ := hrel
    by_cases hlt : k < n
    · obtain ⟨b1, o1, c, rfl, hx, hc1⟩ := (ha.below hbw).at hlt
      obtain ⟨b2, o2, c', rfl, hx', hc2⟩ := (hb.below hbw).at hlt
      obtain rfl : c = c' := by rw [hx] at hx'; simpa using hx'
      have c0 := bl1 hc1
      have e0 := bl1 hc2
      simp only [Nat.mul_one] at c0 e0
      clear hx hx' hc1 hc2
      have hlt' : (k : Int) < (n : Int) := by omega
      go_wp2
      first
        | (go_region
           all_goals
             go_wp2
             go_roundw
             case rel => exact ⟨k + 1, by omega, by go_num, hbw.drew⟩
             case measure => simp [intOf]; omega)
        | (go_roundw
           case rel => exact ⟨k + 1, by omega, by go_num, hbw⟩
           case measure => simp [intOf]; omega)
    · go_wp2
      go_ret
      exact ⟨rfl, hbw⟩
theorem infoBl : (Try.prog.info? 4).map (fun i => (i.zero, i.size, i.bytes)) = some (some (.bool false), 1, 1) := by kernel_rfl
theorem copyB_set (xs : List Bool) (n k : Nat) (h : xs.length = n) (hk : k < n) :
    (xs.take k ++ List.replicate (n - k) false).set k (xs.getD k false) = xs.take (k + 1) ++ List.replicate (n - (k + 1)) false := by
  obtain ⟨m, hm⟩ : ∃ m, n - k = m + 1 := ⟨n - k - 1, by omega⟩
  have hl : (xs.take k).length = k := by simp; omega
  rw [hm, List.replicate_succ, List.set_append, if_neg (by omega), hl, Nat.sub_self, List.set_cons_zero, show n - (k + 1) = m by omega, List.take_add_one, List.getElem?_eq_getElem (show k < xs.length by omega), List.getD_eq_getElem?_getD, List.getElem?_eq_getElem (show k < xs.length by omega), List.append_assoc]
  rfl
theorem flat_rep (n : Nat) : (List.replicate n false).flatMap blE = List.replicate n (Value.bool false) := by
  induction n with
  | zero => rfl
  | succ n ih => rw [List.replicate_succ, List.flatMap_cons, ih, List.replicate_succ]; rfl

set_option maxHeartbeats 800000 in
theorem toBoolS_row (a : Option Addr) (n ca : Nat) (xs : List Bool) (w : World) (ha : RdR blE 1 w a n xs) (h1 : n ≤ 1073741824) :
    Calls Try.prog 68 #[.slice a n ca] w fun e w' => ∃ v, e = .returned v ∧ RowS blE 1 4 w' w.heap.size w'.heap.size v n xs ∧ Below w.heap.size w w' := by
  obtain ⟨i0, hi, hz0, hz1, hz2⟩ := info_parts infoBl
  have hlen := ha.1
  go_enter Try.func68, Try.ntmps68
  go_wp2_with (at_make; refine wpList_make_full _ rfl _ _ 66 rfl w.heap.size 4 i0 (.bool false) 1 Try.underlying66 hi hz0 hz1 _ _ _ _ n rfl rfl rfl rfl (by rw [hz2]; omega) (by unfold maxLen; omega) (Nat.le_refl _) ?_)
  intro w1 hown1 hgrow1
  have ho1 : OwnR blE 1 4 w1 w.heap.size (.slice (some ⟨w.heap.size, 0, none⟩) n n) n (List.replicate n false) := by
    refine ⟨by simp, ?_⟩
    rw [flat_rep, ← toList_madeCells_one]
    exact hown1
  have hb1 : Below w.heap.size w w1 := (Below.refl _ _).grown hgrow1 (Nat.le_refl _) (by simp)
  clear hown1 hgrow1
  go_wp2
  go_loopw [4] (fun i wr => ∃ k : Nat, k ≤ n ∧ i = .int .i64 k ∧ OwnR blE 1 4 wr w.heap.size (.slice (some ⟨w.heap.size, 0, none⟩) n n) n (xs.take k ++ List.replicate (n - k) false) ∧ Below w.heap.size w wr) (fun i _ => n - (intOf i).toNat)
  case atStart => exact ⟨0, Nat.zero_le _, rfl, by simpa using ho1, hb1⟩
  case round =>
    obtain ⟨k, hk, rfl, ho, hb⟩ := hrel
    by_cases hlt : k < n
    · obtain ⟨b1, o1, c, rfl, hx, hc1⟩ := (ha.below hb).at hlt
      have hk1 := bl1 hc1
      simp only [Nat.mul_one] at hk1
      have hf := ho.frozen k
      have hkl : k < (xs.take k ++ List.replicate (n - k) false).length := by simp; omega
      have hold := List.getElem?_eq_getElem hkl
      generalize (xs.take k ++ List.replicate (n - k) false)[k] = c0 at hold
      have hcell := OwnR.cell (f := 0) blE_len ho hold rfl
      simp only [Nat.mul_one, Nat.add_zero] at hcell
      have hst := OwnR.store (f := 0) (y := c) (u := .bool c) blE_len ho hold (by omega) rfl
      have hset := copyB_set xs n k hlen hlt
      rw [show xs.getD k false = c by rw [List.getD_eq_getElem?_getD, hx]; rfl] at hset
      rw [hset] at hst
      simp only [Nat.mul_one, Nat.add_zero] at hst
      have HS : Hid _ := hst
      clear hst ho hc1 hold hset hkl hx
      have hlt' : (k : Int) < (n : Int) := by omega
      go_wp2
      go_roundw
      case rel => exact ⟨k + 1, by omega, by go_num, HS.out.1, hb.setCell (Nat.le_refl _) _⟩
      case measure => simp [intOf]; omega
    · go_wp2
      go_ret
      obtain rfl : k = n := by omega
      refine ⟨_, rfl, ?_, hb⟩
      rw [List.take_of_length_le (by omega), Nat.sub_self, List.replicate_zero, List.append_nil] at ho
      exact RowS.of ho

set_option maxHeartbeats 1600000 in
theorem toGrid_any (W : Int) (a b : Option Addr) (n m ca cb : Nat) (xs : List Int) (ys : List Bool) (w : World) (ha : Rd .i64 w a n xs) (hb : RdR blE 1 w b m ys) (h1 : n ≤ 1048576) (h2 : m ≤ 1048576) :
    Calls Try.prog 35 #[.agg #[.int .i64 W, .slice a n ca, .slice b m cb]] w fun e w' => ∃ (a' b' : Option Addr) (k q : Nat), e = .returned (.agg #[.int .i64 W, .slice a' n k, .slice b' m q]) ∧ Rd .i64 w' a' n xs ∧ RdR blE 1 w' b' m ys ∧ Below w.heap.size w w' := by
  have B3 : ∀ o1 o2 o3, Below w.heap.size w (((w.alloc o1).alloc o2).alloc o3) := fun o1 o2 o3 => (((Below.refl _ _).alloc (Nat.le_refl _) o1).alloc (by simp) o2).alloc (by simp; omega) o3
  go_enter Try.func35, Try.ntmps35
  go_wp2_with fail
  refine (toInt64S_row a n ca xs _ (ha.below (B3 _ _ _)) (by omega)).mono ?_
  rintro e w1 ⟨v1, rfl, ho1, hb1⟩
  obtain ⟨a1, c1, hv1, _⟩ := ho1.shape
  subst hv1
  have hb01 := (B3 _ _ _).trans (hb1.mono (by simp; omega))
  have q1 : w1.cell? ⟨w.heap.size, 2, none⟩ = some (.slice b m cb) := cell_later hb1 (by simp [go_sem])
  have d0 : w1.cell? ⟨w.heap.size + 1 + 1, 0, none⟩ = some (.int .i64 W) := cell_later hb1 (by simp [go_sem])
  have d1 : w1.cell? ⟨w.heap.size + 1 + 1, 1, none⟩ = some (.slice none 0 0) := cell_later hb1 (by simp [go_sem])
  have d2 : w1.cell? ⟨w.heap.size + 1 + 1, 2, none⟩ = some (.slice none 0 0) := cell_later hb1 (by simp [go_sem])
  have g0 : w1.cell? ⟨w.heap.size + 1, 0, none⟩ = some (.int .i64 0) := cell_later hb1 (by simp [go_sem])
  have g1 : w1.cell? ⟨w.heap.size + 1, 1, none⟩ = some (.slice none 0 0) := cell_later hb1 (by simp [go_sem])
  have g2 : w1.cell? ⟨w.heap.size + 1, 2, none⟩ = some (.slice none 0 0) := cell_later hb1 (by simp [go_sem])
  have z1 : w.heap.size + 1 + 1 < w1.heap.size := by have := hb1.size; simp at this; omega
  have f0 : ∀ j, w1.frozen? ⟨w.heap.size + 1 + 1, j, none⟩ = false := fun j => (hb1.frozen (p := ⟨w.heap.size + 1 + 1, j, none⟩) (by simp)).trans (by simp [go_sem])
  have f1 : ∀ j, w1.frozen? ⟨w.heap.size + 1, j, none⟩ = false := fun j => (hb1.frozen (p := ⟨w.heap.size + 1, j, none⟩) (by simp)).trans (by simp [go_sem])
  have f01 := f0 1
  have r1 : RowI .i64 2 w1 (w.heap.size + 1 + 1 + 1) w1.heap.size (.slice a1 n c1) n xs := ho1.mono (by simp) (Nat.le_refl _)
  clear hb1 ho1
  go_wp2_with fail
  have hs : ∀ u, Below w.heap.size w (w1.setCell ⟨w.heap.size + 1 + 1, 1, none⟩ u) := fun u => hb01.setCell (by simp; omega) u
  refine (toBoolS_row b m cb ys _ (hb.below (hs _)) (by omega)).mono ?_
  rintro e w2 ⟨v2, rfl, ho2, hb2⟩
  obtain ⟨a2, c2, hv2, _⟩ := RowS.shape blE_len ho2
  subst hv2
  have hz2 : w1.heap.size ≤ w2.heap.size := by have := hb2.size; simpa using this
  have hb02 := (hs _).trans (hb2.mono (by simp; omega))
  have e0 : w2.cell? ⟨w.heap.size + 1 + 1, 0, none⟩ = some (.int .i64 W) := cell_later hb2 (by simp [go_sem, d0])
  have e1 : w2.cell? ⟨w.heap.size + 1 + 1, 1, none⟩ = some (.slice a1 n c1) := cell_later hb2 (by simp [go_sem, d1])
  have e2 : w2.cell? ⟨w.heap.size + 1 + 1, 2, none⟩ = some (.slice none 0 0) := cell_later hb2 (by simp [go_sem, d2])
  have k0 : w2.cell? ⟨w.heap.size + 1, 0, none⟩ = some (.int .i64 0) := cell_later hb2 (by simp [go_sem, g0])
  have k1 : w2.cell? ⟨w.heap.size + 1, 1, none⟩ = some (.slice none 0 0) := cell_later hb2 (by simp [go_sem, g1])
  have k2 : w2.cell? ⟨w.heap.size + 1, 2, none⟩ = some (.slice none 0 0) := cell_later hb2 (by simp [go_sem, g2])
  have p0 : ∀ j, w2.frozen? ⟨w.heap.size + 1 + 1, j, none⟩ = false := fun j => (hb2.frozen (p := ⟨w.heap.size + 1 + 1, j, none⟩) (by simp; omega)).trans (by simp [go_sem, f0])
  have p1 : ∀ j, w2.frozen? ⟨w.heap.size + 1, j, none⟩ = false := fun j => (hb2.frozen (p := ⟨w.heap.size + 1, j, none⟩) (by simp; omega)).trans (by simp [go_sem, f1])
  have r1' : RowI .i64 2 w2 (w.heap.size + 1 + 1 + 1) w1.heap.size (.slice a1 n c1) n xs := (r1.chg (Chg.one (set_grown w1 _ _ _)) (by omega)).below hb2
  have r2 : RowS blE 1 4 w2 (w.heap.size + 1 + 1 + 1) w2.heap.size (.slice a2 m c2) m ys := RowS.mono ho2 (by simp; omega) (Nat.le_refl _)
  have p02 := p0 2
  have p10 := p1 0
  have p11 := p1 1
  have p12 := p1 2
  have z2 : w.heap.size + 1 + 1 < w2.heap.size := by omega
  clear hb2 ho2 hs r1 f0 f1 q1 d0 d1 d2 g0 g1 g2 f01 hb01
  go_wp2
  refine bodyPost_ret (v := .agg #[.int .i64 W, .slice a1 n c1, .slice a2 m c2]) (by simp [results, Try.results35, go_sem, k0, k1, k2]) rfl ⟨a1, a2, c1, c2, rfl, ?_, ?_, ?_⟩
  · exact (((((r1'.chg (Chg.one (set_grown _ _ _ _)) (by omega)).chg (Chg.one (set_grown _ _ _ _)) (by omega)).chg (Chg.one (set_grown _ _ _ _)) (by omega)).chg (Chg.one (set_grown _ _ _ _)) (by omega))).read
  · exact RowS.read blE_len ((((r2.chg (Chg.one (set_grown _ _ _ _)) (by omega)).chg (Chg.one (set_grown _ _ _ _)) (by omega)).chg (Chg.one (set_grown _ _ _ _)) (by omega)).chg (Chg.one (set_grown _ _ _ _)) (by omega))
  · exact (((hb02.setCell (by simp; omega) _).setCell (by simp) _).setCell (by simp) _).setCell (by simp) _

theorem eqGrid_yes (W : Int) (a b c d : Option Addr) (n m ca cb cc cd : Nat) (xs : List Int) (ys : List Bool) (w : World) (ha : Rd .i64 w a n xs) (hc : Rd .i64 w c n xs) (hb : RdR blE 1 w b m ys) (hd : RdR blE 1 w d m ys) (h1 : n ≤ 1048576) (h2 : m ≤ 1048576) :
    Calls Try.prog 37 #[.agg #[.int .i64 W, .slice a n ca, .slice b m cb], .agg #[.int .i64 W, .slice c n cc, .slice d m cd]] w fun e w' => e = .returned (.bool true) ∧ Below w.heap.size w w' := by
  have B2 : ∀ o1 o2, Below w.heap.size w ((w.alloc o1).alloc o2) := fun o1 o2 => ((Below.refl _ _).alloc (Nat.le_refl _) o1).alloc (by simp) o2
  go_enter Try.func37, Try.ntmps37
  go_wp2_with fail
  refine (eqInt64S_yes a c n ca cc xs _ (ha.below (B2 _ _)) (hc.below (B2 _ _)) (by unfold maxLen; omega)).mono ?_
  rintro e w1 ⟨rfl, hb1⟩
  have hb01 := (B2 _ _).trans (hb1.mono (by simp; omega))
  have q0 : w1.cell? ⟨w.heap.size, 2, none⟩ = some (.slice b m cb) := cell_later hb1 (by simp [go_sem])
  have q1 : w1.cell? ⟨w.heap.size + 1, 2, none⟩ = some (.slice d m cd) := cell_later hb1 (by simp [go_sem])
  clear hb1
  go_wp2_with fail
  refine (eqBoolS_yes b d m cb cd ys _ (hb.below hb01) (hd.below hb01) (by omega)).mono ?_
  rintro e w2 ⟨rfl, hb2⟩
  go_wp2
  go_ret
  exact ⟨rfl, hb01.trans (hb2.mono hb01.size)⟩
end Go.Proofs.Ytjgmkcmlkffjlaa
