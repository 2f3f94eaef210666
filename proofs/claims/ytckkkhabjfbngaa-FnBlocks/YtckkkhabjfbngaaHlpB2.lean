/-
  Contracts of the exact laws' helpers over caches: comparisons and marks.
-/
import Derived.Test.YtckkkhabjfbngaaHlpB
namespace Go.Proofs.Ytckkkhabjfbngaa
open Go.RowKit
set_option linter.unusedVariables false

set_option maxHeartbeats 400000 in
theorem eqBlock_yes (num : Int) (a b : Option Addr) (n ca cb : Nat) (xs : List Int) (w : World) (ha : Rd .u8 w a n xs) (hb : Rd .u8 w b n xs) (h1 : n ≤ maxLen) :
    Calls Try.prog 97 #[.agg #[.int .i64 num, .slice a n ca], .agg #[.int .i64 num, .slice b n cb]] w fun e w' => e = .returned (.bool true) ∧ Below w.heap.size w w' := by
  have B2 : ∀ o1 o2, Below w.heap.size w ((w.alloc o1).alloc o2) := fun o1 o2 => ((Below.refl _ _).alloc (Nat.le_refl _) o1).alloc (by simp) o2
  go_enter Try.func97, Try.ntmps97
  go_wp2_with fail
  refine (eqByteS_yes a b n ca cb xs _ (ha.below (B2 _ _)) (hb.below (B2 _ _)) h1).mono ?_
  rintro e w1 ⟨rfl, hb1⟩
  go_wp2
  go_ret
  exact ⟨rfl, (B2 _ _).trans (hb1.mono (by simp; omega))⟩

set_option maxHeartbeats 1600000 in
theorem eqBlockS_yes (a b : Option Addr) (n ca cb : Nat) (bs : List Bk) (w : World) (ha : RdB w a n bs) (hb : RdB w b n bs) (h1 : n ≤ 1073741824) :
    Calls Try.prog 70 #[.slice a n ca, .slice b n cb] w fun e w' => e = .returned (.bool true) ∧ Below w.heap.size w w' := by
  go_enter Try.func70, Try.ntmps70
  go_wp2
  go_loopw [5] (fun i wr => ∃ k : Nat, k ≤ n ∧ i = .int .i64 k ∧ Below w.heap.size w wr) (fun i _ => n - (intOf i).toNat)
  case atStart => exact ⟨0, Nat.zero_le _, rfl, Below.refl _ _⟩
  case round =>
    obtain ⟨k, hk, rfl, hbw⟩ := hrel
    by_cases hlt : k < n
    · obtain ⟨b1, o1, num, a1, c1, xs, rfl, hx, hc0, hc1, hr1, hl1, hm1⟩ := (ha.below hbw).at hlt
      obtain ⟨b2, o2, num', a2, c2, xs', rfl, hx', he0, he1, hr2, _⟩ := (hb.below hbw).at hlt
      obtain ⟨rfl, rfl⟩ : num = num' ∧ xs = xs' := by rw [hx] at hx'; simpa using hx'
      have HM : Hid (xs.length ≤ maxLen) := Nat.le_trans hl1 hm1
      clear hx hx' hl1 hm1
      have HR1 : Hid (Rd .u8 wr.drew a1 xs.length xs) := hr1.below (Below.refl _ _).drew
      have HR2 : Hid (Rd .u8 wr.drew a2 xs.length xs) := hr2.below (Below.refl _ _).drew
      clear hr1 hr2
      have hlt' : (k : Int) < (n : Int) := by omega
      go_wp2
      go_region_with (go_at_call 97; refine (eqBlock_yes num a1 a2 xs.length c1 c2 xs _ HR1.out HR2.out HM.out).mono ?_; rintro e w2 ⟨rfl, hb2⟩)
      all_goals
        go_wp2
        go_roundw
        case rel => exact ⟨k + 1, by omega, by go_num, hbw.drew.trans (hb2.mono hbw.size)⟩
        case measure => simp [intOf]; omega
    · go_wp2
      go_ret
      exact ⟨rfl, hbw⟩

set_option maxHeartbeats 400000 in
theorem eqCache_yes (u z : Int) (a b : Option Addr) (n ca cb : Nat) (bs : List Bk) (w : World) (ha : RdB w a n bs) (hb : RdB w b n bs) (h1 : n ≤ 1073741824) :
    Calls Try.prog 31 #[.agg #[.int .i64 u, .int .i64 z, .slice a n ca], .agg #[.int .i64 u, .int .i64 z, .slice b n cb]] w fun e w' => e = .returned (.bool true) ∧ Below w.heap.size w w' := by
  have B2 : ∀ o1 o2, Below w.heap.size w ((w.alloc o1).alloc o2) := fun o1 o2 => ((Below.refl _ _).alloc (Nat.le_refl _) o1).alloc (by simp) o2
  go_enter Try.func31, Try.ntmps31
  go_wp2_with fail
  refine (eqBlockS_yes a b n ca cb bs _ (ha.below (B2 _ _)) (hb.below (B2 _ _)) h1).mono ?_
  rintro e w1 ⟨rfl, hb1⟩
  go_wp2
  go_ret
  exact ⟨rfl, (B2 _ _).trans (hb1.mono (by simp; omega))⟩

set_option maxHeartbeats 400000 in
theorem eqCacheResult_yes (cd u z : Int) (p q : Option Addr) (m cp cq : Nat) (rs : List Int) (a b : Option Addr) (n ca cb : Nat) (bs : List Bk) (w : World) (hp : Rd .u8 w p m rs) (hq : Rd .u8 w q m rs) (ha : RdB w a n bs) (hb : RdB w b n bs) (h0 : m ≤ 1073741824) (h1 : n ≤ 1073741824) :
    Calls Try.prog 34 #[.agg #[.int .i64 cd, .slice p m cp, .int .i64 u, .int .i64 z, .slice a n ca], .agg #[.int .i64 cd, .slice q m cq, .int .i64 u, .int .i64 z, .slice b n cb]] w fun e w' => e = .returned (.bool true) ∧ Below w.heap.size w w' := by
  have B2 : ∀ o1 o2, Below w.heap.size w ((w.alloc o1).alloc o2) := fun o1 o2 => ((Below.refl _ _).alloc (Nat.le_refl _) o1).alloc (by simp) o2
  go_enter Try.func34, Try.ntmps34
  go_wp2_with fail
  refine (eqByteS_yes p q m cp cq rs _ (hp.below (B2 _ _)) (hq.below (B2 _ _)) (by unfold maxLen; omega)).mono ?_
  rintro e w1 ⟨rfl, hb1⟩
  have hb01 := (B2 _ _).trans (hb1.mono (by simp; omega))
  have d0 : w1.cell? ⟨w.heap.size, 2, none⟩ = some (.int .i64 u) := cell_later hb1 (by simp [go_sem])
  have d1 : w1.cell? ⟨w.heap.size, 3, none⟩ = some (.int .i64 z) := cell_later hb1 (by simp [go_sem])
  have d2 : w1.cell? ⟨w.heap.size, 4, none⟩ = some (.slice a n ca) := cell_later hb1 (by simp [go_sem])
  have e0 : w1.cell? ⟨w.heap.size + 1, 2, none⟩ = some (.int .i64 u) := cell_later hb1 (by simp [go_sem])
  have e1 : w1.cell? ⟨w.heap.size + 1, 3, none⟩ = some (.int .i64 z) := cell_later hb1 (by simp [go_sem])
  have e2 : w1.cell? ⟨w.heap.size + 1, 4, none⟩ = some (.slice b n cb) := cell_later hb1 (by simp [go_sem])
  go_wp2_with fail
  refine (eqCache_yes u z a b n ca cb bs _ (ha.below hb01) (hb.below hb01) h1).mono ?_
  rintro e w2 ⟨rfl, hb2⟩
  go_wp2
  go_ret
  exact ⟨rfl, hb01.trans (hb2.mono hb01.size)⟩

set_option maxHeartbeats 1600000 in
theorem markBlockS_row (v : Value) (n lo hi : Nat) (bs : List Bk) (x0 : Int) (w : World) (ho : RowB 93 5 w lo hi v n bs) (h1 : (n : Int) + byB bs ≤ 107374182) (h2 : 0 ≤ x0) (h3 : x0 ≤ 107374182) :
    Calls Try.prog 77 #[v, .int .i64 x0] w fun e w' => e = .returned (.int .i64 (x0 + (n + byB bs))) ∧ RowB 93 5 w' lo hi v n (mkBs x0 bs) ∧ Chg lo hi w w' := by
  have hlen := ho.len
  rcases ho.cases with ⟨rfl, rfl, rfl⟩ | ⟨g, cap, rfl, hglo, hghi, hgz⟩
  · go_enter Try.func77, Try.ntmps77
    go_wp2
    refine wp_loop_rounds 1 ?_
    rw [rounds_succ]
    go_wp2
    go_ret
    exact ⟨by simp [byB], by simpa [mkBs] using ho, Chg.refl _ _ _⟩
  · go_enter Try.func77, Try.ntmps77
    go_wp2
    go_loopw [1, 5] (fun x i wr => ∃ k : Nat, k ≤ n ∧ i = .int .i64 k ∧ x = .int .i64 (x0 + k + byB (bs.take k)) ∧ RowB 93 5 wr lo hi (.slice (some ⟨g, 0, none⟩) n cap) n (mkBs x0 (bs.take k) ++ bs.drop k) ∧ Chg lo hi w wr) (fun _ i _ => n - (intOf i).toNat)
    case atStart => exact ⟨0, Nat.zero_le _, rfl, by simp [byB], by simpa [mkBs] using ho, Chg.refl _ _ _⟩
    case round =>
      obtain ⟨k, hk, rfl, rfl, hr, hc⟩ := hrel
      by_cases hlt : k < n
      · have hk' : k < bs.length := by omega
        obtain ⟨num, xs, hx⟩ : ∃ num xs, bs[k]? = some (num, xs) := ⟨bs[k].1, bs[k].2, by simp [hk']⟩
        have hs := byB_succ hx
        have ht := byB_take bs (k + 1)
        have hmid := mkBs_mid x0 hx
        have hset := mkBs_set x0 hx
        have hst := RowB.num (num' := x0 + k + byB (bs.take k)) bu_ne hr hmid
        have hml : k < (mkBs x0 (bs.take k) ++ bs.drop k).length := (List.getElem?_eq_some_iff.1 hmid).1
        obtain ⟨a, c, d0, d1, hri, hback⟩ := RowB.elem bu_ne hst.1 (j := k) (num := x0 + k + byB (bs.take k)) (xs := xs) (List.getElem?_set_self hml)
        obtain ⟨_, _, p0, _⟩ := RowB.elem bu_ne hr hmid
        have f0 := hr.frozen (k * 2)
        have HB : Hid _ := hback
        have HG : Hid _ := hst.2.1
        have HI : Hid _ := hri
        have HE : Hid _ := hset
        clear hback hst hri hmid hset hr
        have hlt' : (k : Int) < (n : Int) := by omega
        go_wp2_with fail
        refine (markByteS_own (.slice a xs.length c) xs.length lo xs _ _ HI.out.1 (by omega) (by omega) (by omega)).mono ?_
        rintro e w2 ⟨rfl, hown, hgr⟩
        have hnew := HB.out w2 _ (by rw [mkB_len]) hown hgr
        rw [List.set_set, HE.out] at hnew
        have hc2 : Chg lo hi w w2 := (hc.trans (Chg.of_grown HG.out (fun j hj => by simp at hj; omega))).trans (Chg.of_grown hgr (fun j hj => ⟨(HI.out.1.lt j hj).1, HI.out.2 j hj⟩))
        have HN : Hid _ := hnew
        clear hnew hown hgr
        go_wp2
        go_roundw
        case rel => exact ⟨k + 1, by omega, by go_num, by rw [hs]; congr 1; push_cast; omega, HN.out, hc2⟩
        case measure => simp [intOf]; omega
      · go_wp2
        go_ret
        obtain rfl : k = n := by omega
        rw [List.drop_of_length_le (by omega), List.append_nil, List.take_of_length_le (by omega)] at hr
        rw [List.take_of_length_le (by omega)]
        exact ⟨ret_int (by omega), hr, hc⟩

set_option maxHeartbeats 400000 in
theorem markCache_row (u z x0 : Int) (v : Value) (n lo hi : Nat) (bs : List Bk) (w : World) (ho : RowB 93 5 w lo hi v n bs) (h1 : (n : Int) + byB bs ≤ 107374182) (h2 : 0 ≤ x0) (h3 : x0 ≤ 107374182) :
    Calls Try.prog 40 #[.agg #[.int .i64 u, .int .i64 z, v], .int .i64 x0] w fun e w' => e = .returned (.int .i64 (x0 + (n + byB bs))) ∧ RowB 93 5 w' lo hi v n (mkBs x0 bs) ∧ Chg lo hi w w' := by
  obtain ⟨a, cap, rfl, _⟩ := ho.shape
  go_enter Try.func40, Try.ntmps40
  go_wp2_with fail
  refine (markBlockS_row _ n lo hi bs x0 _ (ho.below ((Below.refl _ _).alloc (Nat.le_refl _) _)) h1 h2 h3).mono ?_
  rintro e w1 ⟨rfl, ho1, hg⟩
  go_wp2
  go_ret
  exact ⟨rfl, ho1, chg_alloc hg⟩

set_option maxHeartbeats 400000 in
theorem markCacheResult_row (cd u z x0 : Int) (vb va : Value) (m n lo mid hi : Nat) (rs : List Int) (bs : List Bk) (w : World) (hb : RowI .u8 5 w lo mid vb m rs) (ho : RowB 93 5 w mid hi va n bs) (hm1 : lo ≤ mid) (hm2 : mid ≤ hi) (hw : hi ≤ w.heap.size) (h0 : m ≤ 1048576) (h1 : (n : Int) + byB bs ≤ 1048576) (h2 : 0 ≤ x0) (h3 : x0 ≤ 1048576) :
    Calls Try.prog 35 #[.agg #[.int .i64 cd, vb, .int .i64 u, .int .i64 z, va], .int .i64 x0] w fun e w' => e = .returned (.int .i64 (x0 + (m + (n + byB bs)))) ∧ RowI .u8 5 w' lo mid vb m (mkB x0 m) ∧ RowB 93 5 w' mid hi va n (mkBs (x0 + m) bs) ∧ Chg lo hi w w' := by
  obtain ⟨a, cap, rfl, _⟩ := ho.shape
  obtain ⟨p, cp, rfl, _⟩ := hb.shape
  have B1 : ∀ o1, Below w.heap.size w (w.alloc o1) := fun o1 => (Below.refl _ _).alloc (Nat.le_refl _) o1
  go_enter Try.func35, Try.ntmps35
  go_wp2_with fail
  refine (markByteS_row _ m lo mid rs x0 _ (hb.below (B1 _)) (by omega) h2 (by omega)).mono ?_
  rintro e w1 ⟨rfl, hb1, hg⟩
  have ho1 := (ho.below (B1 _)).chg hg (by omega)
  have d0 : w1.cell? ⟨w.heap.size, 2, none⟩ = some (.int .i64 u) := hg.at (by simp [go_sem]) (by simp) (by omega)
  have d1 : w1.cell? ⟨w.heap.size, 3, none⟩ = some (.int .i64 z) := hg.at (by simp [go_sem]) (by simp) (by omega)
  have d2 : w1.cell? ⟨w.heap.size, 4, none⟩ = some (.slice a n cap) := hg.at (by simp [go_sem]) (by simp) (by omega)
  go_wp2_with fail
  refine (markCache_row u z (x0 + m) _ n mid hi bs _ ho1 (by omega) (by omega) (by omega)).mono ?_
  rintro e w2 ⟨rfl, ho2, hg2⟩
  go_wp2
  go_ret
  exact ⟨ret_int (by omega), hb1.chg hg2 (by omega), ho2, (chg_alloc (hg.mono (Nat.le_refl _) hm2)).trans (hg2.mono hm1 (Nat.le_refl _))⟩

set_option maxHeartbeats 1600000 in
theorem heldBlockS_yes (a : Option Addr) (n ca : Nat) (bs : List Bk) (x0 : Int) (w : World) (ha : RdB w a n (mkBs x0 bs)) (h1 : (n : Int) + byB bs ≤ 107374182) (h2 : 0 ≤ x0) (h3 : x0 ≤ 107374182) :
    Calls Try.prog 98 #[.slice a n ca, .int .i64 x0] w fun e w' => e = .returned (.int .i64 (x0 + (n + byB bs))) ∧ w' = w := by
  have hlen := ha.len
  rw [mkBs_len] at hlen
  go_enter Try.func98, Try.ntmps98
  go_wp2
  go_loop [1, 5] (fun x i => ∃ k : Nat, k ≤ n ∧ i = .int .i64 k ∧ x = .int .i64 (x0 + k + byB (bs.take k))) (fun _ i => n - (intOf i).toNat)
  case atStart => exact ⟨0, Nat.zero_le _, rfl, by simp [byB]⟩
  case round =>
    obtain ⟨k, hk, rfl, rfl⟩ := hrel
    by_cases hlt : k < n
    · have hk' : k < bs.length := by omega
      obtain ⟨num, xs, hx⟩ : ∃ num xs, bs[k]? = some (num, xs) := ⟨bs[k].1, bs[k].2, by simp [hk']⟩
      have hs := byB_succ hx
      have ht := byB_take bs (k + 1)
      obtain ⟨b1, o1, num1, a1, c1, xs1, rfl, hx1, hc0, hc1, hr1, _⟩ := ha.at hlt
      rw [mkBs_at x0 hx] at hx1
      obtain ⟨rfl, rfl⟩ : num1 = x0 + k + byB (bs.take k) ∧ xs1 = mkB (x0 + k + byB (bs.take k) + 1) xs.length := by simpa [eq_comm] using hx1
      rw [mkB_len] at hc1 hr1
      clear hx1
      have HR : Hid _ := hr1
      clear hr1
      have hlt' : (k : Int) < (n : Int) := by omega
      go_wp2_with fail
      refine (heldByteS_yes a1 xs.length c1 _ _ HR.out (by omega) (by omega) (by omega)).mono ?_
      rintro e w2 ⟨rfl, rfl⟩
      have hpos : ¬ x0 + (k : Int) + (byB (bs.take k) : Int) + 1 + (xs.length : Int) < 0 := by omega
      go_wp2
      go_round
      case rel => exact ⟨k + 1, by omega, by go_num, by rw [hs]; congr 1; push_cast; omega⟩
      case measure => simp [intOf]; omega
    · go_wp2
      go_ret
      obtain rfl : k = n := by omega
      rw [List.take_of_length_le (by omega)]
      exact ⟨ret_int (by omega), rfl⟩

set_option maxHeartbeats 400000 in
theorem heldCache_yes (u z x0 : Int) (a : Option Addr) (n ca : Nat) (bs : List Bk) (w : World) (ha : RdB w a n (mkBs x0 bs)) (h1 : (n : Int) + byB bs ≤ 107374182) (h2 : 0 ≤ x0) (h3 : x0 ≤ 107374182) :
    Calls Try.prog 74 #[.agg #[.int .i64 u, .int .i64 z, .slice a n ca], .int .i64 x0] w fun e w' => e = .returned (.int .i64 (x0 + (n + byB bs))) ∧ Below w.heap.size w w' := by
  go_enter Try.func74, Try.ntmps74
  go_wp2_with fail
  refine (heldBlockS_yes a n ca bs x0 _ (ha.below ((Below.refl _ _).alloc (Nat.le_refl _) _)) h1 h2 h3).mono ?_
  rintro e w1 ⟨rfl, rfl⟩
  have hpos : ¬ x0 + ((n : Int) + (byB bs : Int)) < 0 := by omega
  go_wp2
  go_ret
  exact ⟨rfl, (Below.refl _ _).alloc (Nat.le_refl _) _⟩

set_option maxHeartbeats 400000 in
theorem heldCacheResult_yes (cd u z x0 : Int) (p : Option Addr) (m cp : Nat) (a : Option Addr) (n ca : Nat) (bs : List Bk) (w : World) (hp : Rd .u8 w p m (mkB x0 m)) (ha : RdB w a n (mkBs (x0 + m) bs)) (h0 : m ≤ 1048576) (h1 : (n : Int) + byB bs ≤ 1048576) (h2 : 0 ≤ x0) (h3 : x0 ≤ 1048576) :
    Calls Try.prog 36 #[.agg #[.int .i64 cd, .slice p m cp, .int .i64 u, .int .i64 z, .slice a n ca], .int .i64 x0] w fun e w' => e = .returned (.int .i64 (x0 + (m + (n + byB bs)))) ∧ Below w.heap.size w w' := by
  have B1 : ∀ o1, Below w.heap.size w (w.alloc o1) := fun o1 => (Below.refl _ _).alloc (Nat.le_refl _) o1
  go_enter Try.func36, Try.ntmps36
  go_wp2_with fail
  refine (heldByteS_yes p m cp x0 _ (hp.below (B1 _)) (by omega) h2 (by omega)).mono ?_
  rintro e w1 ⟨rfl, rfl⟩
  have hpos : ¬ x0 + (m : Int) < 0 := by omega
  go_wp2_with fail
  refine (heldCache_yes u z (x0 + m) a n ca bs _ (ha.below (B1 _)) (by omega) (by omega) (by omega)).mono ?_
  rintro e w2 ⟨rfl, hb2⟩
  have hpos2 : ¬ x0 + (m : Int) + ((n : Int) + (byB bs : Int)) < 0 := by omega
  go_wp2
  go_ret
  exact ⟨ret_int (by omega), below_slot hb2⟩
end Go.Proofs.Ytckkkhabjfbngaa
