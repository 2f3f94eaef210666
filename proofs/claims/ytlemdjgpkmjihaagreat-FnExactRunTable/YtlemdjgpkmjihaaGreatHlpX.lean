/-
  HlpT, HlpT2, HlpT3 in one text.
-/
import Derived.Deep.RegionWith
import Derived.Test.YtlemdjgpkmjihaaGreatTabA
import Derived.Test.YtlemdjgpkmjihaaGreatHlpL
import Derived.Test.YtlemdjgpkmjihaaGreatHlpA
import Derived.Test.YtlemdjgpkmjihaaGreatBox
import Derived.Test.YtlemdjgpkmjihaaGreatJoin
namespace Go.Proofs.YtlemdjgpkmjihaaGreat
open Go.RowKit
set_option linter.unusedVariables false
set_option linter.unusedSimpArgs false

theorem is_ne : (2 : TypeId) ≠ 91 := by decide

theorem azne : (99 : TypeId) ≠ 91 := by decide

theorem ai_ne : (99 : TypeId) ≠ 2 := by decide

theorem tabOk (weak : Bool) : ElOk (StEl weak 2 99) suB 91 := StEl.ok weak is_ne azne

theorem szArcS_any (a : Option Addr) (n ca : Nat) (L : Int) (w : World) (hn : n ≤ maxLen) (h0 : 0 ≤ L) (hL : L ≤ 1048576) :
    Calls Tryz.prog 78 #[.slice a n ca, .int .i64 L] w fun e w' => e = .returned (.int .i64 (if L < (n : Int) then -1 else L - n)) ∧ w' = w := by
  unfold maxLen at hn
  by_cases h : L < (n : Int)
  · rw [if_pos h]
    have h' : L - (n : Int) < 0 := by omega
    go_enter Tryz.func78, Tryz.ntmps78
    go_wp2
    go_ret
    exact ⟨rfl, rfl⟩
  · rw [if_neg h]
    have h' : ¬ L - (n : Int) < 0 := by omega
    go_enter Tryz.func78, Tryz.ntmps78
    go_wp2
    go_ret
    exact ⟨rfl, rfl⟩

theorem szInt64S_any (a : Option Addr) (n ca : Nat) (L : Int) (w : World) (hn : n ≤ maxLen) (h0 : 0 ≤ L) (hL : L ≤ 1048576) :
    Calls Tryz.prog 77 #[.slice a n ca, .int .i64 L] w fun e w' => e = .returned (.int .i64 (if L < (n : Int) then -1 else L - n)) ∧ w' = w := by
  by_cases h : L < (n : Int)
  · rw [if_pos h]; exact szInt64S_no a n ca L w (by omega) hn h0 hL
  · rw [if_neg h]; exact szInt64S_yes a n ca L w (by omega) hL

set_option maxHeartbeats 800000 in
theorem szSetState_any (p q : Option Addr) (m n cp cq : Nat) (L : Int) (w : World) (hm : m ≤ maxLen) (hn : n ≤ maxLen) (h0 : 0 ≤ L) (hL : L ≤ 1048576) :
    Calls Tryz.prog 46 #[.agg #[.slice p m cp, .slice q n cq], .int .i64 L] w fun e w' => e = .returned (.int .i64 (if L < (m : Int) + n then -1 else L - m - n)) ∧ Below w.heap.size w w' := by
  have B1 : ∀ o, Below w.heap.size w (w.alloc o) := fun o => (Below.refl _ _).alloc (Nat.le_refl _) o
  have HM : Hid _ := hm
  have HN : Hid _ := hn
  clear hm hn
  by_cases h1 : L < (m : Int)
  · rw [if_pos (by omega)]
    go_enter Tryz.func46, Tryz.ntmps46
    go_wp2_with fail
    refine (szInt64S_any p m cp L _ HM.out h0 hL).mono ?_
    rw [if_pos h1]
    rintro e w1 ⟨rfl, rfl⟩
    go_wp2
    go_ret
    exact ⟨rfl, B1 _⟩
  · have h2 : ¬ L - (m : Int) < 0 := by omega
    obtain ⟨z, hz⟩ : ∃ z, z = L - (m : Int) := ⟨_, rfl⟩
    by_cases h3 : L - (m : Int) < n
    · rw [if_pos (by omega)]
      go_enter Tryz.func46, Tryz.ntmps46
      go_wp2_with fail
      refine (szInt64S_any p m cp L _ HM.out h0 hL).mono ?_
      rw [if_neg (by omega)]
      rintro e w1 ⟨rfl, rfl⟩
      go_wp2_with fail
      refine (szArcS_any q n cq _ _ HN.out (by omega) (by omega)).mono ?_
      rw [if_pos h3]
      rintro e w1 ⟨rfl, rfl⟩
      go_wp2
      go_ret
      exact ⟨rfl, B1 _⟩
    · rw [if_neg (by omega)]
      have h4 : ¬ L - (m : Int) - (n : Int) < 0 := by omega
      go_enter Tryz.func46, Tryz.ntmps46
      go_wp2_with fail
      refine (szInt64S_any p m cp L _ HM.out h0 hL).mono ?_
      rw [if_neg (by omega)]
      rintro e w1 ⟨rfl, rfl⟩
      go_wp2_with fail
      refine (szArcS_any q n cq _ _ HN.out (by omega) (by omega)).mono ?_
      rw [if_neg (by omega)]
      rintro e w1 ⟨rfl, rfl⟩
      go_wp2
      go_ret
      exact ⟨rfl, B1 _⟩

set_option maxHeartbeats 800000 in
theorem szSetStateS_any (a : Option Addr) (n ca : Nat) (ts : List St) (L : Int) (w : World) (ha : RdT w a n ts) (hn : n ≤ maxLen) (h0 : 0 ≤ L) (hL : L ≤ 1048576) :
    Calls Tryz.prog 24 #[.slice a n ca, .int .i64 L] w fun e w' => e = .returned (.int .i64 (if L < (n : Int) + stN ts then -1 else L - n - stN ts)) ∧ Below w.heap.size w w' := by
  have hlen := ha.len
  obtain ⟨R, hR⟩ : ∃ R, R = (if L < (n : Int) + stN ts then -1 else L - n - stN ts) := ⟨_, rfl⟩
  rw [← hR]
  have HR : Hid _ := hR
  have HL : Hid _ := hlen
  clear hR hlen
  unfold maxLen at hn
  by_cases h : L < n
  · go_enter Tryz.func24, Tryz.ntmps24
    go_wp2
    go_ret
    exact ⟨ret_int (by rw [HR.out, if_pos (by omega)]), Below.refl _ _⟩
  · have h' : ¬ L - (n : Int) < 0 := by omega
    go_enter Tryz.func24, Tryz.ntmps24
    go_wp2
    go_loopw [1, 5] (fun x i wr => ∃ (k : Nat) (z : Int), k ≤ n ∧ i = .int .i64 k ∧ x = .int .i64 z ∧ z = L - n - stN (ts.take k) ∧ 0 ≤ z ∧ z ≤ 1048576 ∧ Below w.heap.size w wr) (fun _ i _ => n - (intOf i).toNat)
    case atStart => exact ⟨0, L - n, Nat.zero_le _, rfl, rfl, by simp [stN], by omega, by omega, Below.refl _ _⟩
    case round =>
      obtain ⟨k, z, hk, rfl, rfl, hz, hz0, hz1, hbw⟩ := hrel
      have HZ : Hid _ := hz
      clear hz
      by_cases hlt : k < n
      · obtain ⟨b1, o1, p, cp, q, cq, ss, az, rfl, hx, c0, c1, _, _, ⟨m1, m2⟩, m3, m4⟩ := (ha.below hbw).at hlt
        have M1 : Hid (ss.length ≤ maxLen) := Nat.le_trans m1 m2
        have M2 : Hid (az.length ≤ maxLen) := Nat.le_trans m3 m4
        have hs := stN_succ hx
        have ht := stN_take ts (k + 1)
        rw [hs] at ht
        have HS : Hid _ := hs
        have HT : Hid _ := ht
        clear m1 m2 m3 m4 hx hs ht
        have hlt' : (k : Int) < (n : Int) := by omega
        by_cases h3 : z < (ss.length : Int) + az.length
        · go_wp2_with fail
          refine (szSetState_any p q ss.length az.length cp cq z _ M1.out M2.out hz0 hz1).mono ?_
          rw [if_pos h3]
          rintro e w2 ⟨rfl, hb2⟩
          go_wp2
          go_ret
          refine ⟨ret_int ?_, hbw.trans (hb2.mono hbw.size)⟩
          have h7 := HZ.out
          have h8 := HT.out
          rw [HR.out, if_pos (by omega)]
        · have h4 : ¬ z - (ss.length : Int) - (az.length : Int) < 0 := by omega
          obtain ⟨y, hy⟩ : ∃ y, y = z - (ss.length : Int) - (az.length : Int) := ⟨_, rfl⟩
          rw [← hy] at h4
          go_wp2_with fail
          refine (szSetState_any p q ss.length az.length cp cq z _ M1.out M2.out hz0 hz1).mono ?_
          rw [if_neg (by omega), ← hy]
          rintro e w2 ⟨rfl, hb2⟩
          have HY : Hid _ := hy
          clear hy
          go_wp2
          go_roundw
          case rel => exact ⟨k + 1, y, by omega, by go_num, rfl, by rw [HY.out, HZ.out, HS.out]; push_cast; omega, by omega, by have := HY.out; omega, hbw.trans (hb2.mono hbw.size)⟩
          case measure => simp [intOf]; omega
      · obtain rfl : k = n := by omega
        go_wp2
        go_ret
        refine ⟨ret_int ?_, hbw⟩
        have h7 := HZ.out
        rw [List.take_of_length_le (by rw [HL.out]; exact Nat.le_refl _)] at h7
        rw [HR.out, if_neg (by omega), h7]

set_option maxHeartbeats 400000 in
theorem szTable_any (z : Int) (a : Option Addr) (n ca : Nat) (ts : List St) (L : Int) (w : World) (ha : RdT w a n ts) (hn : n ≤ maxLen) (h0 : 0 ≤ L) (hL : L ≤ 1048576) :
    Calls Tryz.prog 6 #[.agg #[.int .i64 z, .slice a n ca], .int .i64 L] w fun e w' => e = .returned (.int .i64 (if L < (n : Int) + stN ts then -1 else L - n - stN ts)) ∧ Below w.heap.size w w' := by
  have HN : Hid _ := hn
  clear hn
  by_cases h : L < (n : Int) + stN ts
  · go_enter Tryz.func6, Tryz.ntmps6
    go_wp2_with fail
    refine (szSetStateS_any a n ca ts L _ (ha.below ((Below.refl _ _).alloc (Nat.le_refl _) _)) HN.out h0 hL).mono ?_
    rw [if_pos h]
    rintro e w1 ⟨rfl, hb1⟩
    go_wp2
    go_ret
    exact ⟨rfl, below_slot hb1⟩
  · have h' : ¬ L - (n : Int) - (stN ts : Int) < 0 := by omega
    go_enter Tryz.func6, Tryz.ntmps6
    go_wp2_with fail
    refine (szSetStateS_any a n ca ts L _ (ha.below ((Below.refl _ _).alloc (Nat.le_refl _) _)) HN.out h0 hL).mono ?_
    rw [if_neg (by omega)]
    rintro e w1 ⟨rfl, hb1⟩
    go_wp2
    go_ret
    exact ⟨rfl, below_slot hb1⟩

set_option maxHeartbeats 400000 in
theorem toArc_any (x y : Int) (w : World) :
    Calls Tryz.prog 101 #[.agg #[.int .i64 x, .int .i64 y]] w fun e w' => e = .returned (.agg #[.int .i64 x, .int .i64 y]) ∧ Below w.heap.size w w' := by
  go_enter Tryz.func101, Tryz.ntmps101
  go_wp2
  refine bodyPost_ret (v := .agg #[.int .i64 x, .int .i64 y]) (by simp [results, Tryz.results101, go_sem]) rfl ⟨rfl, ?_⟩
  exact (((Below.refl _ _).alloc (Nat.le_refl _) _).alloc (by simp) _).alloc (by simp; omega) _

theorem infoArc : (Tryz.prog.info? 99).map (fun i => (i.zero, i.size, i.bytes)) = some (some (.agg #[.int .i64 0, .int .i64 0]), 2, 16) := by kernel_rfl

theorem made2 (n : Nat) : (madeCells #[Value.int .i64 0, .int .i64 0] (n * 2)).toList = (List.replicate n ((0, 0) : L2)).flatMap lineE := by
  apply List.ext_getElem?
  intro j
  by_cases hj : j < n * 2
  · have hq : j / 2 < n := by omega
    have h := getElem?_flatMap lineE 2 lineE_len (List.replicate n ((0, 0) : L2)) (j / 2) (j % 2) (0, 0) (by simp [hq]) (by omega)
    rw [show j / 2 * 2 + j % 2 = j by omega] at h
    rw [h]
    have : j % 2 = 0 ∨ j % 2 = 1 := by omega
    rcases this with h | h <;> simp [madeCells, hj, h, lineE]
  · have h2 := length_flatMap' lineE 2 lineE_len (List.replicate n ((0, 0) : L2))
    rw [List.getElem?_eq_none (by simp [madeCells]; omega), List.getElem?_eq_none (by rw [h2]; simp; omega)]

theorem copy2_set (cs : List L2) (n k : Nat) (c : L2) (h : cs.length = n) (hk : cs[k]? = some c) :
    (cs.take k ++ List.replicate (n - k) (0, 0)).set k c = cs.take (k + 1) ++ List.replicate (n - (k + 1)) (0, 0) := by
  have hk' := (List.getElem?_eq_some_iff.1 hk).1
  obtain ⟨d, hd⟩ : ∃ d, n - k = d + 1 := ⟨n - k - 1, by omega⟩
  rw [hd, List.replicate_succ, set_mid _ _ (by simp; omega), List.take_add_one, hk, show n - (k + 1) = d by omega]
  simp

set_option maxHeartbeats 800000 in
theorem toArcS_any (a : Option Addr) (n ca : Nat) (cs : List L2) (w : World) (ha : RdR lineE 2 w a n cs) (h1 : n ≤ 1073741824) :
    Calls Tryz.prog 85 #[.slice a n ca] w fun e w' => ∃ v, e = .returned v ∧ OwnR lineE 2 99 w' w.heap.size v n cs ∧ Below w.heap.size w w' := by
  obtain ⟨i0, hi, hz0, hz1, hz2⟩ := info_parts infoArc
  have hlen := ha.1
  go_enter Tryz.func85, Tryz.ntmps85
  go_wp2_with (at_make; refine wpList_make_full _ rfl _ _ 89 rfl w.heap.size 99 i0 (.agg #[.int .i64 0, .int .i64 0]) 2 Tryz.underlying89 hi hz0 hz1 _ _ _ _ n rfl rfl rfl rfl (by rw [hz2]; omega) (by unfold maxLen; omega) (Nat.le_refl _) ?_)
  intro w1 hown1 hgrow1
  have ho1 : OwnR lineE 2 99 w1 w.heap.size (.slice (some ⟨w.heap.size, 0, none⟩) n n) n (List.replicate n (0, 0)) := by
    refine ⟨by simp, ?_⟩
    rw [← made2]
    simpa [Value.cells] using hown1
  have hb1 : Below w.heap.size w w1 := (Below.refl _ _).grown hgrow1 (Nat.le_refl _) (by simp)
  clear hown1 hgrow1
  go_wp2
  go_loopw [4] (fun i wr => ∃ k : Nat, k ≤ n ∧ i = .int .i64 k ∧ OwnR lineE 2 99 wr w.heap.size (.slice (some ⟨w.heap.size, 0, none⟩) n n) n (cs.take k ++ List.replicate (n - k) (0, 0)) ∧ Below w.heap.size w wr ∧ w.heap.size < wr.heap.size) (fun i _ => n - (intOf i).toNat)
  case atStart => exact ⟨0, Nat.zero_le _, rfl, by simpa using ho1, hb1, (ho1.lt w.heap.size rfl).2⟩
  case round =>
    obtain ⟨q, hq, rfl, ho, hb, hz⟩ := hrel
    by_cases hlt : q < n
    · obtain ⟨b1, o1, ci, rfl, hx, hc1⟩ := (ha.below hb).at hlt
      obtain ⟨c0, c1⟩ := two hc1
      have HX : Hid _ := hx
      clear hx hc1
      obtain ⟨x, y⟩ := ci
      simp only at c0 c1
      have hlt' : (q : Int) < (n : Int) := by omega
      go_wp2_with fail
      refine (toArc_any x y _).mono ?_
      rintro e w2 ⟨rfl, hb2⟩
      have ho2 := ho.below hb2
      have hold : (cs.take q ++ List.replicate (n - q) ((0, 0) : L2))[q]? = some (0, 0) := by
        have hl : (cs.take q).length = q := by simp; omega
        rw [List.getElem?_append_right (by omega), hl, Nat.sub_self, List.getElem?_replicate, if_pos (by omega)]
      have d0 := OwnR.cell (f := 0) lineE_len ho2 hold rfl
      have d1 := OwnR.cell (f := 1) lineE_len ho2 hold rfl
      have f0 := ho2.frozen (q * 2)
      have f1 := ho2.frozen (q * 2 + 1)
      rw [Nat.add_zero] at d0
      have hst := store2 ho2 hold x y
      rw [copy2_set cs n q _ hlen HX.out] at hst
      have HS : Hid _ := hst
      have hb02 : Below w.heap.size w w2 := hb.trans (hb2.mono hb.size)
      have hz2 : w.heap.size < w2.heap.size := by have := hb2.size; omega
      clear hst ho2 ho hold hb hb2
      go_wp2
      go_roundw
      case rel => exact ⟨q + 1, by omega, by go_num, HS.out.1, (hb02.setCell (Nat.le_refl _) _).setCell (Nat.le_refl _) _, by simpa [World.setCell] using hz2⟩
      case measure => simp [intOf]; omega
    · go_wp2
      go_ret
      obtain rfl : q = n := by omega
      refine ⟨_, rfl, ?_, hb⟩
      rw [List.take_of_length_le (by omega), Nat.sub_self, List.replicate_zero, List.append_nil] at ho
      exact ho

theorem Blk.new1 (w : World) (o : Obj) (cs : Array Value) (t : TypeId) : Blk ((w.alloc o).alloc (.cells cs t)) (w.heap.size + 1) cs t := by
  have := Blk.new (w.alloc o) cs t
  rwa [World.size_alloc] at this
theorem Blk.new2 (w : World) (o o' : Obj) (cs : Array Value) (t : TypeId) : Blk (((w.alloc o).alloc o').alloc (.cells cs t)) (w.heap.size + 1 + 1) cs t := by
  have := Blk.new ((w.alloc o).alloc o') cs t
  rwa [World.size_alloc, World.size_alloc] at this
theorem Blk.of {w W : World} {B : Nat} {cs : Array Value} {t : TypeId} (h : Blk W B cs t) (hb : Below W.heap.size W w) : Blk w B cs t := (hb.block B h.lt).trans h

set_option maxHeartbeats 800000 in
theorem toSetState_any (p q : Option Addr) (cp cq : Nat) (ss : List Int) (az : List L2) (w : World) (ha : Rd .i64 w p ss.length ss) (hb : RdR lineE 2 w q az.length az) (h1 : ss.length ≤ 1073741824) (h2 : az.length ≤ 1073741824) :
    Calls Tryz.prog 55 #[.agg #[.slice p ss.length cp, .slice q az.length cq]] w fun e w' => ∃ a1 c1 a2 c2 m, e = .returned (.agg #[.slice a1 ss.length c1, .slice a2 az.length c2]) ∧
      RowI .i64 2 w' w.heap.size m (.slice a1 ss.length c1) ss.length ss ∧ RowS lineE 2 99 w' m w'.heap.size (.slice a2 az.length c2) az.length az ∧ w.heap.size ≤ m ∧ m ≤ w'.heap.size ∧ Below w.heap.size w w' := by
  have B3 : ∀ o1 o2 o3, Below w.heap.size w (((w.alloc o1).alloc o2).alloc o3) := fun o1 o2 o3 => (((Below.refl _ _).alloc (Nat.le_refl _) o1).alloc (by simp) o2).alloc (by simp; omega) o3
  go_enter Tryz.func55, Tryz.ntmps55
  go_wp2_with fail
  refine (toInt64S_any p ss.length cp ss _ (ha.below (B3 _ _ _)) h1).mono ?_
  rintro e w1 ⟨v1, rfl, ho1, hb1⟩
  obtain ⟨a1, c1, hv1, -⟩ := ho1.rdc
  subst hv1
  have hb01 := (B3 _ _ _).trans (hb1.mono (by simp; omega))
  have z1 : w.heap.size + 1 + 1 < w1.heap.size := by have := hb1.size; simp at this; omega
  have r1 : RowI .i64 2 w1 (w.heap.size + 1 + 1 + 1) w1.heap.size (.slice a1 ss.length c1) ss.length ss := RowI.mono (RowI.of ho1) (by simp) (Nat.le_refl _)
  have k0 := (((Blk.new w #[.slice p ss.length cp, .slice q az.length cq] 86).alloc (.cells #[.slice none 0 0, .slice none 0 0] 91)).alloc (.cells #[.slice none 0 0, .slice none 0 0] 91)).of hb1
  have k1 := ((Blk.new1 w (.cells #[.slice p ss.length cp, .slice q az.length cq] 86) #[.slice none 0 0, .slice none 0 0] 91).alloc (.cells #[.slice none 0 0, .slice none 0 0] 91)).of hb1
  have k2 := (Blk.new2 w (.cells #[.slice p ss.length cp, .slice q az.length cq] 86) (.cells #[.slice none 0 0, .slice none 0 0] 91) #[.slice none 0 0, .slice none 0 0] 91).of hb1
  have q1 : w1.cell? ⟨w.heap.size, 1, none⟩ = some (.slice q az.length cq) := k0.cell 1
  have d0 : w1.cell? ⟨w.heap.size + 1 + 1, 0, none⟩ = some (.slice none 0 0) := k2.cell 0
  have f0 := k2.frozen 0
  clear hb1 ho1
  go_wp2_with fail
  obtain ⟨X, hX⟩ : ∃ X, X = w1.setCell ⟨w.heap.size + 1 + 1, 0, none⟩ (.slice a1 ss.length c1) := ⟨_, rfl⟩
  rw [← hX]
  have k0 : Blk X w.heap.size #[.slice p ss.length cp, .slice q az.length cq] 86 := by rw [hX]; exact k0.other (by omega) _
  have k1 : Blk X (w.heap.size + 1) #[.slice none 0 0, .slice none 0 0] 91 := by rw [hX]; exact k1.other (by omega) _
  have k2 : Blk X (w.heap.size + 1 + 1) #[.slice a1 ss.length c1, .slice none 0 0] 91 := by rw [hX]; exact k2.set _
  have r1 : RowI .i64 2 X (w.heap.size + 1 + 1 + 1) X.heap.size (.slice a1 ss.length c1) ss.length ss := by
    rw [hX]
    exact RowI.mono (r1.chg (Chg.one (set_grown _ _ _ _)) (by omega)) (Nat.le_refl _) (by simp)
  have hbX : Below w.heap.size w X := by rw [hX]; exact hb01.setCell (by simp; omega) _
  have zX : w.heap.size + 1 + 1 < X.heap.size := by rw [hX]; simpa using z1
  clear hX q1 d0 f0 hb01 z1
  refine (toArcS_any q az.length cq az _ (hb.below hbX) h2).mono ?_
  rintro e w2 ⟨v2, rfl, ho2, hb2⟩
  obtain ⟨a2, c2, hv2, -⟩ := ho2.rd lineE_len
  subst hv2
  have k1 : Blk w2 (w.heap.size + 1) #[.slice none 0 0, .slice none 0 0] 91 := (hb2.block _ (by omega)).trans k1
  have k2 : Blk w2 (w.heap.size + 1 + 1) #[.slice a1 ss.length c1, .slice none 0 0] 91 := (hb2.block _ (by omega)).trans k2
  have q1 : w2.cell? ⟨w.heap.size + 1 + 1, 1, none⟩ = some (.slice none 0 0) := k2.cell 1
  have q0 : w2.cell? ⟨w.heap.size + 1 + 1, 0, none⟩ = some (.slice a1 ss.length c1) := k2.cell 0
  have f1 := k2.frozen 1
  have g0 : w2.cell? ⟨w.heap.size + 1, 0, none⟩ = some (.slice none 0 0) := k1.cell 0
  have g1 : w2.cell? ⟨w.heap.size + 1, 1, none⟩ = some (.slice none 0 0) := k1.cell 1
  have e0 := k1.frozen 0
  have e1 := k1.frozen 1
  have hb02 : Below w.heap.size w w2 := hbX.trans (hb2.mono hbX.size)
  have r2 : RowI .i64 2 w2 (w.heap.size + 1 + 1 + 1) X.heap.size (.slice a1 ss.length c1) ss.length ss := r1.below hb2
  have r3 : RowS lineE 2 99 w2 X.heap.size w2.heap.size (.slice a2 az.length c2) az.length az := RowS.of ho2
  have zz := hb2.size
  clear k0 k1 k2 r1 hbX hb2 ho2
  have S : ∀ (W : World) (b i : Nat) (x : Value), b < w.heap.size + 1 + 1 + 1 → RowI .i64 2 W (w.heap.size + 1 + 1 + 1) X.heap.size (.slice a1 ss.length c1) ss.length ss → RowI .i64 2 (W.setCell ⟨b, i, none⟩ x) (w.heap.size + 1 + 1 + 1) X.heap.size (.slice a1 ss.length c1) ss.length ss := fun W b i x hb' hr =>
    hr.chg (Chg.one (set_grown W b i x)) (by omega)
  have S' : ∀ (W : World) (b i : Nat) (x : Value), b < w.heap.size + 1 + 1 + 1 → RowS lineE 2 99 W X.heap.size w2.heap.size (.slice a2 az.length c2) az.length az → RowS lineE 2 99 (W.setCell ⟨b, i, none⟩ x) X.heap.size w2.heap.size (.slice a2 az.length c2) az.length az := fun W b i x hb' hr =>
    hr.chg (Chg.one (set_grown W b i x)) (by omega)
  go_wp2
  refine bodyPost_ret (v := .agg #[.slice a1 ss.length c1, .slice a2 az.length c2]) (by simp [results, Tryz.results55, go_sem, g0, g1]) rfl ⟨a1, c1, a2, c2, X.heap.size, rfl, ?_, ?_, ?_, ?_, ?_⟩
  · refine RowI.mono ?_ (show w.heap.size ≤ w.heap.size + 1 + 1 + 1 by omega) (Nat.le_refl _)
    repeat first | exact r2 | refine S _ _ _ _ (by omega) ?_
  · refine RowS.mono (lo := X.heap.size) (hi := w2.heap.size) ?_ (Nat.le_refl _) (by simp)
    repeat first | exact r3 | refine S' _ _ _ _ (by omega) ?_
  · omega
  · simpa using zz
  · repeat first | exact hb02 | refine Below.setCell ?_ (by first | omega | (simp; done) | (simp; omega)) _

theorem infoSt : (Tryz.prog.info? 91).map (fun i => (i.zero, i.size, i.bytes)) = some (some (.agg #[.slice none 0 0, .slice none 0 0]), 2, 48) := by kernel_rfl

theorem madeSt (n : Nat) : (madeCells #[Value.slice none 0 0, .slice none 0 0] (n * 2)).toList = (List.replicate n ((Value.slice none 0 0, Value.slice none 0 0) : Sv)).flatMap svE := by
  apply List.ext_getElem?
  intro j
  by_cases hj : j < n * 2
  · have hq : j / 2 < n := by omega
    have h := getElem?_flatMap svE 2 svE_len (List.replicate n ((Value.slice none 0 0, Value.slice none 0 0) : Sv)) (j / 2) (j % 2) (.slice none 0 0, .slice none 0 0) (by simp [hq]) (by omega)
    rw [show j / 2 * 2 + j % 2 = j by omega] at h
    rw [h]
    have : j % 2 = 0 ∨ j % 2 = 1 := by omega
    rcases this with h | h <;> simp [madeCells, hj, h, svE]
  · have h2 := length_flatMap' svE 2 svE_len (List.replicate n ((Value.slice none 0 0, Value.slice none 0 0) : Sv))
    rw [List.getElem?_eq_none (by simp [madeCells]; omega), List.getElem?_eq_none (by rw [h2]; simp; omega)]

/-- Two cells of a state are stored. -/
theorem storeSt {e : TypeId} {w : World} {base g n cap j : Nat} {us : List Su} {u : Su} (h : OwnR suE 2 e w base (.slice (some ⟨g, 0, none⟩) n cap) n us) (hx : us[j]? = some u) (v : Su) :
    OwnR suE 2 e ((w.setCell ⟨g, j * 2, none⟩ v.1.1).setCell ⟨g, j * 2 + 1, none⟩ v.2.1) base (.slice (some ⟨g, 0, none⟩) n cap) n (us.set j v) := by
  have hj : j < us.length := (List.getElem?_eq_some_iff.1 hx).1
  have s0 := OwnR.store (f := 0) (u := v.1.1) (y := (v.1, u.2)) suE_len h hx (by omega) rfl
  have x1 : (us.set j (v.1, u.2))[j]? = some (v.1, u.2) := by simp [hj]
  have s1 := OwnR.store (f := 1) (u := v.2.1) (y := v) suE_len s0.1 x1 (by omega) rfl
  rw [List.set_set] at s1
  exact s1.1

/-- A whole state is stored, its rows behind all that the row had. -/
theorem RowT.set {weak : Bool} {w : World} {lo hi lo' hi' g cap n j : Nat} {ts : List St} {u : Su} {x : St} (h : RowT weak 91 2 99 w lo hi (.slice (some ⟨g, 0, none⟩) n cap) n ts) (hj : j < n)
    (hel : StEl weak 2 99 w lo' hi' u x) (hd : hi ≤ lo') (hl : lo ≤ lo') (hh : hi ≤ hi') :
    RowT weak 91 2 99 ((w.setCell ⟨g, j * 2, none⟩ u.1.1).setCell ⟨g, j * 2 + 1, none⟩ u.2.1) lo hi' (.slice (some ⟨g, 0, none⟩) n cap) n (ts.set j x) := by
  have hin := (tabOk weak).inn hel
  obtain ⟨h0, h1, h2⟩ : lo ≤ g ∧ g < hi ∧ g < w.heap.size := by
    rcases h.cases with h0 | ⟨g', cap', e, h0⟩
    · simp at h0
    · simp at e
      obtain ⟨rfl, -⟩ := e
      exact h0
  refine RowN.set (tabOk weak) h hj (fun us u' ho hu => storeSt ho hu u) ?_ ((tabOk weak).mono hel hl (Nat.le_refl _)) (fun b hb => by have := hin b hb; omega) hh (fun hg => by have := hin g hg; omega)
  exact ⟨rfl, rfl, rfl, by simp, fun k hk hr => (Below.heap_setCell _ _ _ _ (fun e => hr (by rw [e]))).trans (Below.heap_setCell _ _ _ _ (fun e => hr (by rw [e])))⟩

set_option maxHeartbeats 1600000 in
theorem toSetStateS_any (a : Option Addr) (n ca : Nat) (ts : List St) (w : World) (ha : RdT w a n ts) (h1 : (n : Int) + stN ts ≤ 1073741824) :
    Calls Tryz.prog 31 #[.slice a n ca] w fun e w' => ∃ v, e = .returned v ∧ RowT false 91 2 99 w' w.heap.size w'.heap.size v n ts ∧ Below w.heap.size w w' := by
  obtain ⟨i0, hi, hz0, hz1, hz2⟩ := info_parts infoSt
  have hlen := ha.len
  go_enter Tryz.func31, Tryz.ntmps31
  go_wp2_with (at_make; refine wpList_make_full _ rfl _ _ 28 rfl w.heap.size 91 i0 (.agg #[.slice none 0 0, .slice none 0 0]) 2 Tryz.underlying28 hi hz0 hz1 _ _ _ _ n rfl rfl rfl rfl (by rw [hz2]; omega) (by unfold maxLen; omega) (Nat.le_refl _) ?_)
  intro w1 hown1 hgrow1
  have ho0 : w1.ownsRow w.heap.size 91 2 (.slice (some ⟨w.heap.size, 0, none⟩) n n) n ((List.replicate n ((Value.slice none 0 0, Value.slice none 0 0) : Sv)).flatMap svE) := by
    rw [← madeSt]
    simpa [Value.cells] using hown1
  have hs1 : w.heap.size < w1.heap.size := (World.ownsRow.lt ho0 w.heap.size rfl).2
  have ho1 : RowT false 91 2 99 w1 w.heap.size w1.heap.size (.slice (some ⟨w.heap.size, 0, none⟩) n n) n (List.replicate n ([], [])) := RowT.zeros ho0 hs1
  have hb1 : Below w.heap.size w w1 := (Below.refl _ _).grown hgrow1 (Nat.le_refl _) (by simp)
  clear hown1 hgrow1 ho0
  go_wp2
  go_loopw [4] (fun i wr => ∃ k : Nat, k ≤ n ∧ i = .int .i64 k ∧ RowT false 91 2 99 wr w.heap.size wr.heap.size (.slice (some ⟨w.heap.size, 0, none⟩) n n) n (ts.take k ++ List.replicate (n - k) ([], [])) ∧ Below w.heap.size w wr ∧ w.heap.size < wr.heap.size) (fun i _ => n - (intOf i).toNat)
  case atStart => exact ⟨0, Nat.zero_le _, rfl, by simpa using ho1, hb1, hs1⟩
  case round =>
    obtain ⟨k, hk, rfl, ho, hb, hz⟩ := hrel
    by_cases hlt : k < n
    · obtain ⟨b1, o1, p, cp, q, cq, ss, az, rfl, hx, c0, c1, r1, r2, -, -⟩ := (ha.below hb).at hlt
      have hs := stN_succ hx
      have ht := stN_take ts (k + 1)
      rw [hs] at ht
      have HX : Hid _ := hx
      clear hx hs
      have hlt' : (k : Int) < (n : Int) := by omega
      go_wp2_with fail
      refine (toSetState_any p q cp cq ss az _ r1 r2 (by omega) (by omega)).mono ?_
      rintro e w2 ⟨a1, c1', a2, c2', m, rfl, q1, q2, hm1, hm2, hb2⟩
      have ho2 := RowN.below (tabOk false) ho hb2
      obtain ⟨u0, e0, -, -⟩ := RowN.elem (tabOk false) suE_len ho2 (cpT_mid ts n k hlen hlt)
      have d0 := e0 0 _ rfl
      have d1 := e0 1 _ rfl
      rw [Nat.add_zero] at d0
      have f0 := ho2.frozen (k * 2)
      have f1 := ho2.frozen (k * 2 + 1)
      have hel : StEl false 2 99 w2 wr.heap.size w2.heap.size ((.slice a1 ss.length c1', (Value.slice a1 ss.length c1').ownBlock), (.slice a2 az.length c2', (Value.slice a2 az.length c2').ownBlock)) (ss, az) :=
        ⟨SubI.of (q1.mono (Nat.le_refl _) hm2), SubS.of (q2.mono hm1 (Nat.le_refl _))⟩
      have hst := RowT.set ho2 hlt hel (Nat.le_refl _) hb.size hb2.size
      rw [cpT_set hlen HX.out] at hst
      have hz2' : w.heap.size < w2.heap.size := Nat.lt_of_lt_of_le hz hb2.size
      have HS := hid hst
      clear hst ho ho2 e0 hel
      go_wp2
      go_roundw
      case rel => exact ⟨k + 1, by omega, by go_num, by simpa using HS.out, ((hb.trans (hb2.mono hb.size)).setCell (Nat.le_refl _) _).setCell (Nat.le_refl _) _, by simpa using hz2'⟩
      case measure => simp [intOf]; omega
    · go_wp2
      go_ret
      obtain rfl : k = n := by omega
      rw [Nat.sub_self, List.replicate_zero, List.append_nil, List.take_of_length_le (by omega)] at ho
      exact ⟨_, rfl, ho, hb⟩

set_option maxHeartbeats 400000 in
theorem toTable_any (z : Int) (a : Option Addr) (n ca : Nat) (ts : List St) (w : World) (ha : RdT w a n ts) (h1 : (n : Int) + stN ts ≤ 1073741824) :
    Calls Tryz.prog 9 #[.agg #[.int .i64 z, .slice a n ca]] w fun e w' => ∃ v, e = .returned (.agg #[.int .i64 z, v]) ∧ RowT false 91 2 99 w' w.heap.size w'.heap.size v n ts ∧ Below w.heap.size w w' := by
  have B3 : ∀ o1 o2 o3, Below w.heap.size w (((w.alloc o1).alloc o2).alloc o3) := fun o1 o2 o3 => (((Below.refl _ _).alloc (Nat.le_refl _) o1).alloc (by simp) o2).alloc (by simp; omega) o3
  go_enter Tryz.func9, Tryz.ntmps9
  go_wp2_with fail
  refine (toSetStateS_any a n ca ts _ (ha.below (B3 _ _ _)) h1).mono ?_
  rintro e w1 ⟨v1, rfl, ho1, hb1⟩
  obtain ⟨a1, c1, hv1, -⟩ := RowN.shape suE_len ho1
  subst hv1
  have hb01 := (B3 _ _ _).trans (hb1.mono (by simp; omega))
  have d0 : w1.cell? ⟨w.heap.size + 1 + 1, 0, none⟩ = some (.int .i64 z) := cell_later hb1 (by simp [go_sem])
  have d1 : w1.cell? ⟨w.heap.size + 1 + 1, 1, none⟩ = some (.slice none 0 0) := cell_later hb1 (by simp [go_sem])
  have g0 : w1.cell? ⟨w.heap.size + 1, 0, none⟩ = some (.int .i64 0) := cell_later hb1 (by simp [go_sem])
  have g1 : w1.cell? ⟨w.heap.size + 1, 1, none⟩ = some (.slice none 0 0) := cell_later hb1 (by simp [go_sem])
  have z1 : w.heap.size + 1 + 1 < w1.heap.size := by have := hb1.size; simp at this; omega
  have f0 : ∀ j, w1.frozen? ⟨w.heap.size + 1 + 1, j, none⟩ = false := fun j => (hb1.frozen (p := ⟨w.heap.size + 1 + 1, j, none⟩) (by simp)).trans (by simp [go_sem])
  have f1 : ∀ j, w1.frozen? ⟨w.heap.size + 1, j, none⟩ = false := fun j => (hb1.frozen (p := ⟨w.heap.size + 1, j, none⟩) (by simp)).trans (by simp [go_sem])
  have f01 := f0 1
  have f10 := f1 0
  have f11 := f1 1
  have S : ∀ (W : World) (b i : Nat) (x : Value), b < w.heap.size + 1 + 1 + 1 → RowT false 91 2 99 W (w.heap.size + 1 + 1 + 1) w1.heap.size (.slice a1 n c1) n ts → RowT false 91 2 99 (W.setCell ⟨b, i, none⟩ x) (w.heap.size + 1 + 1 + 1) w1.heap.size (.slice a1 n c1) n ts := fun W b i x hb' hr =>
    RowN.chg (tabOk false) hr (Chg.one (set_grown W b i x)) (by omega)
  have r1 : RowT false 91 2 99 w1 (w.heap.size + 1 + 1 + 1) w1.heap.size (.slice a1 n c1) n ts := RowN.mono (tabOk false) ho1 (by simp) (Nat.le_refl _)
  clear hb1 ho1
  go_wp2
  refine bodyPost_ret (v := .agg #[.int .i64 z, .slice a1 n c1]) (by simp [results, Tryz.results9, go_sem, g0, g1]) rfl ⟨_, rfl, ?_, ?_⟩
  · refine RowN.mono (tabOk false) (lo := w.heap.size + 1 + 1 + 1) (hi := w1.heap.size) ?_ (by omega) (by simp)
    repeat first | exact r1 | refine S _ _ _ _ (by omega) ?_
  · repeat first | exact hb01 | refine Below.setCell ?_ (by first | omega | (simp; done) | (simp; omega)) _
end Go.Proofs.YtlemdjgpkmjihaaGreat

namespace Go.Proofs.YtlemdjgpkmjihaaGreat
open Go.RowKit
set_option linter.unusedVariables false
set_option linter.unusedSimpArgs false

theorem eqArc_yes (x y : Int) (w : World) :
    Calls Tryz.prog 106 #[.agg #[.int .i64 x, .int .i64 y], .agg #[.int .i64 x, .int .i64 y]] w fun e w' => e = .returned (.bool true) ∧ Below w.heap.size w w' := by
  go_enter Tryz.func106, Tryz.ntmps106
  go_wp2
  go_ret
  exact ⟨rfl, ((Below.refl _ _).alloc (Nat.le_refl _) _).alloc (by simp) _⟩

set_option maxHeartbeats 800000 in
theorem eqArcS_yes (a b : Option Addr) (n ca cb : Nat) (cs : List L2) (w : World) (ha : RdR lineE 2 w a n cs) (hb : RdR lineE 2 w b n cs) (h1 : n ≤ 1073741824) :
    Calls Tryz.prog 93 #[.slice a n ca, .slice b n cb] w fun e w' => e = .returned (.bool true) ∧ Below w.heap.size w w' := by
  go_enter Tryz.func93, Tryz.ntmps93
  go_wp2
  go_loopw [5] (fun i wr => ∃ k : Nat, k ≤ n ∧ i = .int .i64 k ∧ Below w.heap.size w wr) (fun i _ => n - (intOf i).toNat)
  case atStart => exact ⟨0, Nat.zero_le _, rfl, Below.refl _ _⟩
  case round =>
    obtain ⟨k, hk, rfl, hbw⟩ := hrel
    by_cases hlt : k < n
    · obtain ⟨b1, o1, c, rfl, hx, hc1⟩ := (ha.below hbw).at hlt
      obtain ⟨b2, o2, c', rfl, hx', hc2⟩ := (hb.below hbw).at hlt
      obtain rfl : c = c' := by rw [hx] at hx'; simpa using hx'
      obtain ⟨c0, c1⟩ := two hc1
      obtain ⟨e0, e1⟩ := two hc2
      clear hx hx' hc1 hc2
      obtain ⟨x, y⟩ := c
      simp only at c0 c1 e0 e1
      have hlt' : (k : Int) < (n : Int) := by omega
      go_wp2
      go_region_with (go_at_call 106; refine (eqArc_yes x y _).mono ?_; rintro e w2 ⟨rfl, hb2⟩)
      all_goals
        go_wp2
        go_roundw
        case rel => exact ⟨k + 1, by omega, by go_num, hbw.drew.trans (hb2.mono hbw.size)⟩
        case measure => simp [intOf]; omega
    · go_wp2
      go_ret
      exact ⟨rfl, hbw⟩

set_option maxHeartbeats 800000 in
theorem eqSetState_yes (p p' q q' : Option Addr) (cp cp' cq cq' : Nat) (ss : List Int) (az : List L2) (w : World) (h1 : Rd .i64 w p ss.length ss) (h2 : Rd .i64 w p' ss.length ss) (h3 : RdR lineE 2 w q az.length az) (h4 : RdR lineE 2 w q' az.length az) (l1 : ss.length ≤ maxLen) (l2 : az.length ≤ 1073741824) :
    Calls Tryz.prog 70 #[.agg #[.slice p ss.length cp, .slice q az.length cq], .agg #[.slice p' ss.length cp', .slice q' az.length cq']] w fun e w' => e = .returned (.bool true) ∧ Below w.heap.size w w' := by
  have B2 : ∀ o1 o2, Below w.heap.size w ((w.alloc o1).alloc o2) := fun o1 o2 => ((Below.refl _ _).alloc (Nat.le_refl _) o1).alloc (by simp) o2
  have L1 := hid l1
  clear l1
  go_enter Tryz.func70, Tryz.ntmps70
  go_wp2_with fail
  refine (eqInt64S_yes p p' ss.length cp cp' ss _ (h1.below (B2 _ _)) (h2.below (B2 _ _)) L1.out).mono ?_
  rintro e w1 ⟨rfl, hb1⟩
  have d0 : w1.cell? ⟨w.heap.size, 1, none⟩ = some (.slice q az.length cq) := cell_later hb1 (by simp [go_sem])
  have d1 : w1.cell? ⟨w.heap.size + 1, 1, none⟩ = some (.slice q' az.length cq') := cell_later hb1 (by simp [go_sem])
  have hb01 : Below w.heap.size w w1 := (B2 _ _).trans (hb1.mono (by simp; omega))
  clear hb1
  go_wp2_with fail
  refine (eqArcS_yes q q' az.length cq cq' az _ (h3.below hb01) (h4.below hb01) l2).mono ?_
  rintro e w2 ⟨rfl, hb2⟩
  go_wp2
  go_ret
  exact ⟨rfl, hb01.trans (hb2.mono hb01.size)⟩

set_option maxHeartbeats 1600000 in
theorem eqSetStateS_yes (a b : Option Addr) (n ca cb : Nat) (ts : List St) (w : World) (ha : RdT w a n ts) (hb : RdT w b n ts) (h1 : (n : Int) + stN ts ≤ 1073741824) :
    Calls Tryz.prog 38 #[.slice a n ca, .slice b n cb] w fun e w' => e = .returned (.bool true) ∧ Below w.heap.size w w' := by
  go_enter Tryz.func38, Tryz.ntmps38
  go_wp2
  go_loopw [5] (fun i wr => ∃ k : Nat, k ≤ n ∧ i = .int .i64 k ∧ Below w.heap.size w wr) (fun i _ => n - (intOf i).toNat)
  case atStart => exact ⟨0, Nat.zero_le _, rfl, Below.refl _ _⟩
  case round =>
    obtain ⟨k, hk, rfl, hbw⟩ := hrel
    by_cases hlt : k < n
    · obtain ⟨b1, o1, p, cp, q, cq, ss, az, rfl, hx, c0, c1, r1, r2, ⟨m1, m2⟩, -⟩ := (ha.below hbw).at hlt
      obtain ⟨b2, o2, p', cp', q', cq', ss', az', rfl, hx', c0', c1', r1', r2', -, -⟩ := (hb.below hbw).at hlt
      obtain ⟨rfl, rfl⟩ : ss = ss' ∧ az = az' := by rw [hx] at hx'; simpa using hx'
      have hs := stN_succ hx
      have ht := stN_take ts (k + 1)
      rw [hs] at ht
      have M1 := hid (Nat.le_trans m1 m2)
      have R1 := hid (r1.below (Below.refl _ _).drew)
      have R2 := hid (r2.below (Below.refl _ _).drew)
      have R3 := hid (r1'.below (Below.refl _ _).drew)
      have R4 := hid (r2'.below (Below.refl _ _).drew)
      have hal : az.length ≤ 1073741824 := by omega
      clear hx hx' m1 m2 r1 r2 r1' r2' hs ht
      have hlt' : (k : Int) < (n : Int) := by omega
      go_wp2
      go_region_with (go_at_call 70; refine (eqSetState_yes p p' q q' cp cp' cq cq' ss az _ R1.out R3.out R2.out R4.out M1.out hal).mono ?_; rintro e w2 ⟨rfl, hb2⟩)
      all_goals
        go_wp2
        go_roundw
        case rel => exact ⟨k + 1, by omega, by go_num, hbw.drew.trans (hb2.mono hbw.size)⟩
        case measure => simp [intOf]; omega
    · go_wp2
      go_ret
      exact ⟨rfl, hbw⟩

set_option maxHeartbeats 400000 in
theorem eqTable_yes (z : Int) (a b : Option Addr) (n ca cb : Nat) (ts : List St) (w : World) (ha : RdT w a n ts) (hb : RdT w b n ts) (h1 : (n : Int) + stN ts ≤ 1073741824) :
    Calls Tryz.prog 13 #[.agg #[.int .i64 z, .slice a n ca], .agg #[.int .i64 z, .slice b n cb]] w fun e w' => e = .returned (.bool true) ∧ Below w.heap.size w w' := by
  have B2 : ∀ o1 o2, Below w.heap.size w ((w.alloc o1).alloc o2) := fun o1 o2 => ((Below.refl _ _).alloc (Nat.le_refl _) o1).alloc (by simp) o2
  go_enter Tryz.func13, Tryz.ntmps13
  go_wp2_with fail
  refine (eqSetStateS_yes a b n ca cb ts _ (ha.below (B2 _ _)) (hb.below (B2 _ _)) h1).mono ?_
  rintro e w1 ⟨rfl, hb1⟩
  go_wp2
  go_ret
  exact ⟨rfl, (B2 _ _).trans (hb1.mono (by simp; omega))⟩

set_option maxHeartbeats 400000 in
theorem eqTableResult_yes (c v z : Int) (a b : Option Addr) (n ca cb : Nat) (ts : List St) (w : World) (ha : RdT w a n ts) (hb : RdT w b n ts) (h1 : (n : Int) + stN ts ≤ 1073741824) :
    Calls Tryz.prog 11 #[.agg #[.int .i64 c, .int .i64 v, .int .i64 z, .slice a n ca], .agg #[.int .i64 c, .int .i64 v, .int .i64 z, .slice b n cb]] w fun e w' => e = .returned (.bool true) ∧ Below w.heap.size w w' := by
  have B2 : ∀ o1 o2, Below w.heap.size w ((w.alloc o1).alloc o2) := fun o1 o2 => ((Below.refl _ _).alloc (Nat.le_refl _) o1).alloc (by simp) o2
  go_enter Tryz.func11, Tryz.ntmps11
  go_wp2_with fail
  refine (eqTable_yes z a b n ca cb ts _ (ha.below (B2 _ _)) (hb.below (B2 _ _)) h1).mono ?_
  rintro e w1 ⟨rfl, hb1⟩
  go_wp2
  go_ret
  exact ⟨rfl, (B2 _ _).trans (hb1.mono (by simp; omega))⟩

/-- Nothing is marked. -/
theorem markInt64S_none (a : Option Addr) (x0 : Int) (w : World) : Calls Tryz.prog 71 #[.slice a 0 0, .int .i64 x0] w fun e w' => e = .returned (.int .i64 x0) ∧ w' = w := by
  go_enter Tryz.func71, Tryz.ntmps71
  go_wp2
  refine wp_loop_rounds 1 ?_
  rw [rounds_succ]
  go_wp2
  go_ret
  exact ⟨rfl, rfl⟩

theorem markArcS_none (a : Option Addr) (x0 : Int) (w : World) : Calls Tryz.prog 72 #[.slice a 0 0, .int .i64 x0] w fun e w' => e = .returned (.int .i64 x0) ∧ w' = w := by
  go_enter Tryz.func72, Tryz.ntmps72
  go_wp2
  refine wp_loop_rounds 1 ?_
  rw [rounds_succ]
  go_wp2
  go_ret
  exact ⟨rfl, rfl⟩

set_option maxHeartbeats 800000 in
theorem markArcS_own (v : Value) (n base : Nat) (cs : List L2) (x0 : Int) (w : World) (hown : OwnR lineE 2 99 w base v n cs) (h1 : n ≤ 107374182) (h2 : 0 ≤ x0) (h3 : x0 ≤ 1073741824) :
    Calls Tryz.prog 72 #[v, .int .i64 x0] w fun e w' => e = .returned (.int .i64 (x0 + 2 * n)) ∧ OwnR lineE 2 99 w' base v n (mkL x0 n) ∧ w.grownBy w' v.ownBlock := by
  have hlen := hown.1
  rcases hown.2.2 with ⟨rfl, rfl⟩ | ⟨g, cap, cur, rfl, _⟩
  · go_enter Tryz.func72, Tryz.ntmps72
    go_wp2
    refine wp_loop_rounds 1 ?_
    rw [rounds_succ]
    go_wp2
    go_ret
    have hx : cs = [] := List.eq_nil_of_length_eq_zero hlen
    subst hx
    exact ⟨by simp, by simpa [mkL] using hown, World.grownBy.refl _ _⟩
  · go_enter Tryz.func72, Tryz.ntmps72
    go_wp2
    go_loopw [1, 5] (fun x i wr => ∃ k : Nat, k ≤ n ∧ i = .int .i64 k ∧ x = .int .i64 (x0 + 2 * k) ∧ OwnR lineE 2 99 wr base (.slice (some ⟨g, 0, none⟩) n cap) n (mkL x0 k ++ cs.drop k) ∧ w.grownBy wr (some g)) (fun _ i _ => n - (intOf i).toNat)
    case atStart => exact ⟨0, Nat.zero_le _, rfl, by go_num, by simpa [mkL] using hown, World.grownBy.refl _ _⟩
    case round =>
      obtain ⟨k, hk, rfl, rfl, ho, hg⟩ := hrel
      by_cases hlt : k < n
      · have hk' : k < cs.length := by omega
        have hold : (mkL x0 k ++ cs.drop k)[k]? = some cs[k] := by
          rw [List.getElem?_append_right (by rw [mkL_len]; omega), mkL_len, Nat.sub_self, List.drop_eq_getElem_cons hk']
          rfl
        generalize cs[k] = c at hold
        have d0 := OwnR.cell (f := 0) lineE_len ho hold rfl
        have d1 := OwnR.cell (f := 1) lineE_len ho hold rfl
        have f0 := ho.frozen (k * 2)
        have f1 := ho.frozen (k * 2 + 1)
        rw [Nat.add_zero] at d0
        have hst := store2 ho hold (x0 + 2 * (k : Int)) (x0 + 2 * (k : Int) + 1)
        rw [markL_set cs x0 n k hlen hlt c] at hst
        have HS : Hid _ := hst
        clear hst ho hold
        have hlt' : (k : Int) < (n : Int) := by omega
        go_wp2
        go_roundw
        case rel => exact ⟨k + 1, by omega, by go_num, by go_num, HS.out.1, grownBy_trans hg HS.out.2⟩
        case measure => simp [intOf]; omega
      · go_wp2
        go_ret
        obtain rfl : k = n := by omega
        refine ⟨rfl, ?_, hg⟩
        rw [List.drop_of_length_le (by omega), List.append_nil] at ho
        exact ho

/-- A row of integers, of arcs, that a state has. -/
theorem markInt64S_sub (weak : Bool) (s : Value × Option Nat) (lo hi : Nat) (xs : List Int) (x0 : Int) (w : World) (h : SubI weak .i64 2 w lo hi s xs) (h1 : xs.length ≤ 1073741824) (h2 : 0 ≤ x0) (h3 : x0 ≤ 1073741824) :
    Calls Tryz.prog 71 #[s.1, .int .i64 x0] w fun e w' => e = .returned (.int .i64 (x0 + xs.length)) ∧ SubI weak .i64 2 w' lo hi s (mkI x0 xs.length) ∧ w.grownBy w' s.2 := by
  rcases h with ⟨e2, e1, e3, a, e4, e5⟩ | ⟨g, cap, rfl, hh, ho⟩
  · rw [e4]
    have hx : xs = [] := List.eq_nil_of_length_eq_zero e1
    subst hx
    refine (markInt64S_none a x0 w).mono ?_
    rintro e w' ⟨rfl, rfl⟩
    exact ⟨by simp, .inl ⟨e2, by simp [mkI], by simp [mkI], a, e4, e5⟩, World.grownBy.refl _ _⟩
  · refine (markInt64S_own _ xs.length lo xs x0 w ho h1 h2 h3).mono ?_
    rintro e w' ⟨rfl, ho', hg⟩
    refine ⟨rfl, .inr ⟨g, cap, by rw [mkI_len], hh, ?_⟩, hg⟩
    rw [mkI_len]
    exact ho'

theorem markArcS_sub (weak : Bool) (s : Value × Option Nat) (lo hi : Nat) (xs : List L2) (x0 : Int) (w : World) (h : SubS weak lineE 2 99 w lo hi s xs) (h1 : xs.length ≤ 107374182) (h2 : 0 ≤ x0) (h3 : x0 ≤ 1073741824) :
    Calls Tryz.prog 72 #[s.1, .int .i64 x0] w fun e w' => e = .returned (.int .i64 (x0 + 2 * xs.length)) ∧ SubS weak lineE 2 99 w' lo hi s (mkL x0 xs.length) ∧ w.grownBy w' s.2 := by
  rcases h with ⟨e2, e1, e3, a, e4, e5⟩ | ⟨g, cap, rfl, hh, ho⟩
  · rw [e4]
    have hx : xs = [] := List.eq_nil_of_length_eq_zero e1
    subst hx
    refine (markArcS_none a x0 w).mono ?_
    rintro e w' ⟨rfl, rfl⟩
    exact ⟨by simp, .inl ⟨e2, by simp [mkL], by simp [mkL], a, e4, e5⟩, World.grownBy.refl _ _⟩
  · refine (markArcS_own _ xs.length lo xs x0 w ⟨rfl, ho⟩ h1 h2 h3).mono ?_
    rintro e w' ⟨rfl, ho', hg⟩
    refine ⟨rfl, .inr ⟨g, cap, by rw [mkL_len], hh, ?_⟩, hg⟩
    rw [mkL_len]
    exact ho'.2

set_option maxHeartbeats 1600000 in
theorem markSetStateS_row (weak : Bool) (v : Value) (n lo hi : Nat) (ts : List St) (x0 : Int) (w : World) (ho : RowT weak 91 2 99 w lo hi v n ts) (h1 : (n : Int) + stN ts ≤ 107374182) (h2 : 0 ≤ x0) (h3 : x0 ≤ 107374182) :
    Calls Tryz.prog 40 #[v, .int .i64 x0] w fun e w' => e = .returned (.int .i64 (x0 + stC ts)) ∧ RowT weak 91 2 99 w' lo hi v n (mkT x0 ts) ∧ Chg lo hi w w' := by
  have hlen := ho.len
  rcases ho.cases with ⟨rfl, rfl, rfl⟩ | ⟨g, cap, rfl, hglo, hghi, hgz⟩
  · go_enter Tryz.func40, Tryz.ntmps40
    go_wp2
    refine wp_loop_rounds 1 ?_
    rw [rounds_succ]
    go_wp2
    go_ret
    exact ⟨by simp [stC], by simpa [mkT] using ho, Chg.refl _ _ _⟩
  · have hcl := stC_le ts
    go_enter Tryz.func40, Tryz.ntmps40
    go_wp2
    go_loopw [1, 5] (fun x i wr => ∃ k : Nat, k ≤ n ∧ i = .int .i64 k ∧ x = .int .i64 (x0 + stC (ts.take k)) ∧ RowT weak 91 2 99 wr lo hi (.slice (some ⟨g, 0, none⟩) n cap) n (mkT x0 (ts.take k) ++ ts.drop k) ∧ Chg lo hi w wr) (fun _ i _ => n - (intOf i).toNat)
    case atStart => exact ⟨0, Nat.zero_le _, rfl, by simp [stC], by simpa [mkT] using ho, Chg.refl _ _ _⟩
    case round =>
      obtain ⟨k, hk, rfl, rfl, hr, hc⟩ := hrel
      by_cases hlt : k < n
      · have hk' : k < ts.length := by omega
        obtain ⟨ss, az, hx⟩ : ∃ ss az, ts[k]? = some (ss, az) := ⟨ts[k].1, ts[k].2, by simp [hk']⟩
        have hs := stN_succ hx
        have ht := stN_take ts (k + 1)
        have hcs := stC_succ hx
        have hct := stC_take ts (k + 1)
        have hmid := mkT_mid x0 hx
        have hset := mkT_set x0 hx
        obtain ⟨u, hu, hel, hback⟩ := RowN.elem (tabOk weak) suE_len hr hmid
        have d0 := hu 0 _ rfl
        have d1 := hu 1 _ rfl
        rw [Nat.add_zero] at d0
        obtain ⟨pa, pc, hp, -⟩ := SubV.shape hel.1
        obtain ⟨qa, qc, hq, -⟩ := SubV.shape hel.2
        have htw := hel.two ai_ne
        rw [hp] at d0
        rw [hq] at d1
        have HB := hid hback
        have HE := hid hset
        have HW := hid htw
        have HL := hid hel
        have HCS := hid hcs
        have hmlen : k < (mkT x0 (ts.take k) ++ ts.drop k).length := (List.getElem?_eq_some_iff.1 hmid).1
        have HML := hid hmlen
        clear hback hset hmid hx hu htw hel hmlen
        have hlt' : (k : Int) < (n : Int) := by omega
        go_wp2_with fail
        have CM := markInt64S_sub weak u.1 lo hi ss (x0 + stC (ts.take k)) wr HL.out.1 (by omega) (by omega) (by omega)
        rw [hp] at CM
        refine CM.mono ?_
        rintro e w2 ⟨rfl, hs2, hg2⟩
        have hel2 : StEl weak 2 99 w2 lo hi u (mkI (x0 + stC (ts.take k)) ss.length, az) :=
          ⟨hs2, SubV.kept HL.out.2 (fun b hb => hg2.block b (SubV.inn HL.out.2 b hb).2.2 (fun e => HW.out b e.symm hb))⟩
        have hr2 := HB.out w2 _ _ hg2 (fun b hb => (suB_mem u b).2 (.inl hb)) hel2
        have hc2 : Chg lo hi w w2 := hc.trans (Chg.of_grown hg2 (fun j hj => by have := SubV.inn HL.out.1 j hj; omega))
        obtain ⟨u', hu', hel', hback'⟩ := RowN.elem (tabOk weak) suE_len hr2 (j := k) (x := (mkI (x0 + stC (ts.take k)) ss.length, az)) (List.getElem?_set_self HML.out)
        have d1 := hu' 1 _ rfl
        obtain ⟨qa', qc', hq', -⟩ := SubV.shape hel'.2
        have htw' := hel'.two ai_ne
        rw [hq'] at d1
        have HB' := hid hback'
        have HW' := hid htw'
        have HL' := hid hel'
        have HC2 := hid hc2
        clear hback' hu' htw' hel' hr2 hc2 hel2 hs2 hg2 HB HW HL hr hc
        go_wp2_with fail
        have CM := markArcS_sub weak u'.2 lo hi az (x0 + stC (ts.take k) + ss.length) w2 HL'.out.2 (by omega) (by omega) (by omega)
        rw [hq'] at CM
        refine CM.mono ?_
        rintro e w3 ⟨rfl, hs3, hg3⟩
        have hel3 : StEl weak 2 99 w3 lo hi u' (mkI (x0 + stC (ts.take k)) ss.length, mkL (x0 + stC (ts.take k) + ss.length) az.length) :=
          ⟨SubV.kept HL'.out.1 (fun b hb => hg3.block b (SubV.inn HL'.out.1 b hb).2.2 (fun e => HW'.out b hb e.symm)), hs3⟩
        have hr3 := HB'.out w3 _ _ hg3 (fun b hb => (suB_mem u' b).2 (.inr hb)) hel3
        rw [List.set_set, HE.out] at hr3
        have hc3 : Chg lo hi w w3 := HC2.out.trans (Chg.of_grown hg3 (fun j hj => by have := SubV.inn HL'.out.2 j hj; omega))
        have HR3 := hid hr3
        have HC3 := hid hc3
        clear hr3 hc3 hel3 hs3 hg3
        go_wp2
        go_roundw
        case rel => exact ⟨k + 1, by omega, by go_num, by rw [HCS.out]; congr 1; push_cast; omega, HR3.out, HC3.out⟩
        case measure => simp [intOf]; omega
      · go_wp2
        go_ret
        obtain rfl : k = n := by omega
        rw [List.drop_of_length_le (by omega), List.append_nil, List.take_of_length_le (by omega)] at hr
        rw [List.take_of_length_le (by omega)]
        exact ⟨rfl, hr, hc⟩

set_option maxHeartbeats 400000 in
theorem markTable_row (weak : Bool) (z x0 : Int) (v : Value) (n lo hi : Nat) (ts : List St) (w : World) (ho : RowT weak 91 2 99 w lo hi v n ts) (h1 : (n : Int) + stN ts ≤ 107374182) (h2 : 0 ≤ x0) (h3 : x0 ≤ 107374182) :
    Calls Tryz.prog 15 #[.agg #[.int .i64 z, v], .int .i64 x0] w fun e w' => e = .returned (.int .i64 (x0 + stC ts)) ∧ RowT weak 91 2 99 w' lo hi v n (mkT x0 ts) ∧ Chg lo hi w w' := by
  obtain ⟨a, cap, rfl, -⟩ := RowN.shape suE_len ho
  go_enter Tryz.func15, Tryz.ntmps15
  go_wp2_with fail
  refine (markSetStateS_row weak _ n lo hi ts x0 _ (RowN.below (tabOk weak) ho ((Below.refl _ _).alloc (Nat.le_refl _) _)) h1 h2 h3).mono ?_
  rintro e w1 ⟨rfl, ho1, hg⟩
  go_wp2
  go_ret
  exact ⟨rfl, ho1, chg_alloc hg⟩

set_option maxHeartbeats 400000 in
theorem markTableResult_row (weak : Bool) (c d z x0 : Int) (v : Value) (n lo hi : Nat) (ts : List St) (w : World) (ho : RowT weak 91 2 99 w lo hi v n ts) (h1 : (n : Int) + stN ts ≤ 107374182) (h2 : 0 ≤ x0) (h3 : x0 ≤ 107374182) :
    Calls Tryz.prog 16 #[.agg #[.int .i64 c, .int .i64 d, .int .i64 z, v], .int .i64 x0] w fun e w' => e = .returned (.int .i64 (x0 + stC ts)) ∧ RowT weak 91 2 99 w' lo hi v n (mkT x0 ts) ∧ Chg lo hi w w' := by
  obtain ⟨a, cap, rfl, -⟩ := RowN.shape suE_len ho
  go_enter Tryz.func16, Tryz.ntmps16
  go_wp2_with fail
  refine (markTable_row weak z x0 _ n lo hi ts _ (RowN.below (tabOk weak) ho ((Below.refl _ _).alloc (Nat.le_refl _) _)) h1 h2 h3).mono ?_
  rintro e w1 ⟨rfl, ho1, hg⟩
  go_wp2
  go_ret
  exact ⟨rfl, ho1, chg_alloc hg⟩

set_option maxHeartbeats 800000 in
theorem heldArcS_yes (a : Option Addr) (n ca : Nat) (x0 : Int) (w : World) (ha : RdR lineE 2 w a n (mkL x0 n)) (h1 : n ≤ 107374182) (h2 : 0 ≤ x0) (h3 : x0 ≤ 1073741824) :
    Calls Tryz.prog 95 #[.slice a n ca, .int .i64 x0] w fun e w' => e = .returned (.int .i64 (x0 + 2 * n)) ∧ w' = w := by
  go_enter Tryz.func95, Tryz.ntmps95
  go_wp2
  go_loop [1, 5] (fun x i => ∃ k : Nat, k ≤ n ∧ i = .int .i64 k ∧ x = .int .i64 (x0 + 2 * k)) (fun _ i => n - (intOf i).toNat)
  case atStart => exact ⟨0, Nat.zero_le _, rfl, by go_num⟩
  case round =>
    obtain ⟨k, hk, rfl, rfl⟩ := hrel
    by_cases hlt : k < n
    · obtain ⟨b1, o1, c, rfl, hx, hc1⟩ := ha.at hlt
      rw [mkL_at x0 n k hlt] at hx
      obtain rfl := (Option.some.inj hx).symm
      obtain ⟨c0, c1⟩ := two hc1
      simp only at c0 c1
      clear hx hc1
      have hlt' : (k : Int) < (n : Int) := by omega
      go_wp2
      go_round
      case rel => exact ⟨k + 1, by omega, by go_num, by go_num⟩
      case measure => simp [intOf]; omega
    · go_wp2
      go_ret
      obtain rfl : k = n := by omega
      exact ⟨rfl, rfl⟩

set_option maxHeartbeats 1600000 in
theorem heldSetStateS_yes (a : Option Addr) (n ca : Nat) (ts : List St) (x0 : Int) (w : World) (ha : RdT w a n (mkT x0 ts)) (h1 : (n : Int) + stN ts ≤ 107374182) (h2 : 0 ≤ x0) (h3 : x0 ≤ 107374182) :
    Calls Tryz.prog 73 #[.slice a n ca, .int .i64 x0] w fun e w' => e = .returned (.int .i64 (x0 + stC ts)) ∧ w' = w := by
  have hlen := ha.len
  rw [mkT_len] at hlen
  have hcl := stC_le ts
  go_enter Tryz.func73, Tryz.ntmps73
  go_wp2
  go_loop [1, 5] (fun x i => ∃ k : Nat, k ≤ n ∧ i = .int .i64 k ∧ x = .int .i64 (x0 + stC (ts.take k))) (fun _ i => n - (intOf i).toNat)
  case atStart => exact ⟨0, Nat.zero_le _, rfl, by simp [stC]⟩
  case round =>
    obtain ⟨k, hk, rfl, rfl⟩ := hrel
    by_cases hlt : k < n
    · have hk' : k < ts.length := by omega
      obtain ⟨ss, az, hx⟩ : ∃ ss az, ts[k]? = some (ss, az) := ⟨ts[k].1, ts[k].2, by simp [hk']⟩
      have hs := stN_succ hx
      have ht := stN_take ts (k + 1)
      have hcs := stC_succ hx
      have hct := stC_take ts (k + 1)
      obtain ⟨b1, o1, p, cp, q, cq, ss', az', rfl, hx1, c0, c1, r1, r2, -, -⟩ := ha.at hlt
      rw [mkT_at x0 hx] at hx1
      obtain ⟨rfl, rfl⟩ : ss' = mkI (x0 + stC (ts.take k)) ss.length ∧ az' = mkL (x0 + stC (ts.take k) + ss.length) az.length := by simpa [eq_comm] using hx1
      rw [mkI_len] at c0 r1
      rw [mkL_len] at c1 r2
      have R1 := hid r1
      have R2 := hid r2
      have HCS := hid hcs
      have g1 : ss.length ≤ 1073741824 := by omega
      have g2 : 0 ≤ x0 + (stC (ts.take k) : Int) := by omega
      have g3 : x0 + (stC (ts.take k) : Int) + ss.length ≤ 1073741824 := by omega
      have g4 : az.length ≤ 107374182 := by omega
      clear hx1 hx r1 r2 hs ht hct
      have hlt' : (k : Int) < (n : Int) := by omega
      go_wp2_with fail
      refine (heldInt64S_yes p ss.length cp _ _ R1.out g1 g2 (by omega)).mono ?_
      rintro e w2 ⟨rfl, rfl⟩
      have hpos : ¬ x0 + (stC (ts.take k) : Int) + (ss.length : Int) < 0 := by omega
      go_wp2_with fail
      refine (heldArcS_yes q az.length cq _ _ R2.out g4 (by omega) g3).mono ?_
      rintro e w2 ⟨rfl, rfl⟩
      have hpos2 : ¬ x0 + (stC (ts.take k) : Int) + (ss.length : Int) + 2 * (az.length : Int) < 0 := by omega
      go_wp2
      go_round
      case rel => exact ⟨k + 1, by omega, by go_num, by rw [HCS.out]; congr 1; push_cast; omega⟩
      case measure => simp [intOf]; omega
    · go_wp2
      go_ret
      obtain rfl : k = n := by omega
      rw [List.take_of_length_le (by omega)]
      exact ⟨rfl, rfl⟩

set_option maxHeartbeats 400000 in
theorem heldTable_yes (z x0 : Int) (a : Option Addr) (n ca : Nat) (ts : List St) (w : World) (ha : RdT w a n (mkT x0 ts)) (h1 : (n : Int) + stN ts ≤ 107374182) (h2 : 0 ≤ x0) (h3 : x0 ≤ 107374182) :
    Calls Tryz.prog 41 #[.agg #[.int .i64 z, .slice a n ca], .int .i64 x0] w fun e w' => e = .returned (.int .i64 (x0 + stC ts)) ∧ Below w.heap.size w w' := by
  go_enter Tryz.func41, Tryz.ntmps41
  go_wp2_with fail
  refine (heldSetStateS_yes a n ca ts x0 _ (ha.below ((Below.refl _ _).alloc (Nat.le_refl _) _)) h1 h2 h3).mono ?_
  rintro e w1 ⟨rfl, rfl⟩
  have hpos : ¬ x0 + (stC ts : Int) < 0 := by omega
  go_wp2
  go_ret
  exact ⟨rfl, (Below.refl _ _).alloc (Nat.le_refl _) _⟩

set_option maxHeartbeats 400000 in
theorem heldTableResult_yes (c d z x0 : Int) (a : Option Addr) (n ca : Nat) (ts : List St) (w : World) (ha : RdT w a n (mkT x0 ts)) (h1 : (n : Int) + stN ts ≤ 107374182) (h2 : 0 ≤ x0) (h3 : x0 ≤ 107374182) :
    Calls Tryz.prog 17 #[.agg #[.int .i64 c, .int .i64 d, .int .i64 z, .slice a n ca], .int .i64 x0] w fun e w' => e = .returned (.int .i64 (x0 + stC ts)) ∧ Below w.heap.size w w' := by
  go_enter Tryz.func17, Tryz.ntmps17
  go_wp2_with fail
  refine (heldTable_yes z x0 a n ca ts _ (ha.below ((Below.refl _ _).alloc (Nat.le_refl _) _)) h1 h2 h3).mono ?_
  rintro e w1 ⟨rfl, hb1⟩
  have hpos : ¬ x0 + (stC ts : Int) < 0 := by omega
  go_wp2
  go_ret
  exact ⟨rfl, below_slot hb1⟩
end Go.Proofs.YtlemdjgpkmjihaaGreat

namespace Go.Proofs.YtlemdjgpkmjihaaGreat
open Go.RowKit
set_option linter.unusedVariables false
set_option linter.unusedSimpArgs false

/-- The states of a table that the call owns. -/
def TabR (weak : Bool) (w : World) (lo hi : Nat) (v : Value) (n : Nat) (ts : List St) : Prop := RowT weak 91 2 99 w lo hi v n ts

section
variable {weak : Bool} {w w' : World} {lo hi n : Nat} {v : Value} {ts : List St}

theorem TabR.below (h : TabR weak w lo hi v n ts) (hb : Below w.heap.size w w') : TabR weak w' lo hi v n ts := RowN.below (tabOk weak) h hb

theorem TabR.chg {lo' hi' : Nat} (h : TabR weak w lo hi v n ts) (hc : Chg lo' hi' w w') (hd : hi ≤ lo' ∨ hi' ≤ lo) : TabR weak w' lo hi v n ts := RowN.chg (tabOk weak) h hc hd

theorem TabR.mono {lo' hi' : Nat} (h : TabR weak w lo hi v n ts) (h1 : lo' ≤ lo) (h2 : hi ≤ hi') : TabR weak w lo' hi' v n ts := RowN.mono (tabOk weak) h h1 h2

theorem TabR.shape (h : TabR weak w lo hi v n ts) : ∃ a cap, v = .slice a n cap ∧ n ≤ cap ∧ cap ≤ maxLen := RowN.shape suE_len h

theorem TabR.len (h : TabR weak w lo hi v n ts) : ts.length = n := RowN.len h

theorem TabR.read {a : Option Addr} {c : Nat} (h : TabR weak w lo hi (.slice a n c) n ts) : RdT w a n ts := RowT.read h

theorem TabR.setB {B : Nat} (h : TabR weak w lo hi v n ts) (hb : B < lo ∨ hi ≤ B) (i : Nat) (u : Value) : TabR weak (w.setCell ⟨B, i, none⟩ u) lo hi v n ts :=
  h.chg (Chg.one (set_grown w B i u)) (by omega)

theorem TabR.weaken (h : TabR weak w lo hi v n ts) : TabR true w lo hi v n ts := RowT.weaken h

theorem TabR.nil (weak : Bool) (w : World) (lo hi : Nat) : TabR weak w lo hi (.slice none 0 0) 0 [] := RowN.nil _ _ _
end

theorem toTable_row (z : Int) (a : Option Addr) (n ca : Nat) (ts : List St) (w : World) (ha : RdT w a n ts) (h1 : (n : Int) + stN ts ≤ 1073741824) :
    Calls Tryz.prog 9 #[.agg #[.int .i64 z, .slice a n ca]] w fun e w' => ∃ v, e = .returned (.agg #[.int .i64 z, v]) ∧ TabR false w' w.heap.size w'.heap.size v n ts ∧ Below w.heap.size w w' := toTable_any z a n ca ts w ha h1

theorem markTable_tab (weak : Bool) (z x0 : Int) (v : Value) (n lo hi : Nat) (ts : List St) (w : World) (ho : TabR weak w lo hi v n ts) (h1 : (n : Int) + stN ts ≤ 107374182) (h2 : 0 ≤ x0) (h3 : x0 ≤ 107374182) :
    Calls Tryz.prog 15 #[.agg #[.int .i64 z, v], .int .i64 x0] w fun e w' => e = .returned (.int .i64 (x0 + stC ts)) ∧ TabR weak w' lo hi v n (mkT x0 ts) ∧ Chg lo hi w w' := markTable_row weak z x0 v n lo hi ts w ho h1 h2 h3

theorem markTableResult_tab (weak : Bool) (c d z x0 : Int) (v : Value) (n lo hi : Nat) (ts : List St) (w : World) (ho : TabR weak w lo hi v n ts) (h1 : (n : Int) + stN ts ≤ 107374182) (h2 : 0 ≤ x0) (h3 : x0 ≤ 107374182) :
    Calls Tryz.prog 16 #[.agg #[.int .i64 c, .int .i64 d, .int .i64 z, v], .int .i64 x0] w fun e w' => e = .returned (.int .i64 (x0 + stC ts)) ∧ TabR weak w' lo hi v n (mkT x0 ts) ∧ Chg lo hi w w' := markTableResult_row weak c d z x0 v n lo hi ts w ho h1 h2 h3
end Go.Proofs.YtlemdjgpkmjihaaGreat
