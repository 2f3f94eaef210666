/-
  Contracts of the exact laws' helpers over tables: sizes, copies.
-/
import Derived.Test.YtoggkcgldckekaaTabM
import Derived.Test.YtoggkcgldckekaaHlpL
import Derived.Test.YtoggkcgldckekaaHlpI
import Derived.Test.YtoggkcgldckekaaBox
import Derived.Deep.RegionWith
namespace Go.Proofs.Ytoggkcgldckekaa
open Go.RowKit
set_option linter.unusedVariables false
set_option linter.unusedSimpArgs false

theorem is_ne : (2 : TypeId) ≠ 55 := by decide

theorem azne : (153 : TypeId) ≠ 55 := by decide

theorem ai_ne : (153 : TypeId) ≠ 2 := by decide

theorem tabOk (weak : Bool) : ElOk (StEl weak 2 153) suB 55 := StEl.ok weak is_ne azne

theorem szArcS_any (a : Option Addr) (n ca : Nat) (L : Int) (w : World) (hn : n ≤ maxLen) (h0 : 0 ≤ L) (hL : L ≤ 1048576) :
    Calls Try.prog 139 #[.slice a n ca, .int .i64 L] w fun e w' => e = .returned (.int .i64 (if L < (n : Int) then -1 else L - n)) ∧ w' = w := by
  unfold maxLen at hn
  by_cases h : L < (n : Int)
  · rw [if_pos h]
    have h' : L - (n : Int) < 0 := by omega
    go_enter Try.func139, Try.ntmps139
    go_wp2
    go_ret
    exact ⟨rfl, rfl⟩
  · rw [if_neg h]
    have h' : ¬ L - (n : Int) < 0 := by omega
    go_enter Try.func139, Try.ntmps139
    go_wp2
    go_ret
    exact ⟨rfl, rfl⟩

theorem szInt64S_any (a : Option Addr) (n ca : Nat) (L : Int) (w : World) (hn : n ≤ maxLen) (h0 : 0 ≤ L) (hL : L ≤ 1048576) :
    Calls Try.prog 138 #[.slice a n ca, .int .i64 L] w fun e w' => e = .returned (.int .i64 (if L < (n : Int) then -1 else L - n)) ∧ w' = w := by
  by_cases h : L < (n : Int)
  · rw [if_pos h]; exact szInt64S_no a n ca L w (by omega) hn h0 hL
  · rw [if_neg h]; exact szInt64S_yes a n ca L w (by omega) hL

set_option maxHeartbeats 800000 in
theorem szSetState_any (p q : Option Addr) (m n cp cq : Nat) (L : Int) (w : World) (hm : m ≤ maxLen) (hn : n ≤ maxLen) (h0 : 0 ≤ L) (hL : L ≤ 1048576) :
    Calls Try.prog 120 #[.agg #[.slice p m cp, .slice q n cq], .int .i64 L] w fun e w' => e = .returned (.int .i64 (if L < (m : Int) + n then -1 else L - m - n)) ∧ Below w.heap.size w w' := by
  have B1 : ∀ o, Below w.heap.size w (w.alloc o) := fun o => (Below.refl _ _).alloc (Nat.le_refl _) o
  have HM : Hid _ := hm
  have HN : Hid _ := hn
  clear hm hn
  by_cases h1 : L < (m : Int)
  · rw [if_pos (by omega)]
    go_enter Try.func120, Try.ntmps120
    go_wp2_with fail
    refine (szInt64S_any p m cp L _ HM.out h0 hL).mono ?_
    rw [if_pos h1]
    rintro e w1 ⟨rfl, rfl⟩
    go_wp2
    go_ret
    exact ⟨rfl, B1 _⟩
  · have h2 : ¬ L - (m : Int) < 0 := by omega
    obtain ⟨z, hz⟩ : ∃ z, z = L - (m : Int) := ⟨_, rfl⟩
    by_cases h3 : L - (m : Int) < n
    · rw [if_pos (by omega)]
      go_enter Try.func120, Try.ntmps120
      go_wp2_with fail
      refine (szInt64S_any p m cp L _ HM.out h0 hL).mono ?_
      rw [if_neg (by omega)]
      rintro e w1 ⟨rfl, rfl⟩
      go_wp2_with fail
      refine (szArcS_any q n cq _ _ HN.out (by omega) (by omega)).mono ?_
      rw [if_pos h3]
      rintro e w1 ⟨rfl, rfl⟩
      go_wp2
      go_ret
      exact ⟨rfl, B1 _⟩
    · rw [if_neg (by omega)]
      have h4 : ¬ L - (m : Int) - (n : Int) < 0 := by omega
      go_enter Try.func120, Try.ntmps120
      go_wp2_with fail
      refine (szInt64S_any p m cp L _ HM.out h0 hL).mono ?_
      rw [if_neg (by omega)]
      rintro e w1 ⟨rfl, rfl⟩
      go_wp2_with fail
      refine (szArcS_any q n cq _ _ HN.out (by omega) (by omega)).mono ?_
      rw [if_neg (by omega)]
      rintro e w1 ⟨rfl, rfl⟩
      go_wp2
      go_ret
      exact ⟨rfl, B1 _⟩

set_option maxHeartbeats 800000 in
theorem szSetStateS_any (a : Option Addr) (n ca : Nat) (ts : List St) (L : Int) (w : World) (ha : RdT w a n ts) (hn : n ≤ maxLen) (h0 : 0 ≤ L) (hL : L ≤ 1048576) :
    Calls Try.prog 88 #[.slice a n ca, .int .i64 L] w fun e w' => e = .returned (.int .i64 (if L < (n : Int) + stN ts then -1 else L - n - stN ts)) ∧ Below w.heap.size w w' := by
  have hlen := ha.len
  obtain ⟨R, hR⟩ : ∃ R, R = (if L < (n : Int) + stN ts then -1 else L - n - stN ts) := ⟨_, rfl⟩
  rw [← hR]
  have HR : Hid _ := hR
  have HL : Hid _ := hlen
  clear hR hlen
  unfold maxLen at hn
  by_cases h : L < n
  · go_enter Try.func88, Try.ntmps88
    go_wp2
    go_ret
    exact ⟨ret_int (by rw [HR.out, if_pos (by omega)]), Below.refl _ _⟩
  · have h' : ¬ L - (n : Int) < 0 := by omega
    go_enter Try.func88, Try.ntmps88
    go_wp2
    go_loopw [1, 5] (fun x i wr => ∃ (k : Nat) (z : Int), k ≤ n ∧ i = .int .i64 k ∧ x = .int .i64 z ∧ z = L - n - stN (ts.take k) ∧ 0 ≤ z ∧ z ≤ 1048576 ∧ Below w.heap.size w wr) (fun _ i _ => n - (intOf i).toNat)
    case atStart => exact ⟨0, L - n, Nat.zero_le _, rfl, rfl, by simp [stN], by omega, by omega, Below.refl _ _⟩
    case round =>
      obtain ⟨k, z, hk, rfl, rfl, hz, hz0, hz1, hbw⟩ := hrel
      have HZ : Hid _ := hz
      clear hz
      by_cases hlt : k < n
      · obtain ⟨b1, o1, p, cp, q, cq, ss, az, rfl, hx, c0, c1, _, _, ⟨m1, m2⟩, m3, m4⟩ := (ha.below hbw).at hlt
        have M1 : Hid (ss.length ≤ maxLen) := Nat.le_trans m1 m2
        have M2 : Hid (az.length ≤ maxLen) := Nat.le_trans m3 m4
        have hs := stN_succ hx
        have ht := stN_take ts (k + 1)
        rw [hs] at ht
        have HS : Hid _ := hs
        have HT : Hid _ := ht
        clear m1 m2 m3 m4 hx hs ht
        have hlt' : (k : Int) < (n : Int) := by omega
        by_cases h3 : z < (ss.length : Int) + az.length
        · go_wp2_with fail
          refine (szSetState_any p q ss.length az.length cp cq z _ M1.out M2.out hz0 hz1).mono ?_
          rw [if_pos h3]
          rintro e w2 ⟨rfl, hb2⟩
          go_wp2
          go_ret
          refine ⟨ret_int ?_, hbw.trans (hb2.mono hbw.size)⟩
          have h7 := HZ.out
          have h8 := HT.out
          rw [HR.out, if_pos (by omega)]
        · have h4 : ¬ z - (ss.length : Int) - (az.length : Int) < 0 := by omega
          obtain ⟨y, hy⟩ : ∃ y, y = z - (ss.length : Int) - (az.length : Int) := ⟨_, rfl⟩
          rw [← hy] at h4
          go_wp2_with fail
          refine (szSetState_any p q ss.length az.length cp cq z _ M1.out M2.out hz0 hz1).mono ?_
          rw [if_neg (by omega), ← hy]
          rintro e w2 ⟨rfl, hb2⟩
          have HY : Hid _ := hy
          clear hy
          go_wp2
          go_roundw
          case rel => exact ⟨k + 1, y, by omega, by go_num, rfl, by rw [HY.out, HZ.out, HS.out]; push_cast; omega, by omega, by have := HY.out; omega, hbw.trans (hb2.mono hbw.size)⟩
          case measure => simp [intOf]; omega
      · obtain rfl : k = n := by omega
        go_wp2
        go_ret
        refine ⟨ret_int ?_, hbw⟩
        have h7 := HZ.out
        rw [List.take_of_length_le (by rw [HL.out]; exact Nat.le_refl _)] at h7
        rw [HR.out, if_neg (by omega), h7]

set_option maxHeartbeats 400000 in
theorem szTable_any (z : Int) (a : Option Addr) (n ca : Nat) (ts : List St) (L : Int) (w : World) (ha : RdT w a n ts) (hn : n ≤ maxLen) (h0 : 0 ≤ L) (hL : L ≤ 1048576) :
    Calls Try.prog 37 #[.agg #[.int .i64 z, .slice a n ca], .int .i64 L] w fun e w' => e = .returned (.int .i64 (if L < (n : Int) + stN ts then -1 else L - n - stN ts)) ∧ Below w.heap.size w w' := by
  have HN : Hid _ := hn
  clear hn
  by_cases h : L < (n : Int) + stN ts
  · go_enter Try.func37, Try.ntmps37
    go_wp2_with fail
    refine (szSetStateS_any a n ca ts L _ (ha.below ((Below.refl _ _).alloc (Nat.le_refl _) _)) HN.out h0 hL).mono ?_
    rw [if_pos h]
    rintro e w1 ⟨rfl, hb1⟩
    go_wp2
    go_ret
    exact ⟨rfl, below_slot hb1⟩
  · have h' : ¬ L - (n : Int) - (stN ts : Int) < 0 := by omega
    go_enter Try.func37, Try.ntmps37
    go_wp2_with fail
    refine (szSetStateS_any a n ca ts L _ (ha.below ((Below.refl _ _).alloc (Nat.le_refl _) _)) HN.out h0 hL).mono ?_
    rw [if_neg (by omega)]
    rintro e w1 ⟨rfl, hb1⟩
    go_wp2
    go_ret
    exact ⟨rfl, below_slot hb1⟩

set_option maxHeartbeats 400000 in
theorem toArc_any (x y : Int) (w : World) :
    Calls Try.prog 153 #[.agg #[.int .i64 x, .int .i64 y]] w fun e w' => e = .returned (.agg #[.int .i64 x, .int .i64 y]) ∧ Below w.heap.size w w' := by
  go_enter Try.func153, Try.ntmps153
  go_wp2
  refine bodyPost_ret (v := .agg #[.int .i64 x, .int .i64 y]) (by simp [results, Try.results153, go_sem]) rfl ⟨rfl, ?_⟩
  exact (((Below.refl _ _).alloc (Nat.le_refl _) _).alloc (by simp) _).alloc (by simp; omega) _

theorem infoArc : (Try.prog.info? 153).map (fun i => (i.zero, i.size, i.bytes)) = some (some (.agg #[.int .i64 0, .int .i64 0]), 2, 16) := by kernel_rfl

theorem made2 (n : Nat) : (madeCells #[Value.int .i64 0, .int .i64 0] (n * 2)).toList = (List.replicate n ((0, 0) : L2)).flatMap lineE := by
  apply List.ext_getElem?
  intro j
  by_cases hj : j < n * 2
  · have hq : j / 2 < n := by omega
    have h := getElem?_flatMap lineE 2 lineE_len (List.replicate n ((0, 0) : L2)) (j / 2) (j % 2) (0, 0) (by simp [hq]) (by omega)
    rw [show j / 2 * 2 + j % 2 = j by omega] at h
    rw [h]
    have : j % 2 = 0 ∨ j % 2 = 1 := by omega
    rcases this with h | h <;> simp [madeCells, hj, h, lineE]
  · have h2 := length_flatMap' lineE 2 lineE_len (List.replicate n ((0, 0) : L2))
    rw [List.getElem?_eq_none (by simp [madeCells]; omega), List.getElem?_eq_none (by rw [h2]; simp; omega)]

theorem copy2_set (cs : List L2) (n k : Nat) (c : L2) (h : cs.length = n) (hk : cs[k]? = some c) :
    (cs.take k ++ List.replicate (n - k) (0, 0)).set k c = cs.take (k + 1) ++ List.replicate (n - (k + 1)) (0, 0) := by
  have hk' := (List.getElem?_eq_some_iff.1 hk).1
  obtain ⟨d, hd⟩ : ∃ d, n - k = d + 1 := ⟨n - k - 1, by omega⟩
  rw [hd, List.replicate_succ, set_mid _ _ (by simp; omega), List.take_add_one, hk, show n - (k + 1) = d by omega]
  simp

set_option maxHeartbeats 800000 in
theorem toArcS_any (a : Option Addr) (n ca : Nat) (cs : List L2) (w : World) (ha : RdR lineE 2 w a n cs) (h1 : n ≤ 1073741824) :
    Calls Try.prog 140 #[.slice a n ca] w fun e w' => ∃ v, e = .returned v ∧ OwnR lineE 2 153 w' w.heap.size v n cs ∧ Below w.heap.size w w' := by
  obtain ⟨i0, hi, hz0, hz1, hz2⟩ := info_parts infoArc
  have hlen := ha.1
  go_enter Try.func140, Try.ntmps140
  go_wp2_with (at_make; refine wpList_make_full _ rfl _ _ 53 rfl w.heap.size 153 i0 (.agg #[.int .i64 0, .int .i64 0]) 2 Try.underlying53 hi hz0 hz1 _ _ _ _ n rfl rfl rfl rfl (by rw [hz2]; omega) (by unfold maxLen; omega) (Nat.le_refl _) ?_)
  intro w1 hown1 hgrow1
  have ho1 : OwnR lineE 2 153 w1 w.heap.size (.slice (some ⟨w.heap.size, 0, none⟩) n n) n (List.replicate n (0, 0)) := by
    refine ⟨by simp, ?_⟩
    rw [← made2]
    simpa [Value.cells] using hown1
  have hb1 : Below w.heap.size w w1 := (Below.refl _ _).grown hgrow1 (Nat.le_refl _) (by simp)
  clear hown1 hgrow1
  go_wp2
  go_loopw [4] (fun i wr => ∃ k : Nat, k ≤ n ∧ i = .int .i64 k ∧ OwnR lineE 2 153 wr w.heap.size (.slice (some ⟨w.heap.size, 0, none⟩) n n) n (cs.take k ++ List.replicate (n - k) (0, 0)) ∧ Below w.heap.size w wr ∧ w.heap.size < wr.heap.size) (fun i _ => n - (intOf i).toNat)
  case atStart => exact ⟨0, Nat.zero_le _, rfl, by simpa using ho1, hb1, (ho1.lt w.heap.size rfl).2⟩
  case round =>
    obtain ⟨q, hq, rfl, ho, hb, hz⟩ := hrel
    by_cases hlt : q < n
    · obtain ⟨b1, o1, ci, rfl, hx, hc1⟩ := (ha.below hb).at hlt
      obtain ⟨c0, c1⟩ := two hc1
      have HX : Hid _ := hx
      clear hx hc1
      obtain ⟨x, y⟩ := ci
      simp only at c0 c1
      have hlt' : (q : Int) < (n : Int) := by omega
      go_wp2_with fail
      refine (toArc_any x y _).mono ?_
      rintro e w2 ⟨rfl, hb2⟩
      have ho2 := ho.below hb2
      have hold : (cs.take q ++ List.replicate (n - q) ((0, 0) : L2))[q]? = some (0, 0) := by
        have hl : (cs.take q).length = q := by simp; omega
        rw [List.getElem?_append_right (by omega), hl, Nat.sub_self, List.getElem?_replicate, if_pos (by omega)]
      have d0 := OwnR.cell (f := 0) lineE_len ho2 hold rfl
      have d1 := OwnR.cell (f := 1) lineE_len ho2 hold rfl
      have f0 := ho2.frozen (q * 2)
      have f1 := ho2.frozen (q * 2 + 1)
      rw [Nat.add_zero] at d0
      have hst := store2 ho2 hold x y
      rw [copy2_set cs n q _ hlen HX.out] at hst
      have HS : Hid _ := hst
      have hb02 : Below w.heap.size w w2 := hb.trans (hb2.mono hb.size)
      have hz2 : w.heap.size < w2.heap.size := by have := hb2.size; omega
      clear hst ho2 ho hold hb hb2
      go_wp2
      go_roundw
      case rel => exact ⟨q + 1, by omega, by go_num, HS.out.1, (hb02.setCell (Nat.le_refl _) _).setCell (Nat.le_refl _) _, by simpa [World.setCell] using hz2⟩
      case measure => simp [intOf]; omega
    · go_wp2
      go_ret
      obtain rfl : q = n := by omega
      refine ⟨_, rfl, ?_, hb⟩
      rw [List.take_of_length_le (by omega), Nat.sub_self, List.replicate_zero, List.append_nil] at ho
      exact ho

theorem Blk.new1 (w : World) (o : Obj) (cs : Array Value) (t : TypeId) : Blk ((w.alloc o).alloc (.cells cs t)) (w.heap.size + 1) cs t := by
  have := Blk.new (w.alloc o) cs t
  rwa [World.size_alloc] at this
theorem Blk.new2 (w : World) (o o' : Obj) (cs : Array Value) (t : TypeId) : Blk (((w.alloc o).alloc o').alloc (.cells cs t)) (w.heap.size + 1 + 1) cs t := by
  have := Blk.new ((w.alloc o).alloc o') cs t
  rwa [World.size_alloc, World.size_alloc] at this
theorem Blk.of {w W : World} {B : Nat} {cs : Array Value} {t : TypeId} (h : Blk W B cs t) (hb : Below W.heap.size W w) : Blk w B cs t := (hb.block B h.lt).trans h

set_option maxHeartbeats 800000 in
theorem toSetState_any (p q : Option Addr) (cp cq : Nat) (ss : List Int) (az : List L2) (w : World) (ha : Rd .i64 w p ss.length ss) (hb : RdR lineE 2 w q az.length az) (h1 : ss.length ≤ 1073741824) (h2 : az.length ≤ 1073741824) :
    Calls Try.prog 122 #[.agg #[.slice p ss.length cp, .slice q az.length cq]] w fun e w' => ∃ a1 c1 a2 c2 m, e = .returned (.agg #[.slice a1 ss.length c1, .slice a2 az.length c2]) ∧
      RowI .i64 2 w' w.heap.size m (.slice a1 ss.length c1) ss.length ss ∧ RowS lineE 2 153 w' m w'.heap.size (.slice a2 az.length c2) az.length az ∧ w.heap.size ≤ m ∧ m ≤ w'.heap.size ∧ Below w.heap.size w w' := by
  have B3 : ∀ o1 o2 o3, Below w.heap.size w (((w.alloc o1).alloc o2).alloc o3) := fun o1 o2 o3 => (((Below.refl _ _).alloc (Nat.le_refl _) o1).alloc (by simp) o2).alloc (by simp; omega) o3
  go_enter Try.func122, Try.ntmps122
  go_wp2_with fail
  refine (toInt64S_any p ss.length cp ss _ (ha.below (B3 _ _ _)) h1).mono ?_
  rintro e w1 ⟨v1, rfl, ho1, hb1⟩
  obtain ⟨a1, c1, hv1, -⟩ := ho1.rdc
  subst hv1
  have hb01 := (B3 _ _ _).trans (hb1.mono (by simp; omega))
  have z1 : w.heap.size + 1 + 1 < w1.heap.size := by have := hb1.size; simp at this; omega
  have r1 : RowI .i64 2 w1 (w.heap.size + 1 + 1 + 1) w1.heap.size (.slice a1 ss.length c1) ss.length ss := RowI.mono (RowI.of ho1) (by simp) (Nat.le_refl _)
  have k0 := (((Blk.new w #[.slice p ss.length cp, .slice q az.length cq] 172).alloc (.cells #[.slice none 0 0, .slice none 0 0] 55)).alloc (.cells #[.slice none 0 0, .slice none 0 0] 55)).of hb1
  have k1 := ((Blk.new1 w (.cells #[.slice p ss.length cp, .slice q az.length cq] 172) #[.slice none 0 0, .slice none 0 0] 55).alloc (.cells #[.slice none 0 0, .slice none 0 0] 55)).of hb1
  have k2 := (Blk.new2 w (.cells #[.slice p ss.length cp, .slice q az.length cq] 172) (.cells #[.slice none 0 0, .slice none 0 0] 55) #[.slice none 0 0, .slice none 0 0] 55).of hb1
  have q1 : w1.cell? ⟨w.heap.size, 1, none⟩ = some (.slice q az.length cq) := k0.cell 1
  have d0 : w1.cell? ⟨w.heap.size + 1 + 1, 0, none⟩ = some (.slice none 0 0) := k2.cell 0
  have f0 := k2.frozen 0
  clear hb1 ho1
  go_wp2_with fail
  obtain ⟨X, hX⟩ : ∃ X, X = w1.setCell ⟨w.heap.size + 1 + 1, 0, none⟩ (.slice a1 ss.length c1) := ⟨_, rfl⟩
  rw [← hX]
  have k0 : Blk X w.heap.size #[.slice p ss.length cp, .slice q az.length cq] 172 := by rw [hX]; exact k0.other (by omega) _
  have k1 : Blk X (w.heap.size + 1) #[.slice none 0 0, .slice none 0 0] 55 := by rw [hX]; exact k1.other (by omega) _
  have k2 : Blk X (w.heap.size + 1 + 1) #[.slice a1 ss.length c1, .slice none 0 0] 55 := by rw [hX]; exact k2.set _
  have r1 : RowI .i64 2 X (w.heap.size + 1 + 1 + 1) X.heap.size (.slice a1 ss.length c1) ss.length ss := by
    rw [hX]
    exact RowI.mono (r1.chg (Chg.one (set_grown _ _ _ _)) (by omega)) (Nat.le_refl _) (by simp)
  have hbX : Below w.heap.size w X := by rw [hX]; exact hb01.setCell (by simp; omega) _
  have zX : w.heap.size + 1 + 1 < X.heap.size := by rw [hX]; simpa using z1
  clear hX q1 d0 f0 hb01 z1
  refine (toArcS_any q az.length cq az _ (hb.below hbX) h2).mono ?_
  rintro e w2 ⟨v2, rfl, ho2, hb2⟩
  obtain ⟨a2, c2, hv2, -⟩ := ho2.rd lineE_len
  subst hv2
  have k1 : Blk w2 (w.heap.size + 1) #[.slice none 0 0, .slice none 0 0] 55 := (hb2.block _ (by omega)).trans k1
  have k2 : Blk w2 (w.heap.size + 1 + 1) #[.slice a1 ss.length c1, .slice none 0 0] 55 := (hb2.block _ (by omega)).trans k2
  have q1 : w2.cell? ⟨w.heap.size + 1 + 1, 1, none⟩ = some (.slice none 0 0) := k2.cell 1
  have q0 : w2.cell? ⟨w.heap.size + 1 + 1, 0, none⟩ = some (.slice a1 ss.length c1) := k2.cell 0
  have f1 := k2.frozen 1
  have g0 : w2.cell? ⟨w.heap.size + 1, 0, none⟩ = some (.slice none 0 0) := k1.cell 0
  have g1 : w2.cell? ⟨w.heap.size + 1, 1, none⟩ = some (.slice none 0 0) := k1.cell 1
  have e0 := k1.frozen 0
  have e1 := k1.frozen 1
  have hb02 : Below w.heap.size w w2 := hbX.trans (hb2.mono hbX.size)
  have r2 : RowI .i64 2 w2 (w.heap.size + 1 + 1 + 1) X.heap.size (.slice a1 ss.length c1) ss.length ss := r1.below hb2
  have r3 : RowS lineE 2 153 w2 X.heap.size w2.heap.size (.slice a2 az.length c2) az.length az := RowS.of ho2
  have zz := hb2.size
  clear k0 k1 k2 r1 hbX hb2 ho2
  have S : ∀ (W : World) (b i : Nat) (x : Value), b < w.heap.size + 1 + 1 + 1 → RowI .i64 2 W (w.heap.size + 1 + 1 + 1) X.heap.size (.slice a1 ss.length c1) ss.length ss → RowI .i64 2 (W.setCell ⟨b, i, none⟩ x) (w.heap.size + 1 + 1 + 1) X.heap.size (.slice a1 ss.length c1) ss.length ss := fun W b i x hb' hr =>
    hr.chg (Chg.one (set_grown W b i x)) (by omega)
  have S' : ∀ (W : World) (b i : Nat) (x : Value), b < w.heap.size + 1 + 1 + 1 → RowS lineE 2 153 W X.heap.size w2.heap.size (.slice a2 az.length c2) az.length az → RowS lineE 2 153 (W.setCell ⟨b, i, none⟩ x) X.heap.size w2.heap.size (.slice a2 az.length c2) az.length az := fun W b i x hb' hr =>
    hr.chg (Chg.one (set_grown W b i x)) (by omega)
  go_wp2
  refine bodyPost_ret (v := .agg #[.slice a1 ss.length c1, .slice a2 az.length c2]) (by simp [results, Try.results122, go_sem, g0, g1]) rfl ⟨a1, c1, a2, c2, X.heap.size, rfl, ?_, ?_, ?_, ?_, ?_⟩
  · refine RowI.mono ?_ (show w.heap.size ≤ w.heap.size + 1 + 1 + 1 by omega) (Nat.le_refl _)
    repeat first | exact r2 | refine S _ _ _ _ (by omega) ?_
  · refine RowS.mono (lo := X.heap.size) (hi := w2.heap.size) ?_ (Nat.le_refl _) (by simp)
    repeat first | exact r3 | refine S' _ _ _ _ (by omega) ?_
  · omega
  · simpa using zz
  · repeat first | exact hb02 | refine Below.setCell ?_ (by first | omega | (simp; done) | (simp; omega)) _

theorem infoSt : (Try.prog.info? 55).map (fun i => (i.zero, i.size, i.bytes)) = some (some (.agg #[.slice none 0 0, .slice none 0 0]), 2, 48) := by kernel_rfl

theorem madeSt (n : Nat) : (madeCells #[Value.slice none 0 0, .slice none 0 0] (n * 2)).toList = (List.replicate n ((Value.slice none 0 0, Value.slice none 0 0) : Sv)).flatMap svE := by
  apply List.ext_getElem?
  intro j
  by_cases hj : j < n * 2
  · have hq : j / 2 < n := by omega
    have h := getElem?_flatMap svE 2 svE_len (List.replicate n ((Value.slice none 0 0, Value.slice none 0 0) : Sv)) (j / 2) (j % 2) (.slice none 0 0, .slice none 0 0) (by simp [hq]) (by omega)
    rw [show j / 2 * 2 + j % 2 = j by omega] at h
    rw [h]
    have : j % 2 = 0 ∨ j % 2 = 1 := by omega
    rcases this with h | h <;> simp [madeCells, hj, h, svE]
  · have h2 := length_flatMap' svE 2 svE_len (List.replicate n ((Value.slice none 0 0, Value.slice none 0 0) : Sv))
    rw [List.getElem?_eq_none (by simp [madeCells]; omega), List.getElem?_eq_none (by rw [h2]; simp; omega)]

/-- Two cells of a state are stored. -/
theorem storeSt {e : TypeId} {w : World} {base g n cap j : Nat} {us : List Su} {u : Su} (h : OwnR suE 2 e w base (.slice (some ⟨g, 0, none⟩) n cap) n us) (hx : us[j]? = some u) (v : Su) :
    OwnR suE 2 e ((w.setCell ⟨g, j * 2, none⟩ v.1.1).setCell ⟨g, j * 2 + 1, none⟩ v.2.1) base (.slice (some ⟨g, 0, none⟩) n cap) n (us.set j v) := by
  have hj : j < us.length := (List.getElem?_eq_some_iff.1 hx).1
  have s0 := OwnR.store (f := 0) (u := v.1.1) (y := (v.1, u.2)) suE_len h hx (by omega) rfl
  have x1 : (us.set j (v.1, u.2))[j]? = some (v.1, u.2) := by simp [hj]
  have s1 := OwnR.store (f := 1) (u := v.2.1) (y := v) suE_len s0.1 x1 (by omega) rfl
  rw [List.set_set] at s1
  exact s1.1

/-- A whole state is stored, its rows behind all that the row had. -/
theorem RowT.set {weak : Bool} {w : World} {lo hi lo' hi' g cap n j : Nat} {ts : List St} {u : Su} {x : St} (h : RowT weak 55 2 153 w lo hi (.slice (some ⟨g, 0, none⟩) n cap) n ts) (hj : j < n)
    (hel : StEl weak 2 153 w lo' hi' u x) (hd : hi ≤ lo') (hl : lo ≤ lo') (hh : hi ≤ hi') :
    RowT weak 55 2 153 ((w.setCell ⟨g, j * 2, none⟩ u.1.1).setCell ⟨g, j * 2 + 1, none⟩ u.2.1) lo hi' (.slice (some ⟨g, 0, none⟩) n cap) n (ts.set j x) := by
  have hin := (tabOk weak).inn hel
  obtain ⟨h0, h1, h2⟩ : lo ≤ g ∧ g < hi ∧ g < w.heap.size := by
    rcases h.cases with h0 | ⟨g', cap', e, h0⟩
    · simp at h0
    · simp at e
      obtain ⟨rfl, -⟩ := e
      exact h0
  refine RowN.set (tabOk weak) h hj (fun us u' ho hu => storeSt ho hu u) ?_ ((tabOk weak).mono hel hl (Nat.le_refl _)) (fun b hb => by have := hin b hb; omega) hh (fun hg => by have := hin g hg; omega)
  exact ⟨rfl, rfl, rfl, by simp, fun k hk hr => (Below.heap_setCell _ _ _ _ (fun e => hr (by rw [e]))).trans (Below.heap_setCell _ _ _ _ (fun e => hr (by rw [e])))⟩

set_option maxHeartbeats 1600000 in
theorem toSetStateS_any (a : Option Addr) (n ca : Nat) (ts : List St) (w : World) (ha : RdT w a n ts) (h1 : (n : Int) + stN ts ≤ 1073741824) :
    Calls Try.prog 90 #[.slice a n ca] w fun e w' => ∃ v, e = .returned v ∧ RowT false 55 2 153 w' w.heap.size w'.heap.size v n ts ∧ Below w.heap.size w w' := by
  obtain ⟨i0, hi, hz0, hz1, hz2⟩ := info_parts infoSt
  have hlen := ha.len
  go_enter Try.func90, Try.ntmps90
  go_wp2_with (at_make; refine wpList_make_full _ rfl _ _ 37 rfl w.heap.size 55 i0 (.agg #[.slice none 0 0, .slice none 0 0]) 2 Try.underlying37 hi hz0 hz1 _ _ _ _ n rfl rfl rfl rfl (by rw [hz2]; omega) (by unfold maxLen; omega) (Nat.le_refl _) ?_)
  intro w1 hown1 hgrow1
  have ho0 : w1.ownsRow w.heap.size 55 2 (.slice (some ⟨w.heap.size, 0, none⟩) n n) n ((List.replicate n ((Value.slice none 0 0, Value.slice none 0 0) : Sv)).flatMap svE) := by
    rw [← madeSt]
    simpa [Value.cells] using hown1
  have hs1 : w.heap.size < w1.heap.size := (World.ownsRow.lt ho0 w.heap.size rfl).2
  have ho1 : RowT false 55 2 153 w1 w.heap.size w1.heap.size (.slice (some ⟨w.heap.size, 0, none⟩) n n) n (List.replicate n ([], [])) := RowT.zeros ho0 hs1
  have hb1 : Below w.heap.size w w1 := (Below.refl _ _).grown hgrow1 (Nat.le_refl _) (by simp)
  clear hown1 hgrow1 ho0
  go_wp2
  go_loopw [4] (fun i wr => ∃ k : Nat, k ≤ n ∧ i = .int .i64 k ∧ RowT false 55 2 153 wr w.heap.size wr.heap.size (.slice (some ⟨w.heap.size, 0, none⟩) n n) n (ts.take k ++ List.replicate (n - k) ([], [])) ∧ Below w.heap.size w wr ∧ w.heap.size < wr.heap.size) (fun i _ => n - (intOf i).toNat)
  case atStart => exact ⟨0, Nat.zero_le _, rfl, by simpa using ho1, hb1, hs1⟩
  case round =>
    obtain ⟨k, hk, rfl, ho, hb, hz⟩ := hrel
    by_cases hlt : k < n
    · obtain ⟨b1, o1, p, cp, q, cq, ss, az, rfl, hx, c0, c1, r1, r2, -, -⟩ := (ha.below hb).at hlt
      have hs := stN_succ hx
      have ht := stN_take ts (k + 1)
      rw [hs] at ht
      have HX : Hid _ := hx
      clear hx hs
      have hlt' : (k : Int) < (n : Int) := by omega
      go_wp2_with fail
      refine (toSetState_any p q cp cq ss az _ r1 r2 (by omega) (by omega)).mono ?_
      rintro e w2 ⟨a1, c1', a2, c2', m, rfl, q1, q2, hm1, hm2, hb2⟩
      have ho2 := RowN.below (tabOk false) ho hb2
      obtain ⟨u0, e0, -, -⟩ := RowN.elem (tabOk false) suE_len ho2 (cpT_mid ts n k hlen hlt)
      have d0 := e0 0 _ rfl
      have d1 := e0 1 _ rfl
      rw [Nat.add_zero] at d0
      have f0 := ho2.frozen (k * 2)
      have f1 := ho2.frozen (k * 2 + 1)
      have hel : StEl false 2 153 w2 wr.heap.size w2.heap.size ((.slice a1 ss.length c1', (Value.slice a1 ss.length c1').ownBlock), (.slice a2 az.length c2', (Value.slice a2 az.length c2').ownBlock)) (ss, az) :=
        ⟨SubI.of (q1.mono (Nat.le_refl _) hm2), SubS.of (q2.mono hm1 (Nat.le_refl _))⟩
      have hst := RowT.set ho2 hlt hel (Nat.le_refl _) hb.size hb2.size
      rw [cpT_set hlen HX.out] at hst
      have hz2' : w.heap.size < w2.heap.size := Nat.lt_of_lt_of_le hz hb2.size
      have HS := hid hst
      clear hst ho ho2 e0 hel
      go_wp2
      go_roundw
      case rel => exact ⟨k + 1, by omega, by go_num, by simpa using HS.out, ((hb.trans (hb2.mono hb.size)).setCell (Nat.le_refl _) _).setCell (Nat.le_refl _) _, by simpa using hz2'⟩
      case measure => simp [intOf]; omega
    · go_wp2
      go_ret
      obtain rfl : k = n := by omega
      rw [Nat.sub_self, List.replicate_zero, List.append_nil, List.take_of_length_le (by omega)] at ho
      exact ⟨_, rfl, ho, hb⟩

set_option maxHeartbeats 400000 in
theorem toTable_any (z : Int) (a : Option Addr) (n ca : Nat) (ts : List St) (w : World) (ha : RdT w a n ts) (h1 : (n : Int) + stN ts ≤ 1073741824) :
    Calls Try.prog 39 #[.agg #[.int .i64 z, .slice a n ca]] w fun e w' => ∃ v, e = .returned (.agg #[.int .i64 z, v]) ∧ RowT false 55 2 153 w' w.heap.size w'.heap.size v n ts ∧ Below w.heap.size w w' := by
  have B3 : ∀ o1 o2 o3, Below w.heap.size w (((w.alloc o1).alloc o2).alloc o3) := fun o1 o2 o3 => (((Below.refl _ _).alloc (Nat.le_refl _) o1).alloc (by simp) o2).alloc (by simp; omega) o3
  go_enter Try.func39, Try.ntmps39
  go_wp2_with fail
  refine (toSetStateS_any a n ca ts _ (ha.below (B3 _ _ _)) h1).mono ?_
  rintro e w1 ⟨v1, rfl, ho1, hb1⟩
  obtain ⟨a1, c1, hv1, -⟩ := RowN.shape suE_len ho1
  subst hv1
  have hb01 := (B3 _ _ _).trans (hb1.mono (by simp; omega))
  have d0 : w1.cell? ⟨w.heap.size + 1 + 1, 0, none⟩ = some (.int .i64 z) := cell_later hb1 (by simp [go_sem])
  have d1 : w1.cell? ⟨w.heap.size + 1 + 1, 1, none⟩ = some (.slice none 0 0) := cell_later hb1 (by simp [go_sem])
  have g0 : w1.cell? ⟨w.heap.size + 1, 0, none⟩ = some (.int .i64 0) := cell_later hb1 (by simp [go_sem])
  have g1 : w1.cell? ⟨w.heap.size + 1, 1, none⟩ = some (.slice none 0 0) := cell_later hb1 (by simp [go_sem])
  have z1 : w.heap.size + 1 + 1 < w1.heap.size := by have := hb1.size; simp at this; omega
  have f0 : ∀ j, w1.frozen? ⟨w.heap.size + 1 + 1, j, none⟩ = false := fun j => (hb1.frozen (p := ⟨w.heap.size + 1 + 1, j, none⟩) (by simp)).trans (by simp [go_sem])
  have f1 : ∀ j, w1.frozen? ⟨w.heap.size + 1, j, none⟩ = false := fun j => (hb1.frozen (p := ⟨w.heap.size + 1, j, none⟩) (by simp)).trans (by simp [go_sem])
  have f01 := f0 1
  have f10 := f1 0
  have f11 := f1 1
  have S : ∀ (W : World) (b i : Nat) (x : Value), b < w.heap.size + 1 + 1 + 1 → RowT false 55 2 153 W (w.heap.size + 1 + 1 + 1) w1.heap.size (.slice a1 n c1) n ts → RowT false 55 2 153 (W.setCell ⟨b, i, none⟩ x) (w.heap.size + 1 + 1 + 1) w1.heap.size (.slice a1 n c1) n ts := fun W b i x hb' hr =>
    RowN.chg (tabOk false) hr (Chg.one (set_grown W b i x)) (by omega)
  have r1 : RowT false 55 2 153 w1 (w.heap.size + 1 + 1 + 1) w1.heap.size (.slice a1 n c1) n ts := RowN.mono (tabOk false) ho1 (by simp) (Nat.le_refl _)
  clear hb1 ho1
  go_wp2
  refine bodyPost_ret (v := .agg #[.int .i64 z, .slice a1 n c1]) (by simp [results, Try.results39, go_sem, g0, g1]) rfl ⟨_, rfl, ?_, ?_⟩
  · refine RowN.mono (tabOk false) (lo := w.heap.size + 1 + 1 + 1) (hi := w1.heap.size) ?_ (by omega) (by simp)
    repeat first | exact r1 | refine S _ _ _ _ (by omega) ?_
  · repeat first | exact hb01 | refine Below.setCell ?_ (by first | omega | (simp; done) | (simp; omega)) _
end Go.Proofs.Ytoggkcgldckekaa
