/-
  Chapter 5: helpers of the exact laws over nodes: sizes, copies, comparisons.
-/
import Derived.Test.YtjkipdamohljpaaNode1
import Derived.Test.YtjkipdamohljpaaHlpD
namespace Go.Proofs.Ytjkipdamohljpaa
open Go.RowKit
set_option linter.unusedVariables false

/-- A node as a value. -/
def ndV (n : Nd) : Value := .agg #[.int .i64 n.k, .int .i64 n.c, .string n.s, .int .i64 n.l, .int .i64 n.r]

theorem szNode_any (n : Nd) (l : Int) (w : World) (h2 : 0 ≤ l) (h3 : l ≤ 1073741824) (h4 : (n.s.size : Int) ≤ 9223372036854775807) :
    Calls Try.prog 63 #[.agg #[.int .i64 n.k, .int .i64 n.c, .string n.s, .int .i64 n.l, .int .i64 n.r], .int .i64 l] w fun e w' => e = .returned (.int .i64 (if l < n.s.size then -1 else l - n.s.size)) ∧ Below w.heap.size w w' := by
  have B1 : ∀ o, Below w.heap.size w (w.alloc o) := fun o => (Below.refl _ _).alloc (Nat.le_refl _) o
  by_cases h : l < n.s.size
  · rw [if_pos h]
    go_enter Try.func63, Try.ntmps63
    go_wp2
    go_ret
    exact ⟨rfl, B1 _⟩
  · rw [if_neg h]
    go_enter Try.func63, Try.ntmps63
    go_wp2
    go_ret
    exact ⟨rfl, B1 _⟩

set_option maxHeartbeats 800000 in
theorem toNode_any (k c : Int) (s : ByteArray) (l r : Int) (w : World) :
    Calls Try.prog 66 #[.agg #[.int .i64 k, .int .i64 c, .string s, .int .i64 l, .int .i64 r]] w fun e w' => e = .returned (.agg #[.int .i64 k, .int .i64 c, .string s, .int .i64 l, .int .i64 r]) ∧ Below w.heap.size w w' := by
  go_enter Try.func66, Try.ntmps66
  go_wp2
  refine bodyPost_ret (v := .agg #[.int .i64 k, .int .i64 c, .string s, .int .i64 l, .int .i64 r]) (by simp [results, Try.results66, go_sem]) rfl ⟨rfl, ?_⟩
  exact (((Below.refl _ _).alloc (Nat.le_refl _) _).alloc (by simp) _).alloc (by simp; omega) _

set_option maxHeartbeats 800000 in
theorem eqNode_yes (k c : Int) (s : ByteArray) (l r : Int) (w : World) :
    Calls Try.prog 70 #[.agg #[.int .i64 k, .int .i64 c, .string s, .int .i64 l, .int .i64 r], .agg #[.int .i64 k, .int .i64 c, .string s, .int .i64 l, .int .i64 r]] w fun e w' => e = .returned (.bool true) ∧ Below w.heap.size w w' := by
  go_enter Try.func70, Try.ntmps70
  go_wp2
  go_ret
  exact ⟨rfl, ((Below.refl _ _).alloc (Nat.le_refl _) _).alloc (by simp) _⟩

theorem infoN : (Try.prog.info? 89).map (fun i => (i.zero, i.size, i.bytes)) = some (some (.agg #[.int .i64 0, .int .i64 0, .string ⟨#[]⟩, .int .i64 0, .int .i64 0]), 5, 48) := by kernel_rfl

theorem madeN (n : Nat) : (madeCells #[Value.int .i64 0, .int .i64 0, .string ⟨#[]⟩, .int .i64 0, .int .i64 0] (n * 5)).toList = (List.replicate n nd0).flatMap ndE := by
  apply List.ext_getElem?
  intro j
  by_cases hj : j < n * 5
  · have e1 : j / 5 < n := by omega
    have h := getElem?_flatMap ndE 5 ndE_len (List.replicate n nd0) (j / 5) (j % 5) nd0 (by simp [e1]) (by omega)
    rw [show j / 5 * 5 + j % 5 = j by omega] at h
    rw [h]
    have : j % 5 = 0 ∨ j % 5 = 1 ∨ j % 5 = 2 ∨ j % 5 = 3 ∨ j % 5 = 4 := by omega
    rcases this with h | h | h | h | h <;> simp [madeCells, hj, h, ndE, nd0]
  · have h2 := length_flatMap' ndE 5 ndE_len (List.replicate n nd0)
    rw [List.getElem?_eq_none (by simp [madeCells]; omega), List.getElem?_eq_none (by rw [h2]; simp; omega)]

theorem copyN_set (cs : List Nd) (n k : Nat) (c : Nd) (h : cs.length = n) (hk : cs[k]? = some c) :
    (cs.take k ++ List.replicate (n - k) nd0).set k c = cs.take (k + 1) ++ List.replicate (n - (k + 1)) nd0 := by
  have hk' := (List.getElem?_eq_some_iff.1 hk).1
  obtain ⟨d, hd⟩ : ∃ d, n - k = d + 1 := ⟨n - k - 1, by omega⟩
  rw [hd, List.replicate_succ, set_mid _ _ (by simp; omega), List.take_add_one, hk, show n - (k + 1) = d by omega]
  simp

/-- A whole node is stored. -/
theorem storeN {e : TypeId} {w : World} {base g n cap j : Nat} {xs : List Nd} {c : Nd} (h : OwnR ndE 5 e w base (.slice (some ⟨g, 0, none⟩) n cap) n xs) (hx : xs[j]? = some c) (k d : Int) (s : ByteArray) (l r : Int) :
    OwnR ndE 5 e (((((w.setCell ⟨g, j * 5, none⟩ (.int .i64 k)).setCell ⟨g, j * 5 + 1, none⟩ (.int .i64 d)).setCell ⟨g, j * 5 + 2, none⟩ (.string s)).setCell ⟨g, j * 5 + 3, none⟩ (.int .i64 l)).setCell ⟨g, j * 5 + 4, none⟩ (.int .i64 r)) base (.slice (some ⟨g, 0, none⟩) n cap) n (xs.set j ⟨k, d, s, l, r⟩) ∧
    w.grownBy (((((w.setCell ⟨g, j * 5, none⟩ (.int .i64 k)).setCell ⟨g, j * 5 + 1, none⟩ (.int .i64 d)).setCell ⟨g, j * 5 + 2, none⟩ (.string s)).setCell ⟨g, j * 5 + 3, none⟩ (.int .i64 l)).setCell ⟨g, j * 5 + 4, none⟩ (.int .i64 r)) (some g) := by
  have hj : j < xs.length := (List.getElem?_eq_some_iff.1 hx).1
  have s0 := OwnR.store (f := 0) (u := .int .i64 k) (y := ⟨k, c.c, c.s, c.l, c.r⟩) ndE_len h hx (by omega) rfl
  have x1 : (xs.set j ⟨k, c.c, c.s, c.l, c.r⟩)[j]? = some ⟨k, c.c, c.s, c.l, c.r⟩ := by simp [hj]
  have s1 := OwnR.store (f := 1) (u := .int .i64 d) (y := ⟨k, d, c.s, c.l, c.r⟩) ndE_len s0.1 x1 (by omega) rfl
  have x2 : ((xs.set j ⟨k, c.c, c.s, c.l, c.r⟩).set j ⟨k, d, c.s, c.l, c.r⟩)[j]? = some ⟨k, d, c.s, c.l, c.r⟩ := by simp [hj]
  have s2 := OwnR.store (f := 2) (u := .string s) (y := ⟨k, d, s, c.l, c.r⟩) ndE_len s1.1 x2 (by omega) rfl
  have x3 : (((xs.set j ⟨k, c.c, c.s, c.l, c.r⟩).set j ⟨k, d, c.s, c.l, c.r⟩).set j ⟨k, d, s, c.l, c.r⟩)[j]? = some ⟨k, d, s, c.l, c.r⟩ := by simp [hj]
  have s3 := OwnR.store (f := 3) (u := .int .i64 l) (y := ⟨k, d, s, l, c.r⟩) ndE_len s2.1 x3 (by omega) rfl
  have x4 : ((((xs.set j ⟨k, c.c, c.s, c.l, c.r⟩).set j ⟨k, d, c.s, c.l, c.r⟩).set j ⟨k, d, s, c.l, c.r⟩).set j ⟨k, d, s, l, c.r⟩)[j]? = some ⟨k, d, s, l, c.r⟩ := by simp [hj]
  have s4 := OwnR.store (f := 4) (u := .int .i64 r) (y := ⟨k, d, s, l, r⟩) ndE_len s3.1 x4 (by omega) rfl
  rw [List.set_set, List.set_set, List.set_set, List.set_set] at s4
  exact ⟨s4.1, grown_trans' (grown_trans' (grown_trans' (grown_trans' s0.2 s1.2) s2.2) s3.2) s4.2⟩

set_option maxHeartbeats 800000 in
theorem toNodeS_any (a : Option Addr) (n ca : Nat) (cs : List Nd) (w : World) (ha : RdR ndE 5 w a n cs) (h1 : n ≤ 1073741824) :
    Calls Try.prog 27 #[.slice a n ca] w fun e w' => ∃ v, e = .returned v ∧ OwnR ndE 5 89 w' w.heap.size v n cs ∧ Below w.heap.size w w' := by
  obtain ⟨i0, hi, hz0, hz1, hz2⟩ := info_parts infoN
  have hlen := ha.1
  go_enter Try.func27, Try.ntmps27
  go_wp2_with (at_make; refine wpList_make_full _ rfl _ _ 48 rfl w.heap.size 89 i0 (.agg #[.int .i64 0, .int .i64 0, .string ⟨#[]⟩, .int .i64 0, .int .i64 0]) 5 Try.underlying48 hi hz0 hz1 _ _ _ _ n rfl rfl rfl rfl (by rw [hz2]; omega) (by unfold maxLen; omega) (Nat.le_refl _) ?_)
  intro w1 hown1 hgrow1
  have ho1 : OwnR ndE 5 89 w1 w.heap.size (.slice (some ⟨w.heap.size, 0, none⟩) n n) n (List.replicate n nd0) := by
    refine ⟨by simp, ?_⟩
    rw [← madeN]
    simpa [Value.cells] using hown1
  have hb1 : Below w.heap.size w w1 := (Below.refl _ _).grown hgrow1 (Nat.le_refl _) (by simp)
  clear hown1 hgrow1
  go_wp2
  go_loopw [4] (fun i wr => ∃ k : Nat, k ≤ n ∧ i = .int .i64 k ∧ OwnR ndE 5 89 wr w.heap.size (.slice (some ⟨w.heap.size, 0, none⟩) n n) n (cs.take k ++ List.replicate (n - k) nd0) ∧ Below w.heap.size w wr ∧ w.heap.size < wr.heap.size) (fun i _ => n - (intOf i).toNat)
  case atStart => exact ⟨0, Nat.zero_le _, rfl, by simpa using ho1, hb1, (ho1.lt w.heap.size rfl).2⟩
  case round =>
    obtain ⟨k, hk, rfl, ho, hb, hz⟩ := hrel
    by_cases hlt : k < n
    · obtain ⟨b1, o1, c, rfl, hx, hc1⟩ := (ha.below hb).at hlt
      obtain ⟨c0, c1, c2, c3, c4⟩ := five hc1
      have HX : Hid _ := hx
      clear hx hc1
      obtain ⟨x, y, s, l, r⟩ := c
      simp only at c0 c1 c2 c3 c4
      have hlt' : (k : Int) < (n : Int) := by omega
      go_wp2_with fail
      refine (toNode_any x y s l r _).mono ?_
      rintro e w2 ⟨rfl, hb2⟩
      have ho2 := ho.below hb2
      have hold : (cs.take k ++ List.replicate (n - k) nd0)[k]? = some nd0 := by
        have hl : (cs.take k).length = k := by simp; omega
        rw [List.getElem?_append_right (by omega), hl, Nat.sub_self, List.getElem?_replicate, if_pos (by omega)]
      have d0 := OwnR.cell (f := 0) ndE_len ho2 hold rfl
      have d1 := OwnR.cell (f := 1) ndE_len ho2 hold rfl
      have d2 := OwnR.cell (f := 2) ndE_len ho2 hold rfl
      have d3 := OwnR.cell (f := 3) ndE_len ho2 hold rfl
      have d4 := OwnR.cell (f := 4) ndE_len ho2 hold rfl
      have f0 := ho2.frozen (k * 5)
      have f1 := ho2.frozen (k * 5 + 1)
      have f2 := ho2.frozen (k * 5 + 2)
      have f3 := ho2.frozen (k * 5 + 3)
      have f4 := ho2.frozen (k * 5 + 4)
      rw [Nat.add_zero] at d0
      have hst := storeN ho2 hold x y s l r
      rw [copyN_set cs n k _ hlen HX.out] at hst
      have HS : Hid _ := hst
      have hb02 : Below w.heap.size w w2 := hb.trans (hb2.mono hb.size)
      have hz2 : w.heap.size < w2.heap.size := by have := hb2.size; omega
      clear hst ho2 ho hold hb hb2
      go_wp2
      go_roundw
      case rel => exact ⟨k + 1, by omega, by go_num, HS.out.1, ((((hb02.setCell (Nat.le_refl _) _).setCell (Nat.le_refl _) _).setCell (Nat.le_refl _) _).setCell (Nat.le_refl _) _).setCell (Nat.le_refl _) _, by simpa [World.setCell] using hz2⟩
      case measure => simp [intOf]; omega
    · go_wp2
      go_ret
      obtain rfl : k = n := by omega
      refine ⟨_, rfl, ?_, hb⟩
      rw [List.take_of_length_le (by omega), Nat.sub_self, List.replicate_zero, List.append_nil] at ho
      exact ho

set_option maxHeartbeats 800000 in
theorem eqNodeS_yes (a b : Option Addr) (n ca cb : Nat) (cs : List Nd) (w : World) (ha : RdR ndE 5 w a n cs) (hb : RdR ndE 5 w b n cs) (h1 : n ≤ 1073741824) :
    Calls Try.prog 30 #[.slice a n ca, .slice b n cb] w fun e w' => e = .returned (.bool true) ∧ Below w.heap.size w w' := by
  go_enter Try.func30, Try.ntmps30
  go_wp2
  go_loopw [5] (fun i wr => ∃ k : Nat, k ≤ n ∧ i = .int .i64 k ∧ Below w.heap.size w wr) (fun i _ => n - (intOf i).toNat)
  case atStart => exact ⟨0, Nat.zero_le _, rfl, Below.refl _ _⟩
  case round =>
    obtain ⟨k, hk, rfl, hbw⟩ := hrel
    by_cases hlt : k < n
    · obtain ⟨b1, o1, c, rfl, hx, hc1⟩ := (ha.below hbw).at hlt
      obtain ⟨b2, o2, c', rfl, hx', hc2⟩ := (hb.below hbw).at hlt
      obtain rfl : c = c' := by rw [hx] at hx'; simpa using hx'
      obtain ⟨c0, c1, c2, c3, c4⟩ := five hc1
      obtain ⟨e0, e1, e2, e3, e4⟩ := five hc2
      clear hx hx' hc1 hc2
      obtain ⟨x, y, s, l, r⟩ := c
      simp only at c0 c1 c2 c3 c4 e0 e1 e2 e3 e4
      have hlt' : (k : Int) < (n : Int) := by omega
      go_wp2
      go_region_with (go_at_call 70; refine (eqNode_yes x y s l r _).mono ?_; rintro e w2 ⟨rfl, hb2⟩)
      all_goals
        go_wp2
        go_roundw
        case rel => exact ⟨k + 1, by omega, by go_num, hbw.drew.trans (hb2.mono hbw.size)⟩
        case measure => simp [intOf]; omega
    · go_wp2
      go_ret
      exact ⟨rfl, hbw⟩

set_option maxHeartbeats 400000 in
theorem szNodeS_any (a : Option Addr) (n ca : Nat) (cs : List Nd) (l : Int) (w : World) (ha : RdR ndE 5 w a n cs) (hsz : ∀ y ∈ cs, y.s.size ≤ maxLen) (h1 : n ≤ maxLen) (h2 : 0 ≤ l) (h3 : l ≤ 1073741824) :
    Calls Try.prog 25 #[.slice a n ca, .int .i64 l] w fun e w' => e = .returned (.int .i64 (if l < (n : Int) + ndSum cs then -1 else l - n - ndSum cs)) ∧ Below w.heap.size w w' := by
  have hlen := ha.1
  obtain ⟨R, hR⟩ : ∃ R, R = (if l < (n : Int) + ndSum cs then -1 else l - n - ndSum cs) := ⟨_, rfl⟩
  rw [← hR]
  have HR : Hid _ := hR
  have HS : Hid _ := hsz
  have HL : Hid _ := hlen
  clear hR hsz hlen
  unfold maxLen at h1
  by_cases h : l < n
  · go_enter Try.func25, Try.ntmps25
    go_wp2
    go_ret
    exact ⟨ret_int (by rw [HR.out, if_pos (by omega)]), Below.refl _ _⟩
  · have h' : (n : Int) ≤ l := by omega
    clear h
    go_enter Try.func25, Try.ntmps25
    go_wp2
    go_loopw [1, 5] (fun x i wr => ∃ (k : Nat) (z : Int), k ≤ n ∧ i = .int .i64 k ∧ x = .int .i64 z ∧ z = l - n - ndSum (cs.take k) ∧ 0 ≤ z ∧ z ≤ 1073741824 ∧ Below w.heap.size w wr) (fun _ i _ => n - (intOf i).toNat)
    case atStart => exact ⟨0, l - n, Nat.zero_le _, rfl, rfl, by simp [ndSum], by omega, by omega, Below.refl _ _⟩
    case round =>
      obtain ⟨k, z, hk, rfl, rfl, hz, hz0, hz1, hbw⟩ := hrel
      have HZ : Hid _ := hz
      clear hz
      by_cases hlt : k < n
      · obtain ⟨b1, o1, c, rfl, hx, hc1⟩ := (ha.below hbw).at hlt
        obtain ⟨c0, c1, c2, c3, c4⟩ := five hc1
        have HX : Hid _ := hx
        have hm := HS.out c (List.mem_of_getElem? hx)
        clear hx hc1
        have hlt' : (k : Int) < (n : Int) := by omega
        have hcz := fun w' => szNode_any c z w' hz0 hz1 (by unfold maxLen at hm; omega)
        clear hm
        by_cases hs : z < c.s.size
        · rw [if_pos hs] at hcz
          have HC : Hid _ := hcz
          clear hcz
          have HS2 : Hid _ := hs
          clear hs
          obtain ⟨x, y, s, l', r⟩ := c
          simp only at c0 c1 c2 c3 c4 HC HS2
          go_wp2_with fail
          refine (HC.out _).mono ?_
          rintro e w2 ⟨rfl, hb2⟩
          go_wp2
          go_ret
          refine ⟨ret_int ?_, hbw.trans (hb2.mono hbw.size)⟩
          have h5 := ndSum_succ HX.out
          have h6 := ndSum_take cs (k + 1)
          have h7 := HZ.out
          have h8 := HS2.out
          simp only at h5 h8
          rw [HR.out, if_pos (by omega)]
        · rw [if_neg hs] at hcz
          have HC : Hid _ := hcz
          clear hcz
          obtain ⟨zz, hzz⟩ : ∃ zz, zz = z - c.s.size := ⟨_, rfl⟩
          have hzz0 : 0 ≤ zz := by omega
          have hzz1 : zz ≤ 1073741824 := by omega
          have h5 : Hid _ := ndSum_succ HX.out
          have HZZ : Hid (zz = z - c.s.size) := hzz
          rw [← hzz] at HC
          clear hs hzz
          obtain ⟨x, y, s, l', r⟩ := c
          simp only at c0 c1 c2 c3 c4 HC HZZ h5
          go_wp2_with fail
          refine (HC.out _).mono ?_
          rintro e w2 ⟨rfl, hb2⟩
          go_wp2
          go_roundw
          case rel =>
            refine ⟨k + 1, zz, by omega, by go_num, rfl, ?_, hzz0, hzz1, hbw.trans (hb2.mono hbw.size)⟩
            have h7 := HZ.out
            have h8 := HZZ.out
            have h9 := h5.out
            omega
          case measure => simp [intOf]; omega
      · go_wp2
        go_ret
        refine ⟨ret_int ?_, hbw⟩
        have h7 := HZ.out
        have h8 := HL.out
        obtain rfl : k = n := by omega
        rw [List.take_of_length_le (by omega)] at h7
        rw [HR.out, if_neg (by omega)]
        exact h7
end Go.Proofs.Ytjkipdamohljpaa
