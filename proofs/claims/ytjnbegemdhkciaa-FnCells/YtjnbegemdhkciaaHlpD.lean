/-
  Contracts of the helpers of the exact laws over slices of cells: copies, comparisons.
-/
import Derived.Test.YtjnbegemdhkciaaHlpC
namespace Go.Proofs.Ytjnbegemdhkciaa
open Go.RowKit
set_option linter.unusedVariables false

theorem infoC : (Try.prog.info? 43).map (fun i => (i.zero, i.size, i.bytes)) = some (some (.agg #[.int .i64 0, .int .i64 0, .int .i64 0]), 3, 24) := by kernel_rfl

theorem madeC (n : Nat) : (madeCells #[Value.int .i64 0, .int .i64 0, .int .i64 0] (n * 3)).toList = (List.replicate n ((0, 0, 0) : C3)).flatMap cellE := by
  apply List.ext_getElem?
  intro j
  by_cases hj : j < n * 3
  · have e1 : j / 3 < n := by omega
    have h := getElem?_flatMap cellE 3 cellE_len (List.replicate n ((0, 0, 0) : C3)) (j / 3) (j % 3) (0, 0, 0) (by simp [e1]) (by omega)
    rw [show j / 3 * 3 + j % 3 = j by omega] at h
    rw [h]
    have : j % 3 = 0 ∨ j % 3 = 1 ∨ j % 3 = 2 := by omega
    rcases this with h | h | h <;> simp [madeCells, hj, h, cellE]
  · have h2 := length_flatMap' cellE 3 cellE_len (List.replicate n ((0, 0, 0) : C3))
    rw [List.getElem?_eq_none (by simp [madeCells]; omega), List.getElem?_eq_none (by rw [h2]; simp; omega)]

/-- The element k of a list that is copied. -/
theorem copyC_set (cs : List C3) (n k : Nat) (c : C3) (h : cs.length = n) (hk : cs[k]? = some c) :
    (cs.take k ++ List.replicate (n - k) ((0, 0, 0) : C3)).set k c = cs.take (k + 1) ++ List.replicate (n - (k + 1)) (0, 0, 0) := by
  have hk' := (List.getElem?_eq_some_iff.1 hk).1
  obtain ⟨d, hd⟩ : ∃ d, n - k = d + 1 := ⟨n - k - 1, by omega⟩
  rw [hd, List.replicate_succ, set_mid _ _ (by simp; omega), List.take_add_one, hk, show n - (k + 1) = d by omega]
  simp

theorem grown_trans' {w1 w2 w3 : World} {row : Option Nat} (h : w1.grownBy w2 row) (k : w2.grownBy w3 row) : w1.grownBy w3 row :=
  ⟨k.os.trans h.os, k.tape.trans h.tape, k.output.trans h.output, Nat.le_trans h.size k.size, fun i hi hr => (k.block i (Nat.lt_of_lt_of_le hi h.size) hr).trans (h.block i hi hr)⟩

/-- A whole cell is stored. -/
theorem store3 {e : TypeId} {w : World} {base g n cap j : Nat} {xs : List C3} {c : C3} (h : OwnR cellE 3 e w base (.slice (some ⟨g, 0, none⟩) n cap) n xs) (hx : xs[j]? = some c) (x y z : Int) :
    OwnR cellE 3 e (((w.setCell ⟨g, j * 3, none⟩ (.int .i64 x)).setCell ⟨g, j * 3 + 1, none⟩ (.int .i64 y)).setCell ⟨g, j * 3 + 2, none⟩ (.int .i64 z)) base (.slice (some ⟨g, 0, none⟩) n cap) n (xs.set j (x, y, z)) ∧
    w.grownBy (((w.setCell ⟨g, j * 3, none⟩ (.int .i64 x)).setCell ⟨g, j * 3 + 1, none⟩ (.int .i64 y)).setCell ⟨g, j * 3 + 2, none⟩ (.int .i64 z)) (some g) := by
  have hj : j < xs.length := (List.getElem?_eq_some_iff.1 hx).1
  have s0 := OwnR.store (f := 0) (u := .int .i64 x) (y := (x, c.2.1, c.2.2)) cellE_len h hx (by omega) rfl
  have x1 : (xs.set j (x, c.2.1, c.2.2))[j]? = some (x, c.2.1, c.2.2) := by simp [hj]
  have s1 := OwnR.store (f := 1) (u := .int .i64 y) (y := (x, y, c.2.2)) cellE_len s0.1 x1 (by omega) rfl
  have x2 : ((xs.set j (x, c.2.1, c.2.2)).set j (x, y, c.2.2))[j]? = some (x, y, c.2.2) := by simp [hj]
  have s2 := OwnR.store (f := 2) (u := .int .i64 z) (y := (x, y, z)) cellE_len s1.1 x2 (by omega) rfl
  rw [List.set_set, List.set_set] at s2
  exact ⟨s2.1, grown_trans' (grown_trans' s0.2 s1.2) s2.2⟩

set_option maxHeartbeats 800000 in
theorem toCellS_any (a : Option Addr) (n ca : Nat) (cs : List C3) (w : World) (ha : RdR cellE 3 w a n cs) (h1 : n ≤ 1073741824) :
    Calls Try.prog 40 #[.slice a n ca] w fun e w' => ∃ v, e = .returned v ∧ OwnR cellE 3 43 w' w.heap.size v n cs ∧ Below w.heap.size w w' := by
  obtain ⟨i0, hi, hz0, hz1, hz2⟩ := info_parts infoC
  have hlen := ha.1
  go_enter Try.func40, Try.ntmps40
  go_wp2_with (at_make; refine wpList_make_full _ rfl _ _ 35 rfl w.heap.size 43 i0 (.agg #[.int .i64 0, .int .i64 0, .int .i64 0]) 3 Try.underlying35 hi hz0 hz1 _ _ _ _ n rfl rfl rfl rfl (by rw [hz2]; omega) (by unfold maxLen; omega) (Nat.le_refl _) ?_)
  intro w1 hown1 hgrow1
  have ho1 : OwnR cellE 3 43 w1 w.heap.size (.slice (some ⟨w.heap.size, 0, none⟩) n n) n (List.replicate n ((0, 0, 0) : C3)) := by
    refine ⟨by simp, ?_⟩
    rw [← madeC]
    simpa [Value.cells] using hown1
  have hb1 : Below w.heap.size w w1 := (Below.refl _ _).grown hgrow1 (Nat.le_refl _) (by simp)
  clear hown1 hgrow1
  go_wp2
  go_loopw [4] (fun i wr => ∃ k : Nat, k ≤ n ∧ i = .int .i64 k ∧ OwnR cellE 3 43 wr w.heap.size (.slice (some ⟨w.heap.size, 0, none⟩) n n) n (cs.take k ++ List.replicate (n - k) ((0, 0, 0) : C3)) ∧ Below w.heap.size w wr ∧ w.heap.size < wr.heap.size) (fun i _ => n - (intOf i).toNat)
  case atStart => exact ⟨0, Nat.zero_le _, rfl, by simpa using ho1, hb1, (ho1.lt w.heap.size rfl).2⟩
  case round =>
    obtain ⟨k, hk, rfl, ho, hb, hz⟩ := hrel
    by_cases hlt : k < n
    · obtain ⟨b1, o1, c, rfl, hx, hc1⟩ := (ha.below hb).at hlt
      obtain ⟨c0, c1, c2⟩ := three hc1
      have HX : Hid _ := hx
      clear hx hc1
      obtain ⟨x, y, z⟩ := c
      simp only at c0 c1 c2
      have hlt' : (k : Int) < (n : Int) := by omega
      go_wp2_with fail
      refine (toCell_any x y z _).mono ?_
      rintro e w2 ⟨rfl, hb2⟩
      have ho2 := ho.below hb2
      have hold : (cs.take k ++ List.replicate (n - k) ((0, 0, 0) : C3))[k]? = some (0, 0, 0) := by
        have hl : (cs.take k).length = k := by simp; omega
        rw [List.getElem?_append_right (by omega), hl, Nat.sub_self, List.getElem?_replicate, if_pos (by omega)]
      have d0 := OwnR.cell (f := 0) cellE_len ho2 hold rfl
      have d1 := OwnR.cell (f := 1) cellE_len ho2 hold rfl
      have d2 := OwnR.cell (f := 2) cellE_len ho2 hold rfl
      have f0 := ho2.frozen (k * 3)
      have f1 := ho2.frozen (k * 3 + 1)
      have f2 := ho2.frozen (k * 3 + 2)
      rw [Nat.add_zero] at d0
      have hst := store3 ho2 hold x y z
      rw [copyC_set cs n k _ hlen HX.out] at hst
      have HS : Hid _ := hst
      have hb02 : Below w.heap.size w w2 := hb.trans (hb2.mono hb.size)
      have hz2 : w.heap.size < w2.heap.size := by have := hb2.size; omega
      clear hst ho2 ho hold hb hb2
      go_wp2
      go_roundw
      case rel => exact ⟨k + 1, by omega, by go_num, HS.out.1, ((hb02.setCell (Nat.le_refl _) _).setCell (Nat.le_refl _) _).setCell (Nat.le_refl _) _, by simpa [World.setCell] using hz2⟩
      case measure => simp [intOf]; omega
    · go_wp2
      go_ret
      obtain rfl : k = n := by omega
      refine ⟨_, rfl, ?_, hb⟩
      rw [List.take_of_length_le (by omega), Nat.sub_self, List.replicate_zero, List.append_nil] at ho
      exact ho

set_option maxHeartbeats 800000 in
theorem eqCellS_yes (a b : Option Addr) (n ca cb : Nat) (cs : List C3) (w : World) (ha : RdR cellE 3 w a n cs) (hb : RdR cellE 3 w b n cs) (h1 : n ≤ 1073741824) :
    Calls Try.prog 42 #[.slice a n ca, .slice b n cb] w fun e w' => e = .returned (.bool true) ∧ Below w.heap.size w w' := by
  go_enter Try.func42, Try.ntmps42
  go_wp2
  go_loopw [5] (fun i wr => ∃ k : Nat, k ≤ n ∧ i = .int .i64 k ∧ Below w.heap.size w wr) (fun i _ => n - (intOf i).toNat)
  case atStart => exact ⟨0, Nat.zero_le _, rfl, Below.refl _ _⟩
  case round =>
    obtain ⟨k, hk, rfl, hbw⟩ := hrel
    by_cases hlt : k < n
    · obtain ⟨b1, o1, c, rfl, hx, hc1⟩ := (ha.below hbw).at hlt
      obtain ⟨b2, o2, c', rfl, hx', hc2⟩ := (hb.below hbw).at hlt
      obtain rfl : c = c' := by rw [hx] at hx'; simpa using hx'
      obtain ⟨c0, c1, c2⟩ := three hc1
      obtain ⟨e0, e1, e2⟩ := three hc2
      clear hx hx' hc1 hc2
      obtain ⟨x, y, z⟩ := c
      simp only at c0 c1 c2 e0 e1 e2
      have hlt' : (k : Int) < (n : Int) := by omega
      go_wp2
      go_region_with (go_at_call 66; refine (eqCell_yes x y z _).mono ?_; rintro e w2 ⟨rfl, hb2⟩)
      all_goals
        go_wp2
        go_roundw
        case rel => exact ⟨k + 1, by omega, by go_num, hbw.drew.trans (hb2.mono hbw.size)⟩
        case measure => simp [intOf]; omega
    · go_wp2
      go_ret
      exact ⟨rfl, hbw⟩

theorem markC_set (cs : List C3) (x0 : Int) (n k : Nat) (h : cs.length = n) (hk : k < n) (c : C3) :
    ((mkC x0 k ++ cs.drop k).set k (x0 + 3 * (k : Int), x0 + 3 * (k : Int) + 1, x0 + 3 * (k : Int) + 1 + 1)) = mkC x0 (k + 1) ++ cs.drop (k + 1) := by
  rw [List.drop_eq_getElem_cons (show k < cs.length by omega), set_mid _ _ (mkC_len _ _), mkC_succ]

set_option maxHeartbeats 800000 in
theorem markCellS_own (v : Value) (n base : Nat) (cs : List C3) (x0 : Int) (w : World) (hown : OwnR cellE 3 43 w base v n cs) (h1 : n ≤ 107374182) (h2 : 0 ≤ x0) (h3 : x0 ≤ 1073741824) :
    Calls Try.prog 63 #[v, .int .i64 x0] w fun e w' => e = .returned (.int .i64 (x0 + 3 * n)) ∧ OwnR cellE 3 43 w' base v n (mkC x0 n) ∧ w.grownBy w' v.ownBlock := by
  have hlen := hown.1
  rcases hown.2.2 with ⟨rfl, rfl⟩ | ⟨g, cap, cur, rfl, _⟩
  · go_enter Try.func63, Try.ntmps63
    go_wp2
    refine wp_loop_rounds 1 ?_
    rw [rounds_succ]
    go_wp2
    go_ret
    have hx : cs = [] := List.eq_nil_of_length_eq_zero hlen
    subst hx
    exact ⟨by simp, by simpa [mkC] using hown, World.grownBy.refl _ _⟩
  · go_enter Try.func63, Try.ntmps63
    go_wp2
    go_loopw [1, 5] (fun x i wr => ∃ k : Nat, k ≤ n ∧ i = .int .i64 k ∧ x = .int .i64 (x0 + 3 * k) ∧ OwnR cellE 3 43 wr base (.slice (some ⟨g, 0, none⟩) n cap) n (mkC x0 k ++ cs.drop k) ∧ w.grownBy wr (some g)) (fun _ i _ => n - (intOf i).toNat)
    case atStart => exact ⟨0, Nat.zero_le _, rfl, by go_num, by simpa [mkC] using hown, World.grownBy.refl _ _⟩
    case round =>
      obtain ⟨k, hk, rfl, rfl, ho, hg⟩ := hrel
      by_cases hlt : k < n
      · have hk' : k < cs.length := by omega
        have hold : (mkC x0 k ++ cs.drop k)[k]? = some cs[k] := by
          rw [List.getElem?_append_right (by rw [mkC_len]; omega), mkC_len, Nat.sub_self, List.drop_eq_getElem_cons hk']
          rfl
        generalize cs[k] = c at hold
        have d0 := OwnR.cell (f := 0) cellE_len ho hold rfl
        have d1 := OwnR.cell (f := 1) cellE_len ho hold rfl
        have d2 := OwnR.cell (f := 2) cellE_len ho hold rfl
        have f0 := ho.frozen (k * 3)
        have f1 := ho.frozen (k * 3 + 1)
        have f2 := ho.frozen (k * 3 + 2)
        rw [Nat.add_zero] at d0
        have hst := store3 ho hold (x0 + 3 * (k : Int)) (x0 + 3 * (k : Int) + 1) (x0 + 3 * (k : Int) + 1 + 1)
        rw [markC_set cs x0 n k hlen hlt c] at hst
        have HS : Hid _ := hst
        clear hst ho hold
        have hlt' : (k : Int) < (n : Int) := by omega
        go_wp2
        go_roundw
        case rel => exact ⟨k + 1, by omega, by go_num, by go_num, HS.out.1, grown_trans' hg HS.out.2⟩
        case measure => simp [intOf]; omega
      · go_wp2
        go_ret
        obtain rfl : k = n := by omega
        refine ⟨rfl, ?_, hg⟩
        rw [List.drop_of_length_le (by omega), List.append_nil] at ho
        exact ho

set_option maxHeartbeats 800000 in
theorem heldCellS_yes (a : Option Addr) (n ca : Nat) (x0 : Int) (w : World) (ha : RdR cellE 3 w a n (mkC x0 n)) (h1 : n ≤ 107374182) (h2 : 0 ≤ x0) (h3 : x0 ≤ 1073741824) :
    Calls Try.prog 64 #[.slice a n ca, .int .i64 x0] w fun e w' => e = .returned (.int .i64 (x0 + 3 * n)) ∧ w' = w := by
  go_enter Try.func64, Try.ntmps64
  go_wp2
  go_loop [1, 5] (fun x i => ∃ k : Nat, k ≤ n ∧ i = .int .i64 k ∧ x = .int .i64 (x0 + 3 * k)) (fun _ i => n - (intOf i).toNat)
  case atStart => exact ⟨0, Nat.zero_le _, rfl, by go_num⟩
  case round =>
    obtain ⟨k, hk, rfl, rfl⟩ := hrel
    by_cases hlt : k < n
    · obtain ⟨b1, o1, c, rfl, hx, hc1⟩ := ha.at hlt
      rw [mkC_at x0 n k hlt] at hx
      obtain rfl := (Option.some.inj hx).symm
      obtain ⟨c0, c1, c2⟩ := three hc1
      simp only at c0 c1 c2
      clear hx hc1
      have hlt' : (k : Int) < (n : Int) := by omega
      go_wp2
      go_round
      case rel => exact ⟨k + 1, by omega, by go_num, by go_num⟩
      case measure => simp [intOf]; omega
    · go_wp2
      go_ret
      obtain rfl : k = n := by omega
      exact ⟨rfl, rfl⟩

set_option maxHeartbeats 400000 in
theorem eqCellsResult_yes (c : Int) (a b : Option Addr) (n ca cb : Nat) (cs : List C3) (w : World) (ha : RdR cellE 3 w a n cs) (hb : RdR cellE 3 w b n cs) (h1 : n ≤ 1073741824) :
    Calls Try.prog 33 #[.agg #[.int .i64 c, .slice a n ca], .agg #[.int .i64 c, .slice b n cb]] w fun e w' => e = .returned (.bool true) ∧ Below w.heap.size w w' := by
  have B2 : ∀ o1 o2, Below w.heap.size w ((w.alloc o1).alloc o2) := fun o1 o2 => ((Below.refl _ _).alloc (Nat.le_refl _) o1).alloc (by simp) o2
  go_enter Try.func33, Try.ntmps33
  go_wp2_with fail
  refine (eqCellS_yes a b n ca cb cs _ (ha.below (B2 _ _)) (hb.below (B2 _ _)) h1).mono ?_
  rintro e w1 ⟨rfl, hb1⟩
  go_wp2
  go_ret
  exact ⟨rfl, (B2 _ _).trans (hb1.mono (by simp; omega))⟩

set_option maxHeartbeats 400000 in
theorem markCellsResult_own (c x0 : Int) (v : Value) (n base : Nat) (cs : List C3) (w : World) (ho : OwnR cellE 3 43 w base v n cs) (h1 : n ≤ 107374182) (h2 : 0 ≤ x0) (h3 : x0 ≤ 1073741824) :
    Calls Try.prog 35 #[.agg #[.int .i64 c, v], .int .i64 x0] w fun e w' => e = .returned (.int .i64 (x0 + 3 * n)) ∧ OwnR cellE 3 43 w' base v n (mkC x0 n) ∧ w.grownBy w' v.ownBlock := by
  obtain ⟨a, cap, hv, _, _⟩ := ho.rd cellE_len
  subst hv
  go_enter Try.func35, Try.ntmps35
  go_wp2_with fail
  refine (markCellS_own _ n base cs x0 _ (ho.alloc _) h1 h2 h3).mono ?_
  rintro e w1 ⟨rfl, ho1, hg⟩
  go_wp2
  go_ret
  exact ⟨rfl, ho1, grownBy_alloc_trans hg⟩

set_option maxHeartbeats 400000 in
theorem heldCellsResult_yes (c x0 : Int) (a : Option Addr) (n ca : Nat) (w : World) (ha : RdR cellE 3 w a n (mkC x0 n)) (h1 : n ≤ 107374182) (h2 : 0 ≤ x0) (h3 : x0 ≤ 1073741824) :
    Calls Try.prog 36 #[.agg #[.int .i64 c, .slice a n ca], .int .i64 x0] w fun e w' => e = .returned (.int .i64 (x0 + 3 * n)) ∧ Below w.heap.size w w' := by
  go_enter Try.func36, Try.ntmps36
  go_wp2_with fail
  refine (heldCellS_yes a n ca x0 _ (ha.below ((Below.refl _ _).alloc (Nat.le_refl _) _)) h1 h2 h3).mono ?_
  rintro e w1 ⟨rfl, rfl⟩
  go_wp2
  go_ret
  exact ⟨rfl, (Below.refl _ _).alloc (Nat.le_refl _) _⟩
end Go.Proofs.Ytjnbegemdhkciaa
