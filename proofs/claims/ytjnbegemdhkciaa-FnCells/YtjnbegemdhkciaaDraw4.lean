/-
  Draws of a long line, and of cells that may have a fault.
-/
import Derived.Test.YtjnbegemdhkciaaDraw3
import Derived.Test.YtjnbegemdhkciaaCells1
import Derived.Test.YtjnbegemdhkciaaHlpD
namespace Go.Proofs.Ytjnbegemdhkciaa
open Go.RowKit
set_option linter.unusedVariables false

theorem l1Chance_any (B b T : Nat) (N : Int) (w : World) (hs : Src w B b T) (hT : T ≤ 1073741824) (hN : N ≤ 1073741824) :
    Calls Try.prog 72 #[.pointer (some ⟨b, 0, none⟩), .int .i64 N] w fun e w' => ∃ q : Bool, e = .returned (.bool q) ∧ Src w' B b (T + 1) ∧ w.grownBy w' (some b) := by
  go_enter Try.func72, Try.ntmps72
  go_wp2_with fail
  refine (l1Next_any B b T N _ hs hT hN).mono ?_
  rintro e w1 ⟨r, rfl, hr, hs1, hg1⟩
  clear hr
  go_wp2
  go_ret
  exact ⟨_, rfl, hs1, hg1⟩

set_option maxHeartbeats 1600000 in
theorem l1Long_any (B b T : Nat) (w : World) (hs : Src w B b T) (hT : T ≤ 1000) :
    Calls Try.prog 56 #[.pointer (some ⟨b, 0, none⟩)] w fun e w' => ∃ v ys, e = .returned v ∧ Own .u8 5 w' w.heap.size v ys.length ys ∧ ys.length ≤ 401 ∧ Bytes ys ∧ w.grownBy w' (some b) := by
  obtain ⟨i0, hi, hz0, hz1, hz2⟩ := info_parts info8d
  have hlt := hs.lt
  go_enter Try.func56, Try.ntmps56
  go_wp2_with fail
  refine (l1Chance_any B b T 30 _ hs (by omega) (by omega)).mono ?_
  rintro e w1 ⟨q, rfl, hs1, hg1⟩
  have hy1 := hg1.size
  cases q
  · go_wp2_with fail
    refine (l1Line_any B b _ 12 _ hs1 (by omega) (by omega) (by omega)).mono ?_
    rintro e w2 ⟨v2, ys, rfl, ho2, hyl, hyb, hs2, hg2⟩
    go_wp2
    go_ret
    exact ⟨_, ys, rfl, ho2.up hy1, by omega, hyb, grown_trans hg1 hg2⟩
  · go_wp2_with fail
    refine (l1Pick_any B b _ w1.heap.size 2 [400, 401] _ (hs1.alloc _) (by omega) rfl (by omega) (by omega) (by omega) (lit_rd w1 [400, 401] 2 rfl (by simp [maxLen]))).mono ?_
    rintro e w2 ⟨x, rfl, hx, hs2, hg2⟩
    have hxb : 400 ≤ x ∧ x ≤ 401 := by simp at hx; omega
    obtain ⟨x1, x2⟩ := hxb
    obtain ⟨n, rfl⟩ := Int.eq_ofNat_of_zero_le (show 0 ≤ x by omega)
    have hg02 := grown_trans hg1 (grownBy_alloc_trans hg2)
    have hy2 := hg02.size
    clear hx hg2 hg1
    go_wp2_with (at_make; refine wpList_make_full _ rfl _ _ 22 rfl w2.heap.size 5 i0 (.int .u8 0) 1 Try.underlying22 hi hz0 hz1 _ _ _ _ n rfl rfl rfl rfl (by rw [hz2]; omega) (by unfold maxLen; omega) (Nat.le_refl _) ?_)
    intro w3 hown1 hgrow1
    have ho1 : Own .u8 5 w3 w2.heap.size (.slice (some ⟨w2.heap.size, 0, none⟩) n n) n (List.replicate n 0) := by
      unfold Own
      rw [List.map_replicate, ← toList_madeCells_one]
      exact hown1
    have hb1 : Below w2.heap.size w2 w3 := (Below.refl _ _).grown hgrow1 (Nat.le_refl _) (by simp)
    clear hown1 hgrow1
    go_wp2
    go_ret
    exact ⟨_, List.replicate n 0, rfl, by simpa using ho1.up hy2, by simp; omega, fun z hz => by have := List.eq_of_mem_replicate hz; omega, grown_trans hg02 (grown_none (grownBy_of_below hb1))⟩

theorem src_below {w : World} {a : Option Addr} {n : Nat} {xs : List Int} (ha : Rd .u8 w a n xs) : n = 0 ∨ ∃ b' off, a = some ⟨b', off, none⟩ ∧ b' < w.heap.size := by
  rcases ha.2 with h0 | ⟨b', off, rfl, hc⟩
  · exact .inl h0
  · by_cases h0 : n = 0
    · exact .inl h0
    · exact .inr ⟨b', off, rfl, World.block_lt_of_cell? _ _ (hc 0 (by omega))⟩

set_option maxHeartbeats 400000 in
theorem DrawCellsOf_any (a : Option Addr) (n ca : Nat) (xs : List Int) (w : World) (ha : Rd .u8 w a n xs) (hB : Bytes xs) (hn : n ≤ 1048576) :
    Calls Try.prog 19 #[.slice a n ca] w fun e w' => ∃ v ys, e = .returned v ∧ Own .u8 5 w' w.heap.size v ys.length ys ∧ ys.length ≤ 401 ∧ Bytes ys ∧ Below w.heap.size w w' := by
  have hab := src_below ha
  go_enter Try.func19, Try.ntmps19
  go_wp2_with fail
  refine (l1Source_any a n ca xs w.heap.size _ ha hB hn hab (Nat.le_refl _)).mono ?_
  rintro e w1 ⟨rfl, hs1, hb1⟩
  have hz1 := hb1.size
  go_wp2_with fail
  refine (l1Long_any w.heap.size w.heap.size 0 _ hs1 (by omega)).mono ?_
  rintro e w2 ⟨v2, ys, rfl, ho2, hyl, hyb, hg2⟩
  go_wp2
  go_ret
  exact ⟨_, ys, rfl, ho2.up hz1, hyl, hyb, hb1.grown hg2 hz1 (fun j hj => by simp at hj; omega)⟩

set_option maxRecDepth 10000 in
set_option maxHeartbeats 1600000 in
theorem l1Bent_any (B b T : Nat) (w : World) (hs : Src w B b T) (hT : T ≤ 1000) :
    Calls Try.prog 59 #[.pointer (some ⟨b, 0, none⟩)] w fun e w' => ∃ v cs, e = .returned v ∧ OwnR cellE 3 43 w' w.heap.size v cs.length cs ∧ cs.length ≤ 2001 ∧ w.grownBy w' (some b) := by
  obtain ⟨i0, hi, hz0, hz1, hz2⟩ := info_parts infoC1
  have hlt := hs.lt
  go_enter Try.func59, Try.ntmps59
  go_wp2_with fail
  refine (l1Line_any B b T 8 _ hs (by omega) (by omega) (by omega)).mono ?_
  rintro e w1 ⟨v1, ys, rfl, ho1, hyl, hyb, hs1, hg1⟩
  obtain ⟨av, cap, hv, hr1, _⟩ := ho1.rd
  subst hv
  go_wp2_with fail
  refine (l1Cells_any av ys.length cap ys _ hr1 hyb (by omega)).mono ?_
  rintro e w2 ⟨v2, rfl, ho2, hb2⟩
  have hcl := cellsAll_len hyb
  generalize cellsAll ys = cs at *
  obtain ⟨a2, c2, hv2, _⟩ := ho2.rd cellE_len
  subst hv2
  have hs2 := hs1.kept (grownBy_of_below hb2) (by simp)
  have hg02 := grown_trans hg1 (grown_none (grownBy_of_below hb2))
  have hy1 := hg1.size
  have hy2 := hb2.size
  clear hg1 hb2 hs1 ho1 hr1
  go_wp2_with fail
  refine (l1Next_any B b _ 10 _ hs2 (by omega) (by omega)).mono ?_
  rintro e w3 ⟨r, rfl, hr, hs3, hg3⟩
  obtain ⟨hr0, hr1⟩ := hr.2 (by omega)
  have lo := ho2.lt
  have ho3 := ho2.kept hg3 (fun j hj hk => by have := (lo j hj).1; simp at hk; omega)
  have hg03 := grown_trans hg02 hg3
  have hy3 := hg3.size
  clear hr hg02 hg3 hs2 ho2
  have hcl' : cs.length ≤ 96 := by omega
  clear hcl hyl hyb
  by_cases r0 : r = 0
  · subst r0
    go_wp2_with fail
    refine (l1Pick_any B b _ w3.heap.size 4 [31, 127, 32, 65536] _ (hs3.alloc _) (by omega) rfl (by omega) (by omega) (by omega) (lit_rd w3 [31, 127, 32, 65536] 4 rfl (by simp [maxLen]))).mono ?_
    rintro e w4 ⟨x, rfl, _, hs4, hg4'⟩
    have hg4 := grownBy_alloc_trans hg4'
    have hy4 := hg4.size
    have ho4 := ho3.kept hg4 (fun j hj hk => by have := (lo j hj).1; simp at hk; omega)
    have hg04 := grown_trans hg03 hg4
    clear hg4 hg4' hg03 ho3 hs3
    go_wp2_with fail
    refine (l1Pick_any B b _ w4.heap.size 3 [0, -1, 401] _ (hs4.alloc _) (by omega) rfl (by omega) (by omega) (by omega) (lit_rd w4 [0, -1, 401] 3 rfl (by simp [maxLen]))).mono ?_
    rintro e w5 ⟨y, rfl, _, hs5, hg5'⟩
    have hg5 := grownBy_alloc_trans hg5'
    have hy5 := hg5.size
    have ho5 := ho4.kept hg5 (fun j hj hk => by have := (lo j hj).1; simp at hk; omega)
    have hg05 := grown_trans hg04 hg5
    clear hg5 hg5' hg04 ho4 hs4
    go_wp2_with fail
    refine (l1Pick_any B b _ w5.heap.size 3 [1, 0, 4] _ (hs5.alloc _) (by omega) rfl (by omega) (by omega) (by omega) (lit_rd w5 [1, 0, 4] 3 rfl (by simp [maxLen]))).mono ?_
    rintro e w6 ⟨z, rfl, _, hs6, hg6'⟩
    have hg6 := grownBy_alloc_trans hg6'
    have hy6 := hg6.size
    have ho6 := ho5.kept hg6 (fun j hj hk => by have := (lo j hj).1; simp at hk; omega)
    have hg06 := grown_trans hg05 hg6
    clear hg6 hg6' hg05 ho5 hs5
    go_wp2_with (at_builtin; refine wpList_append_own _ rfl _ _ 35 rfl w1.heap.size 43 i0 (.agg #[.int .i64 0, .int .i64 0, .int .i64 0]) 3 24 Try.underlying35 hi hz0 hz1 hz2 rfl (by decide) _ _ _ rfl (ho6.alloc _).2 ⟨w6.heap.size, 0, none⟩ 1 1 (cellE (x, y, z)) rfl rfl (cells_new w6 #[.int .i64 x, .int .i64 y, .int .i64 z] 43) (cellE_one _) (by unfold maxLen; omega) (by omega) (by simp; omega) ?_)
    intro v' w7 ho7 hg7 _
    have ho8 := ownR_snoc ho6.1 ho7
    have lo6 := ho6.lt
    have hg07 := grown_mix hg06 (grownBy_alloc_trans hg7) (fun j hj => by have := (lo6 j hj).1; omega)
    clear ho7 hg7 ho6 hg06
    go_wp2
    go_ret
    exact ⟨_, cs ++ [(x, y, z)], rfl, by simpa using ho8.up hy1, by simp; omega, hg07⟩
  have r0' : (r == 0) = false := by simpa using r0
  by_cases r1 : r = 1
  · subst r1
    go_wp2_with (at_make; refine wpList_make_full _ rfl _ _ 35 rfl w3.heap.size 43 i0 (.agg #[.int .i64 0, .int .i64 0, .int .i64 0]) 3 Try.underlying35 hi hz0 hz1 _ _ _ _ 2001 rfl rfl rfl rfl (by rw [hz2]; omega) (by unfold maxLen; omega) (Nat.le_refl _) ?_)
    intro w4 hown1 hgrow1
    have ho1 : OwnR cellE 3 43 w4 w3.heap.size (.slice (some ⟨w3.heap.size, 0, none⟩) 2001 2001) 2001 (List.replicate 2001 ((0, 0, 0) : C3)) := by
      refine ⟨by rw [List.length_replicate], ?_⟩
      rw [← madeC]
      simpa only [Value.cells] using hown1
    have hb1 : Below w3.heap.size w3 w4 := (Below.refl _ _).grown hgrow1 (Nat.le_refl _) (by simp)
    clear hown1 hgrow1
    go_wp2
    go_ret
    exact ⟨_, List.replicate 2001 (0, 0, 0), rfl, by rw [List.length_replicate]; exact ho1.up (by omega), by rw [List.length_replicate]; omega, grown_trans hg03 (grown_none (grownBy_of_below hb1))⟩
  have r1' : (r == 1) = false := by simpa using r1
  go_wp2
  go_ret
  exact ⟨_, cs, rfl, ho3.up hy1, by omega, hg03⟩

set_option maxHeartbeats 400000 in
theorem DrawCellsText_any (a : Option Addr) (n ca : Nat) (xs : List Int) (w : World) (ha : Rd .u8 w a n xs) (hB : Bytes xs) (hn : n ≤ 1048576) :
    Calls Try.prog 23 #[.slice a n ca] w fun e w' => ∃ v cs, e = .returned v ∧ OwnR cellE 3 43 w' w.heap.size v cs.length cs ∧ cs.length ≤ 2001 ∧ Below w.heap.size w w' := by
  have hab := src_below ha
  go_enter Try.func23, Try.ntmps23
  go_wp2_with fail
  refine (l1Source_any a n ca xs w.heap.size _ ha hB hn hab (Nat.le_refl _)).mono ?_
  rintro e w1 ⟨rfl, hs1, hb1⟩
  have hz1 := hb1.size
  go_wp2_with fail
  refine (l1Bent_any w.heap.size w.heap.size 0 _ hs1 (by omega)).mono ?_
  rintro e w2 ⟨v2, cs, rfl, ho2, hcl, hg2⟩
  go_wp2
  go_ret
  exact ⟨_, cs, rfl, ho2.up hz1, hcl, hb1.grown hg2 hz1 (fun j hj => by simp at hj; omega)⟩
end Go.Proofs.Ytjnbegemdhkciaa
