/-
  Draws of a long line, and of cells that may have a fault.
-/
import Derived.Test.YthkgplpdoaebiaaDraw3
import Derived.Test.YthkgplpdoaebiaaCells1
import Derived.Test.YthkgplpdoaebiaaHlpCA
namespace Go.Proofs.Ythkgplpdoaebiaa
open Go.RowKit
set_option linter.unusedVariables false

theorem l1Chance_any (B b T : Nat) (N : Int) (w : World) (hs : Src w B b T) (hT : T ≤ 1073741824) (hN : N ≤ 1073741824) :
    Calls Try.prog 70 #[.pointer (some ⟨b, 0, none⟩), .int .i64 N] w fun e w' => ∃ q : Bool, e = .returned (.bool q) ∧ Src w' B b (T + 1) ∧ w.grownBy w' (some b) := by
  go_enter Try.func70, Try.ntmps70
  go_wp2_with fail
  refine (l1Next_any B b T N _ hs hT hN).mono ?_
  rintro e w1 ⟨r, rfl, hr, hs1, hg1⟩
  clear hr
  go_wp2
  go_ret
  exact ⟨_, rfl, hs1, hg1⟩

set_option maxHeartbeats 1600000 in
theorem l1Long_any (B b T : Nat) (w : World) (hs : Src w B b T) (hT : T ≤ 10000) :
    Calls Try.prog 41 #[.pointer (some ⟨b, 0, none⟩)] w fun e w' => ∃ v ys, e = .returned v ∧ Own .u8 5 w' w.heap.size v ys.length ys ∧ ys.length ≤ 401 ∧ Bytes ys ∧ w.grownBy w' (some b) := by
  obtain ⟨i0, hi, hz0, hz1, hz2⟩ := info_parts info8d
  have hlt := hs.lt
  go_enter Try.func41, Try.ntmps41
  go_wp2_with fail
  refine (l1Chance_any B b T 30 _ hs (by omega) (by omega)).mono ?_
  rintro e w1 ⟨q, rfl, hs1, hg1⟩
  have hy1 := hg1.size
  cases q
  · go_wp2_with fail
    refine (l1Line_any B b _ 12 _ hs1 (by omega) (by omega) (by omega)).mono ?_
    rintro e w2 ⟨v2, ys, rfl, ho2, hyl, hyb, hs2, hg2⟩
    go_wp2
    go_ret
    exact ⟨_, ys, rfl, ho2.up hy1, by omega, hyb, grown_trans hg1 hg2⟩
  · go_wp2_with fail
    refine (l1Pick_any B b _ w1.heap.size 2 [400, 401] _ (hs1.alloc _) (by omega) rfl (by omega) (by omega) (by omega) (lit_rd w1 [400, 401] 2 rfl (by simp [maxLen]))).mono ?_
    rintro e w2 ⟨x, rfl, hx, hs2, hg2⟩
    have hxb : 400 ≤ x ∧ x ≤ 401 := by simp at hx; omega
    obtain ⟨x1, x2⟩ := hxb
    obtain ⟨n, rfl⟩ := Int.eq_ofNat_of_zero_le (show 0 ≤ x by omega)
    have hg02 := grown_trans hg1 (grownBy_alloc_trans hg2)
    have hy2 := hg02.size
    clear hx hg2 hg1
    go_wp2_with (at_make; refine wpList_make_full _ rfl _ _ 22 rfl w2.heap.size 5 i0 (.int .u8 0) 1 Try.underlying22 hi hz0 hz1 _ _ _ _ n rfl rfl rfl rfl (by rw [hz2]; omega) (by unfold maxLen; omega) (Nat.le_refl _) ?_)
    intro w3 hown1 hgrow1
    have ho1 : Own .u8 5 w3 w2.heap.size (.slice (some ⟨w2.heap.size, 0, none⟩) n n) n (List.replicate n 0) := by
      unfold Own
      rw [List.map_replicate, ← toList_madeCells_one]
      exact hown1
    have hb1 : Below w2.heap.size w2 w3 := (Below.refl _ _).grown hgrow1 (Nat.le_refl _) (by simp)
    clear hown1 hgrow1
    go_wp2
    go_ret
    exact ⟨_, List.replicate n 0, rfl, by simpa using ho1.up hy2, by simp; omega, fun z hz => by have := List.eq_of_mem_replicate hz; omega, grown_trans hg02 (grown_none (grownBy_of_below hb1))⟩

theorem src_below {w : World} {a : Option Addr} {n : Nat} {xs : List Int} (ha : Rd .u8 w a n xs) : n = 0 ∨ ∃ b' off, a = some ⟨b', off, none⟩ ∧ b' < w.heap.size := by
  rcases ha.2 with h0 | ⟨b', off, rfl, hc⟩
  · exact .inl h0
  · by_cases h0 : n = 0
    · exact .inl h0
    · exact .inr ⟨b', off, rfl, World.block_lt_of_cell? _ _ (hc 0 (by omega))⟩

end Go.Proofs.Ythkgplpdoaebiaa