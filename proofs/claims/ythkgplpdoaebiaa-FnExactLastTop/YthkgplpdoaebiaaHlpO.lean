/-
  Helpers of the exact laws of chapter 10: layouts, spots, and cells that begin within a block.
-/
import Derived.Test.YthkgplpdoaebiaaRow2
import Derived.Test.YthkgplpdoaebiaaHlpCA
import Derived.Test.YthkgplpdoaebiaaHlp1
namespace Go.Proofs.Ythkgplpdoaebiaa
open Go.RowKit
set_option linter.unusedVariables false
set_option linter.unusedSimpArgs false

set_option maxHeartbeats 400000 in
theorem toLayout_any (W S : Int) (C : Bool) (w : World) :
    Calls Try.prog 24 #[.agg #[.int .i64 W, .bool C, .int .i64 S]] w fun e w' => e = .returned (.agg #[.int .i64 W, .bool C, .int .i64 S]) ∧ Below w.heap.size w w' := by
  go_enter Try.func24, Try.ntmps24
  go_wp2
  exact bodyPost_ret (v := .agg #[.int .i64 W, .bool C, .int .i64 S]) (by simp [results, Try.results24, go_sem]) rfl ⟨rfl, (((Below.refl _ _).alloc (Nat.le_refl _) _).alloc (by simp) _).alloc (by simp; omega) _⟩

set_option maxHeartbeats 400000 in
theorem toSpot_any (L R : Int) (w : World) :
    Calls Try.prog 36 #[.agg #[.int .i64 L, .int .i64 R]] w fun e w' => e = .returned (.agg #[.int .i64 L, .int .i64 R]) ∧ Below w.heap.size w w' := by
  go_enter Try.func36, Try.ntmps36
  go_wp2
  exact bodyPost_ret (v := .agg #[.int .i64 L, .int .i64 R]) (by simp [results, Try.results36, go_sem]) rfl ⟨rfl, (((Below.refl _ _).alloc (Nat.le_refl _) _).alloc (by simp) _).alloc (by simp; omega) _⟩

set_option maxHeartbeats 400000 in
theorem eqSpot_yes (L R : Int) (w : World) :
    Calls Try.prog 69 #[.agg #[.int .i64 L, .int .i64 R], .agg #[.int .i64 L, .int .i64 R]] w fun e w' => e = .returned (.bool true) ∧ Below w.heap.size w w' := by
  have B2 : ∀ o1 o2, Below w.heap.size w ((w.alloc o1).alloc o2) := fun o1 o2 => ((Below.refl _ _).alloc (Nat.le_refl _) o1).alloc (by simp) o2
  go_enter Try.func69, Try.ntmps69
  go_wp2
  go_ret
  exact ⟨rfl, B2 _ _⟩

set_option maxHeartbeats 400000 in
theorem eqSpotResult_yes (c L R : Int) (w : World) :
    Calls Try.prog 39 #[.agg #[.int .i64 c, .int .i64 L, .int .i64 R], .agg #[.int .i64 c, .int .i64 L, .int .i64 R]] w fun e w' => e = .returned (.bool true) ∧ Below w.heap.size w w' := by
  have B2 : ∀ o1 o2, Below w.heap.size w ((w.alloc o1).alloc o2) := fun o1 o2 => ((Below.refl _ _).alloc (Nat.le_refl _) o1).alloc (by simp) o2
  go_enter Try.func39, Try.ntmps39
  go_wp2_with fail
  refine (eqSpot_yes L R _).mono ?_
  rintro e w1 ⟨rfl, hb⟩
  go_wp2
  go_ret
  exact ⟨rfl, (B2 _ _).trans (hb.mono (by simp; omega))⟩

set_option maxHeartbeats 400000 in
theorem eqIntRes_yes (c v : Int) (w : World) :
    Calls Try.prog 26 #[.agg #[.int .i64 c, .int .i64 v], .agg #[.int .i64 c, .int .i64 v]] w fun e w' => e = .returned (.bool true) ∧ Below w.heap.size w w' := by
  go_enter Try.func26, Try.ntmps26
  go_wp2
  go_ret
  exact ⟨rfl, ((Below.refl _ _).alloc (Nat.le_refl _) _).alloc (by simp) _⟩

theorem take_set_part {α : Type} (XS : List α) (k n j : Nat) (y : α) (hj : j < n) : ((XS.set (k + j) y).drop k).take n = ((XS.drop k).take n).set j y := by
  rw [List.drop_set, if_neg (by omega), List.take_set, show k + j - k = j by omega]

set_option maxHeartbeats 1600000 in
theorem markCellS_o (v : Value) (n lo hi : Nat) (cs : List C3) (x0 : Int) (w : World) (hown : RowO cellE 3 38 w lo hi v n cs) (h1 : n ≤ 107374182) (h2 : 0 ≤ x0) (h3 : x0 ≤ 1073741824) :
    Calls Try.prog 64 #[v, .int .i64 x0] w fun e w' => e = .returned (.int .i64 (x0 + 3 * n)) ∧ RowO cellE 3 38 w' lo hi v n (mkC x0 n) ∧ Chg lo hi w w' := by
  have hlen := hown.len
  by_cases hn0 : n = 0
  · subst hn0
    obtain ⟨av, cv, rfl⟩ := hown.shape
    have hx : cs = [] := List.eq_nil_of_length_eq_zero hlen
    subst hx
    go_enter Try.func64, Try.ntmps64
    go_wp2
    refine wp_loop_rounds 1 ?_
    rw [rounds_succ]
    go_wp2
    go_ret
    exact ⟨by simp, by simpa [mkC] using hown, Chg.refl _ _ _⟩
  · obtain ⟨V, N, k0, XS, hR, hkn, hcs, av, cap, rfl, hg0⟩ := hown
    obtain ⟨g, CAP, rfl, rfl⟩ := hg0 (by omega)
    have hgr : lo ≤ g ∧ g < hi := ⟨(hR.1.lt g rfl).1, hR.2 g rfl⟩
    have hHR : Hid _ := hR
    have hcsH : Hid _ := hcs
    clear hR hcs hg0
    go_enter Try.func64, Try.ntmps64
    go_wp2
    go_loopw [1, 5] (fun x i wr => ∃ (k : Nat) (YS : List C3), k ≤ n ∧ i = .int .i64 k ∧ x = .int .i64 (x0 + 3 * k) ∧ RowS cellE 3 38 wr lo hi (.slice (some ⟨g, 0, none⟩) N CAP) N YS ∧ Hid ((YS.drop k0).take n = mkC x0 k ++ cs.drop k) ∧ Chg lo hi w wr) (fun _ i _ => n - (intOf i).toNat)
    case atStart => exact ⟨0, XS, Nat.zero_le _, rfl, by go_num, hHR.out, by show _ = _; rw [← hcsH.out]; simp [mkC], Chg.refl _ _ _⟩
    case round =>
      obtain ⟨k, YS, hk, rfl, rfl, ho, HY, hg⟩ := hrel
      have hYl := ho.len
      by_cases hlt : k < n
      · have hk' : k0 + k < YS.length := by omega
        have hold : YS[k0 + k]? = some YS[k0 + k] := List.getElem?_eq_getElem hk'
        generalize YS[k0 + k] = c at hold
        have d0 := OwnR.cell (f := 0) cellE_len ho.1 hold rfl
        have d1 := OwnR.cell (f := 1) cellE_len ho.1 hold rfl
        have d2 := OwnR.cell (f := 2) cellE_len ho.1 hold rfl
        have f0 := ho.1.frozen (k0 * 3 + k * 3)
        have f1 := ho.1.frozen (k0 * 3 + k * 3 + 1)
        have f2 := ho.1.frozen (k0 * 3 + k * 3 + 2)
        have e1 : (k0 + k) * 3 = k0 * 3 + k * 3 := Nat.add_mul _ _ _
        rw [Nat.add_zero] at d0
        have hst := store3 ho.1 hold (x0 + 3 * (k : Int)) (x0 + 3 * (k : Int) + 1) (x0 + 3 * (k : Int) + 1 + 1)
        rw [e1] at d0 d1 d2 hst
        have hnew : ((YS.set (k0 + k) (x0 + 3 * (k : Int), x0 + 3 * (k : Int) + 1, x0 + 3 * (k : Int) + 1 + 1)).drop k0).take n = mkC x0 (k + 1) ++ cs.drop (k + 1) := by
          rw [take_set_part _ _ _ _ _ hlt, HY.out, markC_set cs x0 n k hlen hlt c]
        have HS : Hid _ := hst
        have HN : Hid _ := hnew
        clear hst ho hold e1 hnew HY
        have hlt' : (k : Int) < (n : Int) := by omega
        go_wp2
        go_roundw
        case rel => exact ⟨k + 1, _, by omega, by go_num, by go_num, ⟨HS.out.1, fun j hj => by simp [Value.ownBlock] at hj; omega⟩, HN, hg.trans (Chg.of_grown HS.out.2 (fun j hj => by simp at hj; omega))⟩
        case measure => simp [intOf]; omega
      · go_wp2
        go_ret
        obtain rfl : k = n := by omega
        refine ⟨rfl, ⟨_, N, k0, YS, ho, hkn, ?_, _, _, rfl, fun _ => ⟨g, CAP, rfl, rfl⟩⟩, hg⟩
        rw [HY.out, List.drop_of_length_le (by omega), List.append_nil]

set_option maxHeartbeats 400000 in
theorem markCellsResult_o (c x0 : Int) (v : Value) (n lo hi : Nat) (cs : List C3) (w : World) (ho : RowO cellE 3 38 w lo hi v n cs) (hhi : hi ≤ w.heap.size) (h1 : n ≤ 107374182) (h2 : 0 ≤ x0) (h3 : x0 ≤ 1073741824) :
    Calls Try.prog 31 #[.agg #[.int .i64 c, v], .int .i64 x0] w fun e w' => e = .returned (.int .i64 (x0 + 3 * n)) ∧ RowO cellE 3 38 w' lo hi v n (mkC x0 n) ∧ Chg lo hi w w' := by
  obtain ⟨a, cap, hv⟩ := ho.shape
  subst hv
  go_enter Try.func31, Try.ntmps31
  go_wp2_with fail
  refine (markCellS_o _ n lo hi cs x0 _ (ho.below ((Below.refl _ _).alloc (Nat.le_refl _) _)) h1 h2 h3).mono ?_
  rintro e w1 ⟨rfl, ho1, hg⟩
  go_wp2
  go_ret
  exact ⟨rfl, ho1, (Chg.of_below ((Below.refl _ _).alloc (Nat.le_refl _) _)).trans hg⟩
end Go.Proofs.Ythkgplpdoaebiaa
