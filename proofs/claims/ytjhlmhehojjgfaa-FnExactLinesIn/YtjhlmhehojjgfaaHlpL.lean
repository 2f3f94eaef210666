/-
  Contracts of the exact laws' helpers over slices of lines.
-/
import Derived.Test.YtjhlmhehojjgfaaLinesM
import Derived.Test.YtjhlmhehojjgfaaHlp1
import Derived.Test.YtjhlmhehojjgfaaHlpF
import Derived.Test.YtjhlmhehojjgfaaChg
import Derived.Deep.RegionWith
namespace Go.Proofs.Ytjhlmhehojjgfaa
open Go.RowKit
set_option linter.unusedVariables false

/-- The two cells of an element. -/
theorem two {w : World} {b off : Nat} {c : L2} (h : ∀ f v, (lineE c)[f]? = some v → w.cell? ⟨b, off + f, none⟩ = some v) :
    w.cell? ⟨b, off, none⟩ = some (.int .i64 c.1) ∧ w.cell? ⟨b, off + 1, none⟩ = some (.int .i64 c.2) :=
  ⟨h 0 _ rfl, h 1 _ rfl⟩

theorem eqLine_yes (x y : Int) (w : World) :
    Calls Try.prog 74 #[.agg #[.int .i64 x, .int .i64 y], .agg #[.int .i64 x, .int .i64 y]] w fun e w' => e = .returned (.bool true) ∧ Below w.heap.size w w' := by
  go_enter Try.func74, Try.ntmps74
  go_wp2
  go_ret
  exact ⟨rfl, ((Below.refl _ _).alloc (Nat.le_refl _) _).alloc (by simp) _⟩

/-- A whole line is stored. -/
theorem store2 {e : TypeId} {w : World} {base g n cap j : Nat} {xs : List L2} {c : L2} (h : OwnR lineE 2 e w base (.slice (some ⟨g, 0, none⟩) n cap) n xs) (hx : xs[j]? = some c) (x y : Int) :
    OwnR lineE 2 e ((w.setCell ⟨g, j * 2, none⟩ (.int .i64 x)).setCell ⟨g, j * 2 + 1, none⟩ (.int .i64 y)) base (.slice (some ⟨g, 0, none⟩) n cap) n (xs.set j (x, y)) ∧
    w.grownBy ((w.setCell ⟨g, j * 2, none⟩ (.int .i64 x)).setCell ⟨g, j * 2 + 1, none⟩ (.int .i64 y)) (some g) := by
  have hj : j < xs.length := (List.getElem?_eq_some_iff.1 hx).1
  have s0 := OwnR.store (f := 0) (u := .int .i64 x) (y := (x, c.2)) lineE_len h hx (by omega) rfl
  have x1 : (xs.set j (x, c.2))[j]? = some (x, c.2) := by simp [hj]
  have s1 := OwnR.store (f := 1) (u := .int .i64 y) (y := (x, y)) lineE_len s0.1 x1 (by omega) rfl
  rw [List.set_set] at s1
  exact ⟨s1.1, grownBy_trans s0.2 s1.2⟩

set_option maxHeartbeats 800000 in
theorem eqLineS_yes (a b : Option Addr) (n ca cb : Nat) (cs : List L2) (w : World) (ha : RdR lineE 2 w a n cs) (hb : RdR lineE 2 w b n cs) (h1 : n ≤ 1073741824) :
    Calls Try.prog 65 #[.slice a n ca, .slice b n cb] w fun e w' => e = .returned (.bool true) ∧ Below w.heap.size w w' := by
  go_enter Try.func65, Try.ntmps65
  go_wp2
  go_loopw [5] (fun i wr => ∃ k : Nat, k ≤ n ∧ i = .int .i64 k ∧ Below w.heap.size w wr) (fun i _ => n - (intOf i).toNat)
  case atStart => exact ⟨0, Nat.zero_le _, rfl, Below.refl _ _⟩
  case round =>
    obtain ⟨k, hk, rfl, hbw⟩ := hrel
    by_cases hlt : k < n
    · obtain ⟨b1, o1, c, rfl, hx, hc1⟩ := (ha.below hbw).at hlt
      obtain ⟨b2, o2, c', rfl, hx', hc2⟩ := (hb.below hbw).at hlt
      obtain rfl : c = c' := by rw [hx] at hx'; simpa using hx'
      obtain ⟨c0, c1⟩ := two hc1
      obtain ⟨e0, e1⟩ := two hc2
      clear hx hx' hc1 hc2
      obtain ⟨x, y⟩ := c
      simp only at c0 c1 e0 e1
      have hlt' : (k : Int) < (n : Int) := by omega
      go_wp2
      go_region_with (go_at_call 74; refine (eqLine_yes x y _).mono ?_; rintro e w2 ⟨rfl, hb2⟩)
      all_goals
        go_wp2
        go_roundw
        case rel => exact ⟨k + 1, by omega, by go_num, hbw.drew.trans (hb2.mono hbw.size)⟩
        case measure => simp [intOf]; omega
    · go_wp2
      go_ret
      exact ⟨rfl, hbw⟩

theorem markL_set (cs : List L2) (x0 : Int) (n k : Nat) (h : cs.length = n) (hk : k < n) (c : L2) :
    ((mkL x0 k ++ cs.drop k).set k (x0 + 2 * (k : Int), x0 + 2 * (k : Int) + 1)) = mkL x0 (k + 1) ++ cs.drop (k + 1) := by
  rw [List.drop_eq_getElem_cons (show k < cs.length by omega), set_mid _ _ (mkL_len _ _), mkL_succ]

set_option maxHeartbeats 800000 in
theorem markLineS_own (v : Value) (n base : Nat) (cs : List L2) (x0 : Int) (w : World) (hown : OwnR lineE 2 49 w base v n cs) (h1 : n ≤ 107374182) (h2 : 0 ≤ x0) (h3 : x0 ≤ 1073741824) :
    Calls Try.prog 66 #[v, .int .i64 x0] w fun e w' => e = .returned (.int .i64 (x0 + 2 * n)) ∧ OwnR lineE 2 49 w' base v n (mkL x0 n) ∧ w.grownBy w' v.ownBlock := by
  have hlen := hown.1
  rcases hown.2.2 with ⟨rfl, rfl⟩ | ⟨g, cap, cur, rfl, _⟩
  · go_enter Try.func66, Try.ntmps66
    go_wp2
    refine wp_loop_rounds 1 ?_
    rw [rounds_succ]
    go_wp2
    go_ret
    have hx : cs = [] := List.eq_nil_of_length_eq_zero hlen
    subst hx
    exact ⟨by simp, by simpa [mkL] using hown, World.grownBy.refl _ _⟩
  · go_enter Try.func66, Try.ntmps66
    go_wp2
    go_loopw [1, 5] (fun x i wr => ∃ k : Nat, k ≤ n ∧ i = .int .i64 k ∧ x = .int .i64 (x0 + 2 * k) ∧ OwnR lineE 2 49 wr base (.slice (some ⟨g, 0, none⟩) n cap) n (mkL x0 k ++ cs.drop k) ∧ w.grownBy wr (some g)) (fun _ i _ => n - (intOf i).toNat)
    case atStart => exact ⟨0, Nat.zero_le _, rfl, by go_num, by simpa [mkL] using hown, World.grownBy.refl _ _⟩
    case round =>
      obtain ⟨k, hk, rfl, rfl, ho, hg⟩ := hrel
      by_cases hlt : k < n
      · have hk' : k < cs.length := by omega
        have hold : (mkL x0 k ++ cs.drop k)[k]? = some cs[k] := by
          rw [List.getElem?_append_right (by rw [mkL_len]; omega), mkL_len, Nat.sub_self, List.drop_eq_getElem_cons hk']
          rfl
        generalize cs[k] = c at hold
        have d0 := OwnR.cell (f := 0) lineE_len ho hold rfl
        have d1 := OwnR.cell (f := 1) lineE_len ho hold rfl
        have f0 := ho.frozen (k * 2)
        have f1 := ho.frozen (k * 2 + 1)
        rw [Nat.add_zero] at d0
        have hst := store2 ho hold (x0 + 2 * (k : Int)) (x0 + 2 * (k : Int) + 1)
        rw [markL_set cs x0 n k hlen hlt c] at hst
        have HS : Hid _ := hst
        clear hst ho hold
        have hlt' : (k : Int) < (n : Int) := by omega
        go_wp2
        go_roundw
        case rel => exact ⟨k + 1, by omega, by go_num, by go_num, HS.out.1, grownBy_trans hg HS.out.2⟩
        case measure => simp [intOf]; omega
      · go_wp2
        go_ret
        obtain rfl : k = n := by omega
        refine ⟨rfl, ?_, hg⟩
        rw [List.drop_of_length_le (by omega), List.append_nil] at ho
        exact ho

set_option maxHeartbeats 800000 in
theorem heldLineS_yes (a : Option Addr) (n ca : Nat) (x0 : Int) (w : World) (ha : RdR lineE 2 w a n (mkL x0 n)) (h1 : n ≤ 107374182) (h2 : 0 ≤ x0) (h3 : x0 ≤ 1073741824) :
    Calls Try.prog 67 #[.slice a n ca, .int .i64 x0] w fun e w' => e = .returned (.int .i64 (x0 + 2 * n)) ∧ w' = w := by
  go_enter Try.func67, Try.ntmps67
  go_wp2
  go_loop [1, 5] (fun x i => ∃ k : Nat, k ≤ n ∧ i = .int .i64 k ∧ x = .int .i64 (x0 + 2 * k)) (fun _ i => n - (intOf i).toNat)
  case atStart => exact ⟨0, Nat.zero_le _, rfl, by go_num⟩
  case round =>
    obtain ⟨k, hk, rfl, rfl⟩ := hrel
    by_cases hlt : k < n
    · obtain ⟨b1, o1, c, rfl, hx, hc1⟩ := ha.at hlt
      rw [mkL_at x0 n k hlt] at hx
      obtain rfl := (Option.some.inj hx).symm
      obtain ⟨c0, c1⟩ := two hc1
      simp only at c0 c1
      clear hx hc1
      have hlt' : (k : Int) < (n : Int) := by omega
      go_wp2
      go_round
      case rel => exact ⟨k + 1, by omega, by go_num, by go_num⟩
      case measure => simp [intOf]; omega
    · go_wp2
      go_ret
      obtain rfl : k = n := by omega
      exact ⟨rfl, rfl⟩

set_option maxHeartbeats 400000 in
theorem eqLinesResult_yes (c : Int) (a b : Option Addr) (n ca cb : Nat) (cs : List L2) (w : World) (ha : RdR lineE 2 w a n cs) (hb : RdR lineE 2 w b n cs) (h1 : n ≤ 1073741824) :
    Calls Try.prog 44 #[.agg #[.int .i64 c, .slice a n ca], .agg #[.int .i64 c, .slice b n cb]] w fun e w' => e = .returned (.bool true) ∧ Below w.heap.size w w' := by
  have B2 : ∀ o1 o2, Below w.heap.size w ((w.alloc o1).alloc o2) := fun o1 o2 => ((Below.refl _ _).alloc (Nat.le_refl _) o1).alloc (by simp) o2
  go_enter Try.func44, Try.ntmps44
  go_wp2_with fail
  refine (eqLineS_yes a b n ca cb cs _ (ha.below (B2 _ _)) (hb.below (B2 _ _)) h1).mono ?_
  rintro e w1 ⟨rfl, hb1⟩
  go_wp2
  go_ret
  exact ⟨rfl, (B2 _ _).trans (hb1.mono (by simp; omega))⟩

set_option maxHeartbeats 400000 in
theorem markLinesResult_row (c x0 : Int) (v : Value) (n lo hi : Nat) (cs : List L2) (w : World) (ho : RowS lineE 2 49 w lo hi v n cs) (h1 : n ≤ 107374182) (h2 : 0 ≤ x0) (h3 : x0 ≤ 1073741824) :
    Calls Try.prog 45 #[.agg #[.int .i64 c, v], .int .i64 x0] w fun e w' => e = .returned (.int .i64 (x0 + 2 * n)) ∧ RowS lineE 2 49 w' lo hi v n (mkL x0 n) ∧ Chg lo hi w w' := by
  obtain ⟨a, cap, rfl, _⟩ := ho.shape lineE_len
  go_enter Try.func45, Try.ntmps45
  go_wp2_with fail
  refine (markLineS_own _ n lo cs x0 _ (ho.1.alloc _) h1 h2 h3).mono ?_
  rintro e w1 ⟨rfl, ho1, hg⟩
  go_wp2
  go_ret
  exact ⟨rfl, ⟨ho1, ho.2⟩, chg_alloc (Chg.of_grown hg (fun j hj => ⟨(ho.1.lt j hj).1, ho.2 j hj⟩))⟩

set_option maxHeartbeats 400000 in
theorem heldLinesResult_yes (c x0 : Int) (a : Option Addr) (n ca : Nat) (w : World) (ha : RdR lineE 2 w a n (mkL x0 n)) (h1 : n ≤ 107374182) (h2 : 0 ≤ x0) (h3 : x0 ≤ 1073741824) :
    Calls Try.prog 46 #[.agg #[.int .i64 c, .slice a n ca], .int .i64 x0] w fun e w' => e = .returned (.int .i64 (x0 + 2 * n)) ∧ Below w.heap.size w w' := by
  go_enter Try.func46, Try.ntmps46
  go_wp2_with fail
  refine (heldLineS_yes a n ca x0 _ (ha.below ((Below.refl _ _).alloc (Nat.le_refl _) _)) h1 h2 h3).mono ?_
  rintro e w1 ⟨rfl, rfl⟩
  go_wp2
  go_ret
  exact ⟨rfl, (Below.refl _ _).alloc (Nat.le_refl _) _⟩
end Go.Proofs.Ytjhlmhehojjgfaa
