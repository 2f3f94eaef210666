/-
  Chapter 5: SameNodes, both sides.
-/
import Derived.Test.YtjjapnggdfiinaaNodeM
import Derived.Test.YtjjapnggdfiinaaRows
import Derived.Laws.StructEq
namespace Go.Proofs.Ytjjapnggdfiinaa
open Go.RowKit
set_option linter.unusedVariables false

theorem baList (a b : ByteArray) : a.toList = b.toList ↔ a = b := by
  rw [ByteArray.toList_eq, ByteArray.toList_eq]
  obtain ⟨⟨x⟩⟩ := a
  obtain ⟨⟨y⟩⟩ := b
  simp

instance : DecidableEq Nd := fun a b => if h : a.k = b.k ∧ a.c = b.c ∧ a.s = b.s ∧ a.l = b.l ∧ a.r = b.r then .isTrue (by cases a; cases b; simp_all) else .isFalse (by intro e; subst e; simp at h)

theorem ndEq_iff (a b : Nd) : a = b ↔ a.k = b.k ∧ a.c = b.c ∧ a.s = b.s ∧ a.l = b.l ∧ a.r = b.r := by cases a; cases b; simp

/-- Go's '!=' at nodes. -/
theorem neqNode (x y : Nd) (w : World) :
    (binOp .neq 48 (.agg #[.int .i64 x.k, .int .i64 x.c, .string x.s, .int .i64 x.l, .int .i64 x.r]) (.agg #[.int .i64 y.k, .int .i64 y.c, .string y.s, .int .i64 y.l, .int .i64 y.r])).run Try.prog w = .ok (.bool (!decide (x = y))) w := by
  have u3 := Try.underlying2
  have a3 := Try.isAgg2
  have z3 := Try.sizeOf2
  have u9 := Try.underlying9
  have a9 := Try.isAgg9
  have z9 := Try.sizeOf9
  have hS : Try.prog.underlying 48 = some (.struct (Try.prog.fieldsOf 48)) := by kernel_rfl
  have hp : Try.prog.stoodInHeld 48 = false := by kernel_rfl
  rw [run_neq_struct, show (10000 : Nat) = 9999 + 1 from rfl, run_equalIn_agg w 9999 48 _ _ hS hp]
  simp only [Program.fieldsOf, Try.underlying48]
  go_simp
  by_cases h1 : x.k = y.k <;> by_cases h2 : x.c = y.c <;> by_cases h3 : x.s = y.s <;> by_cases h4 : x.l = y.l <;> by_cases h5 : x.r = y.r <;> simp [h1, h2, h3, h4, h5, ndEq_iff, baList]

theorem guardNode (op : BinOp) (a b : Operand) (x y : Array Value) (w : World) : (eqGuard op 48 a b (.agg x) (.agg y)).run Try.prog w = .ok () w := run_eqGuard_agg w op 48 a b x y (by kernel_rfl)

theorem same_end {xs ys : List Nd} {n : Nat} (h1 : xs.length = n) (h2 : ys.length = n) (h : xs.take n = ys.take n) : xs = ys := by
  rwa [List.take_of_length_le (by omega), List.take_of_length_le (by omega)] at h
theorem same_succ {xs ys : List Nd} {k : Nat} {x : Nd} (h1 : xs[k]? = some x) (h2 : ys[k]? = some x) (h : xs.take k = ys.take k) : xs.take (k + 1) = ys.take (k + 1) := by
  rw [List.take_add_one, List.take_add_one, h1, h2, h]
theorem same_no {xs ys : List Nd} {k : Nat} {x y : Nd} (h1 : xs[k]? = some x) (h2 : ys[k]? = some y) (h : x ≠ y) : xs ≠ ys := by
  rintro rfl
  rw [h1] at h2
  exact h (by simpa using h2)

/-- The first k are alike. -/
def Alike (xs ys : List Nd) (k : Nat) : Prop := xs.take k = ys.take k

set_option maxHeartbeats 800000 in
theorem specSameNodes_any (a b : Option Addr) (n m ca cb : Nat) (xs ys : List Nd) (w : World) (ha : RdR ndE 5 w a n xs) (hb : RdR ndE 5 w b m ys) (h1 : n ≤ 1073741824) (h2 : m ≤ 1073741824) :
    Calls Try.prog 27 #[.slice a n ca, .slice b m cb] w fun e w' => e = .returned (.bool (decide (xs = ys))) ∧ Below w.heap.size w w' := by
  obtain ⟨R, hR⟩ : ∃ R, R = decide (xs = ys) := ⟨_, rfl⟩
  rw [← hR]
  have HR : Hid _ := hR
  have HLA : Hid _ := ha.1
  have HLB : Hid _ := hb.1
  clear hR
  by_cases hnm : n = m
  · subst hnm
    go_enter Try.func27, Try.ntmps27
    go_wp2
    go_loopw [5] (fun i wr => ∃ k : Nat, k ≤ n ∧ i = .int .i64 k ∧ Alike xs ys k ∧ Below w.heap.size w wr) (fun i _ => n - (intOf i).toNat)
    case atStart => exact ⟨0, Nat.zero_le _, rfl, rfl, Below.refl _ _⟩
    case round =>
      obtain ⟨k, hk, rfl, hal, hbw⟩ := hrel
      by_cases hlt : k < n
      · obtain ⟨b1, o1, x, rfl, hx, hc1⟩ := (ha.below hbw).at hlt
        obtain ⟨b2, o2, y, rfl, hy, hc2⟩ := (hb.below hbw).at hlt
        obtain ⟨c0, c1, c2, c3, c4⟩ := five hc1
        obtain ⟨e0, e1, e2, e3, e4⟩ := five hc2
        have HX : Hid _ := hx
        have HY : Hid _ := hy
        clear hx hy hc1 hc2
        have hne := fun w' => neqNode x y w'
        have hg := guardNode
        have hlt' : (k : Int) < (n : Int) := by omega
        by_cases hxy : x = y
        · have hd : decide (x = y) = true := by simp [hxy]
          rw [hd] at hne
          have HE : Hid _ := hxy
          clear hxy hd
          obtain ⟨x0, x1, x2, x3, x4⟩ := x
          obtain ⟨y0, y1, y2, y3, y4⟩ := y
          simp only at c0 c1 c2 c3 c4 e0 e1 e2 e3 e4 hne
          go_wp2
          go_region
          all_goals
            go_wp2
            go_roundw
            case rel => exact ⟨k + 1, by omega, by go_num, same_succ HX.out (by rw [HY.out, HE.out]) hal, hbw.drew⟩
            case measure => simp [intOf]; omega
        · have hd : decide (x = y) = false := by simp [hxy]
          rw [hd] at hne
          have HE : Hid _ := hxy
          clear hxy hd
          obtain ⟨x0, x1, x2, x3, x4⟩ := x
          obtain ⟨y0, y1, y2, y3, y4⟩ := y
          simp only at c0 c1 c2 c3 c4 e0 e1 e2 e3 e4 hne
          go_wp2
          go_region
          all_goals
            go_wp2
            go_ret
            exact ⟨ret_bool (by rw [HR.out, decide_eq_false (same_no HX.out HY.out HE.out)]), hbw.drew⟩
      · go_wp2
        go_ret
        obtain rfl : k = n := by omega
        exact ⟨ret_bool (by rw [HR.out, decide_eq_true (same_end HLA.out HLB.out hal)]), hbw⟩
  · have hnm' : ((n : Int) == (m : Int)) = false := by simp; omega
    have hnm2 : ¬ (n : Int) = (m : Int) := by omega
    go_enter Try.func27, Try.ntmps27
    go_wp2
    go_ret
    exact ⟨ret_bool (by rw [HR.out, decide_eq_false (by intro e; have h3 := HLA.out; have h4 := HLB.out; rw [e] at h3; omega)]), Below.refl _ _⟩

set_option maxHeartbeats 800000 in
theorem slicesEqual_any (a b : Option Addr) (n m ca cb : Nat) (xs ys : List Nd) (w : World) (ha : RdR ndE 5 w a n xs) (hb : RdR ndE 5 w b m ys) (h1 : n ≤ 1073741824) (h2 : m ≤ 1073741824) :
    Calls Try.prog 46 #[.slice a n ca, .slice b m cb] w fun e w' => e = .returned (.bool (decide (xs = ys))) ∧ Below w.heap.size w w' := by
  obtain ⟨R, hR⟩ : ∃ R, R = decide (xs = ys) := ⟨_, rfl⟩
  rw [← hR]
  have HR : Hid _ := hR
  have HLA : Hid _ := ha.1
  have HLB : Hid _ := hb.1
  clear hR
  by_cases hnm : n = m
  · subst hnm
    go_enter Try.func46, Try.ntmps46
    go_wp2
    go_loopw [13] (fun i wr => ∃ k : Nat, k ≤ n ∧ i = .int .i64 k ∧ Alike xs ys k ∧ Below w.heap.size w wr) (fun i _ => n - (intOf i).toNat)
    case atStart => exact ⟨0, Nat.zero_le _, rfl, rfl, Below.refl _ _⟩
    case round =>
      obtain ⟨k, hk, rfl, hal, hbw⟩ := hrel
      by_cases hlt : k < n
      · obtain ⟨b1, o1, x, rfl, hx, hc1⟩ := (ha.below hbw).at hlt
        obtain ⟨b2, o2, y, rfl, hy, hc2⟩ := (hb.below hbw).at hlt
        obtain ⟨c0, c1, c2, c3, c4⟩ := five hc1
        obtain ⟨e0, e1, e2, e3, e4⟩ := five hc2
        have HX : Hid _ := hx
        have HY : Hid _ := hy
        clear hx hy hc1 hc2
        have hne := fun w' => neqNode x y w'
        have hg := guardNode
        have hlt' : (k : Int) < (n : Int) := by omega
        by_cases hxy : x = y
        · have hd : decide (x = y) = true := by simp [hxy]
          rw [hd] at hne
          have HE : Hid _ := hxy
          clear hxy hd
          obtain ⟨x0, x1, x2, x3, x4⟩ := x
          obtain ⟨y0, y1, y2, y3, y4⟩ := y
          simp only at c0 c1 c2 c3 c4 e0 e1 e2 e3 e4 hne
          go_wp2
          go_region
          all_goals
            go_wp2
            go_roundw
            case rel => exact ⟨k + 1, by omega, by go_num, same_succ HX.out (by rw [HY.out, HE.out]) hal, hbw.drew⟩
            case measure => simp [intOf]; omega
        · have hd : decide (x = y) = false := by simp [hxy]
          rw [hd] at hne
          have HE : Hid _ := hxy
          clear hxy hd
          obtain ⟨x0, x1, x2, x3, x4⟩ := x
          obtain ⟨y0, y1, y2, y3, y4⟩ := y
          simp only at c0 c1 c2 c3 c4 e0 e1 e2 e3 e4 hne
          go_wp2
          go_region
          all_goals
            go_wp2
            go_ret
            exact ⟨ret_bool (by rw [HR.out, decide_eq_false (same_no HX.out HY.out HE.out)]), hbw.drew⟩
      · go_wp2
        go_ret
        obtain rfl : k = n := by omega
        exact ⟨ret_bool (by rw [HR.out, decide_eq_true (same_end HLA.out HLB.out hal)]), hbw⟩
  · have hnm' : ((n : Int) == (m : Int)) = false := by simp; omega
    have hnm2 : ¬ (n : Int) = (m : Int) := by omega
    go_enter Try.func46, Try.ntmps46
    go_wp2
    go_ret
    exact ⟨ret_bool (by rw [HR.out, decide_eq_false (by intro e; have h3 := HLA.out; have h4 := HLB.out; rw [e] at h3; omega)]), Below.refl _ _⟩

theorem implSameNodes_any (a b : Option Addr) (n m ca cb : Nat) (xs ys : List Nd) (w : World) (ha : RdR ndE 5 w a n xs) (hb : RdR ndE 5 w b m ys) (h1 : n ≤ 1073741824) (h2 : m ≤ 1073741824) :
    Calls Try.prog 16 #[.slice a n ca, .slice b m cb] w fun e w' => e = .returned (.bool (decide (xs = ys))) ∧ Below w.heap.size w w' := by
  have h := fun w' ha' hb' => slicesEqual_any a b n m ca cb xs ys w' ha' hb' h1 h2
  generalize decide (xs = ys) = R at h ⊢
  have HH : Hid _ := h
  clear h
  go_enter Try.func16, Try.ntmps16
  go_wp2_with fail
  refine (HH.out _ ha hb).mono ?_
  rintro e w1 ⟨rfl, hb1⟩
  go_wp2
  go_ret
  exact ⟨rfl, hb1⟩
end Go.Proofs.Ytjjapnggdfiinaa
