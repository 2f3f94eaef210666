/-
  Contracts of the exact laws' helpers over files: copies, sizes, comparisons, marks.
-/
import Derived.Test.YtjgmkcmlkffjlaaHlp1
import Derived.Test.YtjgmkcmlkffjlaaHlp2
import Derived.Test.YtjgmkcmlkffjlaaChg
namespace Go.Proofs.Ytjgmkcmlkffjlaa
open Go.RowKit
set_option linter.unusedVariables false

theorem szByteS_yes (a : Option Addr) (n ca : Nat) (L : Int) (w : World) (h : (n : Int) ≤ L) (hL : L ≤ 1048576) :
    Calls Try.prog 51 #[.slice a n ca, .int .i64 L] w fun e w' => e = .returned (.int .i64 (L - n)) ∧ w' = w := by
  go_enter Try.func51, Try.ntmps51
  go_wp2
  go_ret
  exact ⟨rfl, rfl⟩

theorem szByteS_no (a : Option Addr) (n ca : Nat) (L : Int) (w : World) (h : ¬ (n : Int) ≤ L) (hn : n ≤ maxLen) (h0 : 0 ≤ L) (hL : L ≤ 1048576) :
    Calls Try.prog 51 #[.slice a n ca, .int .i64 L] w fun e w' => e = .returned (.int .i64 (-1)) ∧ w' = w := by
  unfold maxLen at hn
  have h' : L - (n : Int) < 0 := by omega
  go_enter Try.func51, Try.ntmps51
  go_wp2
  go_ret
  exact ⟨rfl, rfl⟩

theorem szFile_yes (a : Option Addr) (n ca : Nat) (L : Int) (w : World) (h : (n : Int) ≤ L) (hL : L ≤ 1048576) :
    Calls Try.prog 16 #[.agg #[.slice a n ca], .int .i64 L] w fun e w' => e = .returned (.int .i64 (L - n)) ∧ Below w.heap.size w w' := by
  go_enter Try.func16, Try.ntmps16
  go_wp2_with fail
  refine (szByteS_yes a n ca L _ h hL).mono ?_
  rintro e w1 ⟨rfl, rfl⟩
  have h' : ¬ L - (n : Int) < 0 := by omega
  go_wp2
  go_ret
  exact ⟨rfl, (Below.refl _ _).alloc (Nat.le_refl _) _⟩

theorem szFile_no (a : Option Addr) (n ca : Nat) (L : Int) (w : World) (h : ¬ (n : Int) ≤ L) (hn : n ≤ maxLen) (h0 : 0 ≤ L) (hL : L ≤ 1048576) :
    Calls Try.prog 16 #[.agg #[.slice a n ca], .int .i64 L] w fun e w' => e = .returned (.int .i64 (-1)) ∧ Below w.heap.size w w' := by
  go_enter Try.func16, Try.ntmps16
  go_wp2_with fail
  refine (szByteS_no a n ca L _ (by omega) hn h0 hL).mono ?_
  rintro e w1 ⟨rfl, rfl⟩
  go_wp2
  go_ret
  exact ⟨rfl, (Below.refl _ _).alloc (Nat.le_refl _) _⟩

set_option maxHeartbeats 400000 in
theorem toFile_any (a : Option Addr) (n ca : Nat) (xs : List Int) (w : World) (ha : Rd .u8 w a n xs) (h1 : n ≤ 1073741824) :
    Calls Try.prog 18 #[.agg #[.slice a n ca]] w fun e w' => ∃ v, e = .returned (.agg #[v]) ∧ RowI .u8 5 w' w.heap.size w'.heap.size v n xs ∧ Below w.heap.size w w' := by
  have B3 : ∀ o1 o2 o3, Below w.heap.size w (((w.alloc o1).alloc o2).alloc o3) := fun o1 o2 o3 => (((Below.refl _ _).alloc (Nat.le_refl _) o1).alloc (by simp) o2).alloc (by simp; omega) o3
  go_enter Try.func18, Try.ntmps18
  go_wp2_with fail
  refine (toByteS_any a n ca xs _ (ha.below (B3 _ _ _)) h1).mono ?_
  rintro e w1 ⟨v1, rfl, ho1, hb1⟩
  obtain ⟨a1, c1, hv1, _⟩ := ho1.rdc
  subst hv1
  have hb01 := (B3 _ _ _).trans (hb1.mono (by simp; omega))
  have d0 : w1.cell? ⟨w.heap.size + 1 + 1, 0, none⟩ = some (.slice none 0 0) := cell_later hb1 (by simp [go_sem])
  have d1 : w1.cell? ⟨w.heap.size + 1, 0, none⟩ = some (.slice none 0 0) := cell_later hb1 (by simp [go_sem])
  have z1 : w.heap.size + 1 + 1 < w1.heap.size := by have := hb1.size; simp at this; omega
  have f0 : w1.frozen? ⟨w.heap.size + 1 + 1, 0, none⟩ = false := (hb1.frozen (p := ⟨w.heap.size + 1 + 1, 0, none⟩) (by simp)).trans (by simp [go_sem])
  have f1 : w1.frozen? ⟨w.heap.size + 1, 0, none⟩ = false := (hb1.frozen (p := ⟨w.heap.size + 1, 0, none⟩) (by simp)).trans (by simp [go_sem])
  go_wp2
  refine bodyPost_ret (v := .agg #[.slice a1 n c1]) (by simp [results, Try.results18, go_sem, d1]) rfl ⟨_, rfl, ?_, ?_⟩
  · exact RowI.mono (RowI.of ((ho1.setBelow (by simp) _).setBelow (by simp) _)) (by simp; omega) (Nat.le_refl _)
  · exact (hb01.setCell (by simp; omega) _).setCell (by simp) _

set_option maxHeartbeats 400000 in
theorem eqFile_yes (a b : Option Addr) (n ca cb : Nat) (xs : List Int) (w : World) (ha : Rd .u8 w a n xs) (hb : Rd .u8 w b n xs) (h1 : n ≤ maxLen) :
    Calls Try.prog 21 #[.agg #[.slice a n ca], .agg #[.slice b n cb]] w fun e w' => e = .returned (.bool true) ∧ Below w.heap.size w w' := by
  have B2 : ∀ o1 o2, Below w.heap.size w ((w.alloc o1).alloc o2) := fun o1 o2 => ((Below.refl _ _).alloc (Nat.le_refl _) o1).alloc (by simp) o2
  go_enter Try.func21, Try.ntmps21
  go_wp2_with fail
  refine (eqByteS_any a b n n ca cb xs xs _ (ha.below (B2 _ _)) (hb.below (B2 _ _)) h1 h1).mono ?_
  rintro e w1 ⟨rfl, q, rfl⟩
  have e1 : decide (xs = xs) = true := by simp
  rw [e1]
  clear e1
  go_wp2
  go_ret
  exact ⟨rfl, below_drewN (B2 _ _) q⟩

theorem eqByteS_yes (a b : Option Addr) (n ca cb : Nat) (xs : List Int) (w : World) (ha : Rd .u8 w a n xs) (hb : Rd .u8 w b n xs) (h1 : n ≤ maxLen) :
    Calls Try.prog 54 #[.slice a n ca, .slice b n cb] w fun e w' => e = .returned (.bool true) ∧ Below w.heap.size w w' :=
  (eqByteS_any a b n n ca cb xs xs w ha hb h1 h1).mono fun e w' ⟨he, q, hw⟩ => ⟨by rw [he]; simp, by rw [hw]; exact below_drewN (Below.refl _ _) q⟩

theorem toByteS_row (a : Option Addr) (n ca : Nat) (xs : List Int) (w : World) (ha : Rd .u8 w a n xs) (h1 : n ≤ 1073741824) :
    Calls Try.prog 53 #[.slice a n ca] w fun e w' => ∃ v, e = .returned v ∧ RowI .u8 5 w' w.heap.size w'.heap.size v n xs ∧ Below w.heap.size w w' :=
  (toByteS_any a n ca xs w ha h1).mono fun e w' ⟨v, he, ho, hb⟩ => ⟨v, he, RowI.of ho, hb⟩

theorem chg_alloc {lo hi : Nat} {w w' : World} {o : Obj} (h : Chg lo hi (w.alloc o) w') : Chg lo hi w w' :=
  (Chg.of_below ((Below.refl _ _).alloc (Nat.le_refl _) o)).trans h

end Go.Proofs.Ytjgmkcmlkffjlaa