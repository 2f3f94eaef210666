/-
  Helpers of the exact laws of chapter 11: commands, grids.
-/
import Derived.Test.YtjgmkcmlkffjlaaArgsP
import Derived.Test.YtjgmkcmlkffjlaaBox
namespace Go.Proofs.Ytjgmkcmlkffjlaa
open Go.RowKit
set_option linter.unusedVariables false
set_option linter.unusedSimpArgs false

set_option maxHeartbeats 400000 in
theorem toCmd_any (k c d : Int) (s : ByteArray) (w : World) :
    Calls Try.prog 26 #[.agg #[.int .i64 k, .int .i64 c, .int .i64 d, .string s]] w fun e w' => e = .returned (.agg #[.int .i64 k, .int .i64 c, .int .i64 d, .string s]) ∧ Below w.heap.size w w' := by
  go_enter Try.func26, Try.ntmps26
  go_wp2
  exact bodyPost_ret (v := .agg #[.int .i64 k, .int .i64 c, .int .i64 d, .string s]) (by simp [results, Try.results26, go_sem]) rfl ⟨rfl, (((Below.refl _ _).alloc (Nat.le_refl _) _).alloc (by simp) _).alloc (by simp; omega) _⟩

theorem szCmd_any (k c d : Int) (s : ByteArray) (L : Int) (w : World) (hs : s.size ≤ maxLen) (h0 : 0 ≤ L) (hL : L ≤ 1048576) :
    Calls Try.prog 24 #[.agg #[.int .i64 k, .int .i64 c, .int .i64 d, .string s], .int .i64 L] w fun e w' => e = .returned (.int .i64 (if L < (s.size : Int) then -1 else L - s.size)) ∧ Below w.heap.size w w' := by
  unfold maxLen at hs
  by_cases h : L < (s.size : Int)
  · rw [if_pos h]
    have h' : L - (s.size : Int) < 0 := by omega
    go_enter Try.func24, Try.ntmps24
    go_wp2
    go_ret
    exact ⟨rfl, (Below.refl _ _).alloc (Nat.le_refl _) _⟩
  · rw [if_neg h]
    have h' : ¬ L - (s.size : Int) < 0 := by omega
    go_enter Try.func24, Try.ntmps24
    go_wp2
    go_ret
    exact ⟨rfl, (Below.refl _ _).alloc (Nat.le_refl _) _⟩
end Go.Proofs.Ytjgmkcmlkffjlaa
