/-
  A later source.
-/
import Derived.Test.YtocophekfbhfbaaDraw4
namespace Go.Proofs.Ytocophekfbhfbaa
open Go.RowKit
set_option linter.unusedVariables false

set_option maxHeartbeats 400000 in
theorem l1Later_any (a : Option Addr) (n ca k : Nat) (xs : List Int) (B : Nat) (w : World) (ha : Rd .u8 w a n xs) (hB : Bytes xs) (hn : n ≤ 1048576) (hb : n = 0 ∨ ∃ b' off, a = some ⟨b', off, none⟩ ∧ b' < B) (hBw : B ≤ w.heap.size) (hk : k ≤ 100) :
    Calls Try.prog 67 #[.slice a n ca, .int .i64 k] w fun e w' => e = .returned (.pointer (some ⟨w.heap.size, 0, none⟩)) ∧ Src w' B w.heap.size (5 + 7 * k) ∧ Below w.heap.size w w' := by
  have hw1 : IntKind.i64.wrap (7 * (k : Int)) = 7 * k := by rw [IntKind.wrap_i64] <;> omega
  have hw2 : IntKind.i64.wrap (5 + 7 * (k : Int)) = 5 + 7 * k := by rw [IntKind.wrap_i64] <;> omega
  go_enter Try.func67, Try.ntmps67
  go_wp2
  go_ret
  have hbw : Below w.heap.size w (w.alloc (.cells #[.slice a n ca, .int .i64 (5 + 7 * (k : Int))] 203)) := (Below.refl _ _).alloc (Nat.le_refl _) _
  exact ⟨rfl, ⟨hBw, a, n, ca, xs, 5 + 7 * k, by simp, by simp, by simp, ha.below hbw, hB, hn, by omega, by omega, hb⟩, hbw⟩
end Go.Proofs.Ytocophekfbhfbaa
