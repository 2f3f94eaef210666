/-
  Chapter 5: helpers of the exact laws over nodes: sizes, copies, comparisons.
-/
import Derived.Test.YtjjapnggdfiinaaNode1
import Derived.Test.YtjjapnggdfiinaaHlpD
namespace Go.Proofs.Ytjjapnggdfiinaa
open Go.RowKit
set_option linter.unusedVariables false

/-- A node as a value. -/
def ndV (n : Nd) : Value := .agg #[.int .i64 n.k, .int .i64 n.c, .string n.s, .int .i64 n.l, .int .i64 n.r]

theorem szNode_any (n : Nd) (l : Int) (w : World) (h2 : 0 ≤ l) (h3 : l ≤ 1073741824) (h4 : (n.s.size : Int) ≤ 9223372036854775807) :
    Calls Try.prog 28 #[.agg #[.int .i64 n.k, .int .i64 n.c, .string n.s, .int .i64 n.l, .int .i64 n.r], .int .i64 l] w fun e w' => e = .returned (.int .i64 (if l < n.s.size then -1 else l - n.s.size)) ∧ Below w.heap.size w w' := by
  have B1 : ∀ o, Below w.heap.size w (w.alloc o) := fun o => (Below.refl _ _).alloc (Nat.le_refl _) o
  by_cases h : l < n.s.size
  · rw [if_pos h]
    go_enter Try.func28, Try.ntmps28
    go_wp2
    go_ret
    exact ⟨rfl, B1 _⟩
  · rw [if_neg h]
    go_enter Try.func28, Try.ntmps28
    go_wp2
    go_ret
    exact ⟨rfl, B1 _⟩

set_option maxHeartbeats 800000 in
theorem toNode_any (k c : Int) (s : ByteArray) (l r : Int) (w : World) :
    Calls Try.prog 30 #[.agg #[.int .i64 k, .int .i64 c, .string s, .int .i64 l, .int .i64 r]] w fun e w' => e = .returned (.agg #[.int .i64 k, .int .i64 c, .string s, .int .i64 l, .int .i64 r]) ∧ Below w.heap.size w w' := by
  go_enter Try.func30, Try.ntmps30
  go_wp2
  refine bodyPost_ret (v := .agg #[.int .i64 k, .int .i64 c, .string s, .int .i64 l, .int .i64 r]) (by simp [results, Try.results30, go_sem]) rfl ⟨rfl, ?_⟩
  exact (((Below.refl _ _).alloc (Nat.le_refl _) _).alloc (by simp) _).alloc (by simp; omega) _

set_option maxHeartbeats 800000 in
theorem eqNode_yes (k c : Int) (s : ByteArray) (l r : Int) (w : World) :
    Calls Try.prog 49 #[.agg #[.int .i64 k, .int .i64 c, .string s, .int .i64 l, .int .i64 r], .agg #[.int .i64 k, .int .i64 c, .string s, .int .i64 l, .int .i64 r]] w fun e w' => e = .returned (.bool true) ∧ Below w.heap.size w w' := by
  go_enter Try.func49, Try.ntmps49
  go_wp2
  go_ret
  exact ⟨rfl, ((Below.refl _ _).alloc (Nat.le_refl _) _).alloc (by simp) _⟩
end Go.Proofs.Ytjjapnggdfiinaa
