/-
  Helpers of the exact laws: results that hold a list of integers.
-/
import Derived.Test.YtppielcpidcmaaaHlpA
namespace Go.Proofs.Ytppielcpidcmaaa
open Go.RowKit
set_option linter.unusedVariables false

set_option maxHeartbeats 400000 in
theorem eqIntsResult_yes (c : Int) (a b : Option Addr) (n ca cb : Nat) (xs : List Int) (w : World) (ha : Rd .i64 w a n xs) (hb : Rd .i64 w b n xs) (h1 : n ≤ maxLen) :
    Calls Try.prog 22 #[.agg #[.int .i64 c, .slice a n ca], .agg #[.int .i64 c, .slice b n cb]] w fun e w' => e = .returned (.bool true) ∧ Below w.heap.size w w' := by
  have B2 : ∀ o1 o2, Below w.heap.size w ((w.alloc o1).alloc o2) := fun o1 o2 => ((Below.refl _ _).alloc (Nat.le_refl _) o1).alloc (by simp) o2
  go_enter Try.func22, Try.ntmps22
  go_wp2_with fail
  refine (eqInt64S_any a b n n ca cb xs xs _ (ha.below (B2 _ _)) (hb.below (B2 _ _)) h1 h1).mono ?_
  rintro e w1 ⟨rfl, q, rfl⟩
  have e1 : decide (xs = xs) = true := by simp
  rw [e1]
  clear e1
  go_wp2
  go_ret
  exact ⟨rfl, below_drewN (B2 _ _) q⟩

set_option maxHeartbeats 400000 in
theorem markIntsResult_row (c x0 : Int) (v : Value) (n lo hi : Nat) (xs : List Int) (w : World) (ho : RowI .i64 2 w lo hi v n xs) (h1 : n ≤ 1073741824) (h2 : 0 ≤ x0) (h3 : x0 ≤ 1073741824) :
    Calls Try.prog 24 #[.agg #[.int .i64 c, v], .int .i64 x0] w fun e w' => e = .returned (.int .i64 (x0 + n)) ∧ RowI .i64 2 w' lo hi v n (mkI x0 n) ∧ Chg lo hi w w' := by
  obtain ⟨a, cap, rfl, _⟩ := ho.shape
  go_enter Try.func24, Try.ntmps24
  go_wp2_with fail
  refine (markInt64S_row _ n lo hi xs x0 _ (ho.below ((Below.refl _ _).alloc (Nat.le_refl _) _)) h1 h2 h3).mono ?_
  rintro e w1 ⟨rfl, ho1, hg⟩
  go_wp2
  go_ret
  exact ⟨rfl, ho1, chg_alloc hg⟩

set_option maxHeartbeats 400000 in
theorem heldIntsResult_yes (c x0 : Int) (a : Option Addr) (n ca : Nat) (w : World) (ha : Rd .i64 w a n (mkI x0 n)) (h1 : n ≤ 1073741824) (h2 : 0 ≤ x0) (h3 : x0 ≤ 1073741824) :
    Calls Try.prog 25 #[.agg #[.int .i64 c, .slice a n ca], .int .i64 x0] w fun e w' => e = .returned (.int .i64 (x0 + n)) ∧ Below w.heap.size w w' := by
  go_enter Try.func25, Try.ntmps25
  go_wp2_with fail
  refine (heldInt64S_yes a n ca x0 _ (ha.below ((Below.refl _ _).alloc (Nat.le_refl _) _)) h1 h2 h3).mono ?_
  rintro e w1 ⟨rfl, rfl⟩
  go_wp2
  go_ret
  exact ⟨rfl, (Below.refl _ _).alloc (Nat.le_refl _) _⟩

theorem u8_bd {c : Int} (h : (Lit.int .u8 c).wf = true) : 0 ≤ c ∧ c < 256 := by
  have h' : 0 ≤ c ∧ c ≤ 255 := by simpa [Lit.wf, IntKind.min, IntKind.max, IntKind.signed, IntKind.bits] using h
  omega
end Go.Proofs.Ytppielcpidcmaaa
