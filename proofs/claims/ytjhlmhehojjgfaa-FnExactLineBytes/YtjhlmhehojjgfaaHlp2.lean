/-
  Contracts of the helpers over a BytesResult.
-/
import Derived.Test.YtjhlmhehojjgfaaHlp1
namespace Go.Proofs.Ytjhlmhehojjgfaa
open Go.RowKit

set_option maxHeartbeats 400000 in
theorem eqBytesResult_yes (c : Int) (a b : Option Addr) (n ca cb : Nat) (xs : List Int) (w : World) (ha : Rd .u8 w a n xs) (hb : Rd .u8 w b n xs) (h1 : n ≤ maxLen) :
    Calls Try.prog 41 #[.agg #[.int .i64 c, .slice a n ca], .agg #[.int .i64 c, .slice b n cb]] w fun e w' => e = .returned (.bool true) ∧ Below w.heap.size w w' := by
  have B2 : ∀ o1 o2, Below w.heap.size w ((w.alloc o1).alloc o2) := fun o1 o2 => ((Below.refl _ _).alloc (Nat.le_refl _) o1).alloc (by simp) o2
  go_enter Try.func41, Try.ntmps41
  go_wp2_with fail
  refine (eqByteS_any a b n n ca cb xs xs _ (ha.below (B2 _ _)) (hb.below (B2 _ _)) h1 h1).mono ?_
  rintro e w1 ⟨rfl, q, rfl⟩
  have e1 : decide (xs = xs) = true := by simp
  rw [e1]
  clear e1
  go_wp2
  go_ret
  exact ⟨rfl, below_drewN (B2 _ _) q⟩

set_option maxHeartbeats 400000 in
theorem markBytesResult_own (c x0 : Int) (v : Value) (n base : Nat) (xs : List Int) (w : World) (ho : Own .u8 5 w base v n xs) (h1 : n ≤ 1073741824) (h2 : 0 ≤ x0) (h3 : x0 ≤ 1073741824) :
    Calls Try.prog 42 #[.agg #[.int .i64 c, v], .int .i64 x0] w fun e w' => e = .returned (.int .i64 (x0 + n)) ∧ Own .u8 5 w' base v n (mkB x0 n) ∧ w.grownBy w' v.ownBlock := by
  obtain ⟨a, cap, hv, _, _⟩ := ho.rd
  subst hv
  go_enter Try.func42, Try.ntmps42
  go_wp2_with fail
  refine (markByteS_own _ n base xs x0 _ (World.ownsRow.alloc ho _) h1 h2 h3).mono ?_
  rintro e w1 ⟨rfl, ho1, hg⟩
  go_wp2
  go_ret
  exact ⟨rfl, ho1, grownBy_alloc_trans hg⟩

set_option maxHeartbeats 400000 in
theorem heldBytesResult_yes (c x0 : Int) (a : Option Addr) (n ca : Nat) (w : World) (ha : Rd .u8 w a n (mkB x0 n)) (h1 : n ≤ 1073741824) (h2 : 0 ≤ x0) (h3 : x0 ≤ 1073741824) :
    Calls Try.prog 43 #[.agg #[.int .i64 c, .slice a n ca], .int .i64 x0] w fun e w' => e = .returned (.int .i64 (x0 + n)) ∧ Below w.heap.size w w' := by
  go_enter Try.func43, Try.ntmps43
  go_wp2_with fail
  refine (heldByteS_yes a n ca x0 _ (ha.below ((Below.refl _ _).alloc (Nat.le_refl _) _)) h1 h2 h3).mono ?_
  rintro e w1 ⟨rfl, rfl⟩
  go_wp2
  go_ret
  exact ⟨rfl, (Below.refl _ _).alloc (Nat.le_refl _) _⟩
end Go.Proofs.Ytjhlmhehojjgfaa
