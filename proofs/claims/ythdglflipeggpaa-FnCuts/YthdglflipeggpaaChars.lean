/-
  Contracts of the functions that write a character: the specification's and the program's.
-/
import Derived.Test.YthdglflipeggpaaRows
import Derived.Test.YthdglflipeggpaaBase
import Derived.Test.YthdglflipeggpaaMath1
import Derived.Test.YthdglflipeggpaaHlp1
namespace Go.Proofs.Ythdglflipeggpaa
open Go.RowKit

theorem l1Encode_any (c : Int) (w : World) (h0 : 0 ≤ c) (h1 : c ≤ 65535) :
    Calls Try.prog 76 #[.int .i64 c] w fun e w' => ∃ v, e = .returned v ∧ Own .u8 5 w' w.heap.size v (enc c).length (enc c) ∧ Below w.heap.size w w' := by
  go_enter Try.func76, Try.ntmps76
  go_wp2
  all_goals go_ret
  · refine ⟨_, rfl, own_lit w _ 1 _ _ ?_ ?_ (Nat.le_refl _) (by simp [maxLen]), (Below.refl _ _).alloc (Nat.le_refl _) _⟩
    · rw [enc, if_pos (by assumption)]
      rfl
    · rw [enc, if_pos (by assumption)]; rfl
  · refine ⟨_, rfl, own_lit w _ 2 _ _ ?_ ?_ (Nat.le_refl _) (by simp [maxLen]), (Below.refl _ _).alloc (Nat.le_refl _) _⟩
    · rw [enc, if_neg (by omega), if_pos (by assumption)]
      rfl
    · rw [enc, if_neg (by omega), if_pos (by assumption)]; rfl
  · refine ⟨_, rfl, own_lit w _ 3 _ _ ?_ ?_ (Nat.le_refl _) (by simp [maxLen]), (Below.refl _ _).alloc (Nat.le_refl _) _⟩
    · rw [enc, if_neg (by omega), if_neg (by omega)]
      rfl
    · rw [enc, if_neg (by omega), if_neg (by omega)]; rfl

theorem info8c : (Try.prog.info? 5).map (fun i => (i.zero, i.size, i.bytes)) = some (some (.int .u8 0), 1, 1) := by kernel_rfl

end Go.Proofs.Ythdglflipeggpaa