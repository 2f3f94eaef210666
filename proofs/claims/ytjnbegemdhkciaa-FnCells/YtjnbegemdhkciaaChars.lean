/-
  Contracts of the functions that write a character: the specification's and the program's.
-/
import Derived.Test.YtjnbegemdhkciaaRows
import Derived.Test.YtjnbegemdhkciaaBase
import Derived.Test.YtjnbegemdhkciaaMath1
import Derived.Test.YtjnbegemdhkciaaHlp1
namespace Go.Proofs.Ytjnbegemdhkciaa
open Go.RowKit

theorem l1Char_any (c : Int) (w : World) :
    Calls Try.prog 54 #[.int .i64 c] w fun e w' => e = .returned (.bool (isCh c)) ∧ w' = w := by
  go_enter Try.func54, Try.ntmps54
  go_wp2
  all_goals go_ret
  all_goals refine ⟨ret_bool ?_, rfl⟩
  all_goals (rw [Bool.eq_iff_iff]; simp [isCh]; try omega)

theorem isCharacter_any (c : Int) (w : World) :
    Calls Try.prog 51 #[.int .i64 c] w fun e w' => e = .returned (.bool (isCh c)) ∧ w' = w := by
  go_enter Try.func51, Try.ntmps51
  go_wp2
  all_goals go_ret
  all_goals refine ⟨ret_bool ?_, rfl⟩
  all_goals (rw [Bool.eq_iff_iff]; simp [isCh]; try omega)

theorem isShown_any (c : Int) (w : World) :
    Calls Try.prog 60 #[.int .i64 c] w fun e w' => e = .returned (.bool (shown c)) ∧ w' = w := by
  go_enter Try.func60, Try.ntmps60
  go_wp2
  all_goals go_ret
  all_goals refine ⟨ret_bool ?_, rfl⟩
  all_goals (rw [Bool.eq_iff_iff]; simp [shown, isCh]; try omega)

theorem l1Encode_any (c : Int) (w : World) (h0 : 0 ≤ c) (h1 : c ≤ 65535) :
    Calls Try.prog 55 #[.int .i64 c] w fun e w' => ∃ v, e = .returned v ∧ Own .u8 5 w' w.heap.size v (enc c).length (enc c) ∧ Below w.heap.size w w' := by
  go_enter Try.func55, Try.ntmps55
  go_wp2
  all_goals go_ret
  · refine ⟨_, rfl, own_lit w _ 1 _ _ ?_ ?_ (Nat.le_refl _) (by simp [maxLen]), (Below.refl _ _).alloc (Nat.le_refl _) _⟩
    · rw [enc, if_pos (by assumption)]
      rfl
    · rw [enc, if_pos (by assumption)]; rfl
  · refine ⟨_, rfl, own_lit w _ 2 _ _ ?_ ?_ (Nat.le_refl _) (by simp [maxLen]), (Below.refl _ _).alloc (Nat.le_refl _) _⟩
    · rw [enc, if_neg (by omega), if_pos (by assumption)]
      rfl
    · rw [enc, if_neg (by omega), if_pos (by assumption)]; rfl
  · refine ⟨_, rfl, own_lit w _ 3 _ _ ?_ ?_ (Nat.le_refl _) (by simp [maxLen]), (Below.refl _ _).alloc (Nat.le_refl _) _⟩
    · rw [enc, if_neg (by omega), if_neg (by omega)]
      rfl
    · rw [enc, if_neg (by omega), if_neg (by omega)]; rfl

theorem info8c : (Try.prog.info? 5).map (fun i => (i.zero, i.size, i.bytes)) = some (some (.int .u8 0), 1, 1) := by kernel_rfl

set_option maxHeartbeats 400000 in
theorem appendCharacter_own (v : Value) (n base : Nat) (xs : List Int) (c : Int) (w : World) (hown : Own .u8 5 w base v n xs) (hn : n ≤ 1073741824) (hb : base ≤ w.heap.size) (h0 : 0 ≤ c) (h1 : c ≤ 65535) :
    Calls Try.prog 52 #[v, .int .u16 c] w fun e w' => ∃ v', e = .returned v' ∧ Own .u8 5 w' base v' (n + (enc c).length) (xs ++ enc c) ∧ w.grownBy w' v.ownBlock := by
  obtain ⟨i0, hi, hz0, hz1, hz2⟩ := info_parts info8c
  by_cases h2 : c < 128
  · go_enter Try.func52, Try.ntmps52
    go_wp2_with (at_builtin; refine wpList_append_own _ rfl _ _ 22 rfl base 5 i0 (.int .u8 0) 1 1 Try.underlying22 hi hz0 hz1 hz2 rfl (by decide) _ _ _ rfl (hown.alloc _) ⟨w.heap.size, 0, none⟩ 1 1 [.int .u8 c] rfl rfl ?c1 ?c2 ?c3 ?c4 ?c5 ?_)
    case c1 => exact cells_new w #[.int .u8 c] 5
    case c2 => exact ints_oneCell .u8 [c]
    case c3 => unfold maxLen; omega
    case c4 => omega
    case c5 => simp; omega
    intro v' w1 ho1 hg1 _
    go_wp2
    go_ret
    rw [enc, if_pos h2]
    exact ⟨v', rfl, by simpa [Own] using ho1, grownBy_alloc_trans hg1⟩
  · by_cases h3 : c < 2048
    · have e1 := or192 (c / 64) (by omega) (by omega)
      have e2 := and63 c h0 (by omega)
      have e3 := or128 (c % 64) (by omega) (by omega)
      go_enter Try.func52, Try.ntmps52
      go_wp2_with (at_builtin; refine wpList_append_own _ rfl _ _ 22 rfl base 5 i0 (.int .u8 0) 1 1 Try.underlying22 hi hz0 hz1 hz2 rfl (by decide) _ _ _ rfl (hown.alloc _) ⟨w.heap.size, 0, none⟩ 2 2 [.int .u8 (192 + c / 64), .int .u8 (128 + c % 64)] rfl rfl (cells_new w #[.int .u8 (192 + c / 64), .int .u8 (128 + c % 64)] 5) (ints_oneCell .u8 [192 + c / 64, 128 + c % 64]) (by unfold maxLen; omega) (by omega) (by simp; omega) ?_)
      intro v' w1 ho1 hg1 _
      go_wp2
      go_ret
      rw [enc, if_neg (by omega), if_pos h3]
      exact ⟨v', rfl, by simpa [Own] using ho1, grownBy_alloc_trans hg1⟩
    · have e1 := or224 (c / 4096) (by omega) (by omega)
      have e2 := and63 c h0 (by omega)
      have e3 := or128 (c % 64) (by omega) (by omega)
      have e4 := and63 (c / 64) (by omega) (by omega)
      have e5 := or128 (c / 64 % 64) (by omega) (by omega)
      go_enter Try.func52, Try.ntmps52
      go_wp2_with (at_builtin; refine wpList_append_own _ rfl _ _ 22 rfl base 5 i0 (.int .u8 0) 1 1 Try.underlying22 hi hz0 hz1 hz2 rfl (by decide) _ _ _ rfl (hown.alloc _) ⟨w.heap.size, 0, none⟩ 3 3 [.int .u8 (224 + c / 4096), .int .u8 (128 + c / 64 % 64), .int .u8 (128 + c % 64)] rfl rfl (cells_new w #[.int .u8 (224 + c / 4096), .int .u8 (128 + c / 64 % 64), .int .u8 (128 + c % 64)] 5) (ints_oneCell .u8 [224 + c / 4096, 128 + c / 64 % 64, 128 + c % 64]) (by unfold maxLen; omega) (by omega) (by simp; omega) ?_)
      intro v' w1 ho1 hg1 _
      go_wp2
      go_ret
      rw [enc, if_neg (by omega), if_neg (by omega)]
      exact ⟨v', rfl, by simpa [Own] using ho1, grownBy_alloc_trans hg1⟩
end Go.Proofs.Ytjnbegemdhkciaa
