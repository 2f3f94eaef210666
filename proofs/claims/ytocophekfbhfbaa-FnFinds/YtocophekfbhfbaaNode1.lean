/-
  Chapter 5: a byte in a text, both sides; HasByte, both sides.
-/
import Derived.Test.YtocophekfbhfbaaNodeM
import Derived.Test.YtocophekfbhfbaaRows
namespace Go.Proofs.Ytocophekfbhfbaa
open Go.RowKit
set_option linter.unusedVariables false

set_option maxRecDepth 100000 in
theorem stringslite_IndexByte_any (s : ByteArray) (c : Int) (w : World) :
    Calls Try.prog 245 #[.string s, .int .u8 c] w fun e w' => e = .returned (.int .i64 (Lib.indexByte s.data.toList c.toNat.toUInt8)) ∧ w' = w := by
  go_enter Try.func245, Try.ntmps245
  go_wp2
  rw [run_callFunc_extern Try.func259 (by kernel_rfl) (by kernel_rfl) (by kernel_rfl) (e := Extern.BytealgIndexByte.indexByte) (by kernel_rfl), Lib.run_indexByteString]
  simp only [Result.andThen]
  rw [Oper.upon_value]
  go_wp2
  go_ret
  exact ⟨rfl, rfl⟩

theorem strIndex_any (s : ByteArray) (c : Int) (w : World) :
    Calls Try.prog 224 #[.string s, .int .u8 c] w fun e w' => e = .returned (.int .i64 (Lib.indexByte s.data.toList c.toNat.toUInt8)) ∧ w' = w := by
  go_enter Try.func224, Try.ntmps224
  go_wp2_with fail
  refine (stringslite_IndexByte_any s c _).mono ?_
  rintro e w' ⟨rfl, rfl⟩
  go_wp2
  go_ret
  exact ⟨rfl, rfl⟩

set_option maxRecDepth 20000 in
theorem l5In_any (s : ByteArray) (c : Int) (w : World) (hs : s.size ≤ 1073741824) :
    Calls Try.prog 222 #[.string s, .int .u8 c] w fun e w' => e = .returned (.bool (inB s c)) ∧ w' = w := by
  have HZ : Hid (s.data.toList.length = s.size) := by
    have h : s.data.toList.length = s.size := by rw [Array.length_toList]; rfl
    exact h
  obtain ⟨R, hR⟩ : ∃ R, R = inB s c := ⟨_, rfl⟩
  rw [← hR]
  have HR : Hid _ := hR
  clear hR
  go_enter Try.func222, Try.ntmps222
  go_wp2
  go_loop [5] (fun i => ∃ k : Nat, k ≤ s.size ∧ i = .int .i64 k ∧ NotYet s.data.toList c k) (fun i => s.size - (intOf i).toNat)
  case atStart => exact ⟨0, Nat.zero_le _, rfl, NotYet.zero _ _⟩
  case round =>
    obtain ⟨k, hk, rfl, HA⟩ := hrel
    by_cases hlt : k < s.size
    · have hlt' : (k : Int) < (s.size : Int) := by omega
      obtain ⟨b, hb, hb2⟩ := str_at s k hlt
      have HB : Hid _ := hb2
      clear hb2
      by_cases he : ((b.toNat : Int)) = c
      · subst he
        go_wp2
        go_ret
        refine ⟨ret_bool ?_, rfl⟩
        rw [HR.out, inB, inL_yes (j := k) (by rw [HZ.out]; omega) (by rw [HB.out])]
      · have he' : (((b.toNat : Int)) == c) = false := by simpa using he
        go_wp2
        go_round
        case rel => exact ⟨k + 1, by omega, by go_num, HA.succ (by rw [HB.out]; exact he)⟩
        case measure => simp [intOf]; omega
    · go_wp2
      go_ret
      refine ⟨ret_bool ?_, rfl⟩
      rw [HR.out, inB, inL_no (fun j hj => HA j (by rw [HZ.out] at hj; omega))]
end Go.Proofs.Ytocophekfbhfbaa
