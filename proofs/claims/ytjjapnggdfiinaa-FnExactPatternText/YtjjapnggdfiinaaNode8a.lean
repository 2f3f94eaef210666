/-
  Chapter 5: texts with slashes, both sides.
-/
import Derived.Test.YtjjapnggdfiinaaNode8M
import Derived.Test.YtjjapnggdfiinaaNode6d
namespace Go.Proofs.Ytjjapnggdfiinaa
open Go.RowKit
set_option linter.unusedVariables false
set_option linter.unusedSimpArgs false

theorem extract_one (s : ByteArray) (k : Nat) (h : k < s.size) : s.extract k (k + 1) = mkS [s.data.toList.getD k 0] := by
  have h' : k < s.data.size := h
  have h2 : s.data.toList.getD k 0 = s.data[k] := by rw [List.getD_eq_getElem?_getD, List.getElem?_eq_getElem (by rw [Array.length_toList]; exact h')]; simp
  rw [h2]
  obtain ⟨d⟩ := s
  rw [ByteArray.extract_mk]
  unfold mkS
  congr 1
  apply Array.ext
  · have h'' : k < d.size := h'
    simp; omega
  · intro i h1 h3
    simp at h3
    subst h3
    simp

/-- What stands there so far. -/
def SlTo (signs s : ByteArray) (k : Nat) (t : ByteArray) : Prop := t = mkS (slL signs.data.toList (s.data.toList.take k))

theorem SlTo.zero (signs s : ByteArray) : SlTo signs s 0 ⟨#[]⟩ := by simp [SlTo, slL, mkS]
theorem SlTo.size {signs s : ByteArray} {k : Nat} {t : ByteArray} (h : SlTo signs s k t) : t.size ≤ 2 * k := by
  rw [h, mkS_size]
  have := slL_len signs.data.toList (s.data.toList.take k)
  simp at this
  omega
theorem SlTo.yes {signs s : ByteArray} {k : Nat} {t : ByteArray} (h : SlTo signs s k t) (hk : k < s.size) (hi : inB signs (s.data.toList.getD k 0).toNat = true) : SlTo signs s (k + 1) (t ++ ⟨#[92]⟩ ++ s.extract k (k + 1)) := by
  unfold SlTo at *
  unfold inB at hi
  rw [slL_succ (by rw [Array.length_toList]; exact hk), if_pos hi, h, extract_one s k hk, show (⟨#[92]⟩ : ByteArray) = mkS [92] from rfl, mkS_app, mkS_app]
  simp
theorem SlTo.no {signs s : ByteArray} {k : Nat} {t : ByteArray} (h : SlTo signs s k t) (hk : k < s.size) (hi : inB signs (s.data.toList.getD k 0).toNat = false) : SlTo signs s (k + 1) (t ++ s.extract k (k + 1)) := by
  unfold SlTo at *
  unfold inB at hi
  rw [slL_succ (by rw [Array.length_toList]; exact hk), if_neg (by rw [hi]; simp), h, extract_one s k hk, mkS_app]
theorem SlTo.end_ {signs s : ByteArray} {k : Nat} {t : ByteArray} (h : SlTo signs s k t) (hk : k = s.size) : t = slash signs s := by
  rw [h, slash, List.take_of_length_le (by rw [Array.length_toList, hk]; exact Nat.le_refl _)]

set_option maxHeartbeats 800000 in
set_option maxRecDepth 20000 in
theorem l5Letters_any (s : ByteArray) (w : World) (hs : s.size ≤ 1048576) :
    Calls Try.prog 57 #[.string s] w fun e w' => e = .returned (.string (slash sg3 s)) ∧ w' = w := by
  obtain ⟨R, hR⟩ : ∃ R, R = slash sg3 s := ⟨_, rfl⟩
  rw [← hR]
  have HR : Hid _ := hR
  clear hR
  go_enter Try.func57, Try.ntmps57
  go_wp2
  go_loop [3, 4] (fun x i => ∃ (k : Nat) (t : ByteArray), k ≤ s.size ∧ i = .int .i64 k ∧ x = .string t ∧ SlTo sg3 s k t) (fun _ i => s.size - (intOf i).toNat)
  case atStart => exact ⟨0, ⟨#[]⟩, Nat.zero_le _, rfl, rfl, SlTo.zero _ _⟩
  case round =>
    obtain ⟨k, t, hk, rfl, rfl, hT⟩ := hrel
    have htz := hT.size
    by_cases hlt : k < s.size
    · have hlt' : (k : Int) < (s.size : Int) := by omega
      obtain ⟨b, hb, hb2⟩ := str_at s k hlt
      have CI : Hid _ := fun w' => l5In_any sg3 b.toNat w' (by decide)
      have hex : (s.extract k (k + 1)).size = 1 := by rw [extract_one s k hlt]; rfl
      by_cases hi : inB sg3 b.toNat = true
      · rw [hi] at CI
        have HT : Hid _ := hT.yes hlt (by rw [hb2]; exact hi)
        clear hi hT hb2
        unfold sg3 at CI
        go_wp2_with (go_at_call 81; refine (CI.out _).mono ?_; rintro e w1 ⟨rfl, rfl⟩)
        go_round
        case rel => exact ⟨k + 1, _, by omega, by go_num, rfl, HT.out⟩
        case measure => simp [intOf]; omega
      · have hi : inB sg3 b.toNat = false := by simpa using hi
        rw [hi] at CI
        have HT : Hid _ := hT.no hlt (by rw [hb2]; exact hi)
        clear hi hT hb2
        unfold sg3 at CI
        go_wp2_with (go_at_call 81; refine (CI.out _).mono ?_; rintro e w1 ⟨rfl, rfl⟩)
        go_round
        case rel => exact ⟨k + 1, _, by omega, by go_num, rfl, HT.out⟩
        case measure => simp [intOf]; omega
    · have hfin := hT.end_ (by omega)
      rw [← HR.out] at hfin
      subst hfin
      go_wp2
      go_ret
      exact ⟨rfl, rfl⟩

theorem l5Special_any (c : Int) (w : World) : Calls Try.prog 56 #[.int .u8 c] w fun e w' => e = .returned (.bool (inB sg12 c)) ∧ w' = w := by
  have h := fun w' => l5In_any sg12 c w' (by decide)
  generalize hI : inB sg12 c = I at h ⊢
  unfold sg12 at h
  have HH : Hid _ := h
  clear h hI
  go_enter Try.func56, Try.ntmps56
  go_wp2_with fail
  refine (HH.out _).mono ?_
  rintro e w1 ⟨rfl, rfl⟩
  go_wp2
  go_ret
  exact ⟨rfl, rfl⟩
end Go.Proofs.Ytjjapnggdfiinaa
