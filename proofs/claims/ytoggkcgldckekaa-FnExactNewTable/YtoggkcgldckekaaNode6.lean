/-
  Chapter 5: the program's NodesFault: bytes, sets, forms.
-/
import Derived.Test.YtoggkcgldckekaaNode5b
import Derived.Laws.IdiomStrings
namespace Go.Proofs.Ytoggkcgldckekaa
open Go.RowKit
set_option linter.unusedVariables false
set_option linter.unusedSimpArgs false

/-- The bytes of a text, as integers. -/
def sInts (s : ByteArray) : List Int := s.data.toList.map fun b => (b.toNat : Int)
theorem sInts_len (s : ByteArray) : (sInts s).length = s.size := by rw [sInts, List.length_map, Array.length_toList]; rfl
theorem sInts_at (s : ByteArray) (j : Nat) (h : j < s.size) : (sInts s).getD j 0 = ((s.data.toList.getD j 0).toNat : Int) := by
  have h' : j < s.data.toList.length := by rw [Array.length_toList]; exact h
  simp only [sInts, List.getD_eq_getElem?_getD, List.getElem?_map, List.getElem?_eq_getElem h', Option.map_some, Option.getD_some]

/-- A text turned into bytes. -/
theorem conv_bytes (s : ByteArray) (w : World) : ∃ cap W, (convert 9 22 (.string s)).run Try.prog w = .ok (.slice (some ⟨w.heap.size, 0, none⟩) s.size cap) W ∧ Rd .u8 W (some ⟨w.heap.size, 0, none⟩) s.size (sInts s) ∧ Below w.heap.size w W ∧ w.heap.size < W.heap.size ∧ s.size ≤ cap := by
  have h := run_bytes_of_string (P := Try.prog) w 9 22 5 s Try.underlying9 Try.underlying22 Try.underlying5
  refine ⟨_, _, h, ⟨sInts_len s, .inr ⟨w.heap.size, 0, rfl, fun j hj => ?_⟩⟩, ?_, ?_, grownCap_ge _ _ _ _⟩
  · have hj' : j < s.data.size := hj
    have h1 := bytesRow_at s (grownCap w s.size 0 5) j hj'
    rw [Nat.zero_add, sInts_at s j hj]
    have h2 : s.data.toList.getD j 0 = s.data[j] := by rw [List.getD_eq_getElem?_getD, List.getElem?_eq_getElem (by rw [Array.length_toList]; exact hj')]; simp
    rw [h2, ← h1]
    exact World.cell?_alloc_mark w.drew _ _ _ j
  · exact ((Below.refl _ _).drew).alloc (Nat.le_refl _) _
  · simp

set_option maxHeartbeats 800000 in
set_option maxRecDepth 20000 in
theorem areChars_any (s : ByteArray) (w : World) (hs : s.size ≤ 1073741824) :
    Calls Try.prog 155 #[.string s] w fun e w' => e = .returned (.bool (charsB s.data.toList)) ∧ Below w.heap.size w w' := by
  obtain ⟨cap, W, hconv, hrd, hW, hz, hcap⟩ := conv_bytes s w
  obtain ⟨R, hR⟩ : ∃ R, R = charsB s.data.toList := ⟨_, rfl⟩
  rw [← hR]
  have HR : Hid _ := hR
  have HRD : Hid _ := hrd
  have HL : Hid (s.data.toList.length = s.size) := by
    have h : s.data.toList.length = s.size := by rw [Array.length_toList]; rfl
    exact h
  clear hR hrd
  go_enter Try.func155, Try.ntmps155
  go_wp2
  go_loop [8] (fun i => ∃ k : Nat, k ≤ s.size ∧ i = .int .i64 k ∧ SetTo1 s.data.toList k) (fun i => s.size - (intOf i).toNat)
  case atStart => exact ⟨0, Nat.zero_le _, rfl, fun j h => by omega⟩
  case round =>
    obtain ⟨k, hk, rfl, HA⟩ := hrel
    by_cases hlt : k < s.size
    · have hlt' : (k : Int) < (s.size : Int) := by omega
      obtain ⟨b0, off, he, hc⟩ := Rd.at (show Rd .u8 W (some ⟨w.heap.size, 0, none⟩) s.size (sInts s) from HRD.out) hlt
      obtain ⟨rfl, rfl⟩ : w.heap.size = b0 ∧ 0 = off := by simpa using he
      have hc := hc k hlt
      rw [sInts_at s k hlt, Nat.zero_add] at hc
      obtain ⟨B, hB⟩ : ∃ B : Nat, B = (s.data.toList.getD k 0).toNat := ⟨_, rfl⟩
      rw [← hB] at hc
      have HB : Hid _ := hB
      have hB256 : B < 256 := by rw [hB]; exact UInt8.toNat_lt _
      clear hB he
      by_cases h32 : B < 32
      · have h32' : (B : Int) < 32 := by omega
        go_wp2
        go_ret
        exact ⟨ret_bool (by rw [HR.out, charsB_no (k := k) (by rw [HL.out]; omega) (by rw [← HB.out]; omega)]), hW⟩
      · have h32' : ¬ (B : Int) < 32 := by omega
        by_cases h126 : 126 < B
        · have h126' : (126 : Int) < B := by omega
          go_wp2
          go_ret
          exact ⟨ret_bool (by rw [HR.out, charsB_no (k := k) (by rw [HL.out]; omega) (by rw [← HB.out]; omega)]), hW⟩
        · have h126' : ¬ (126 : Int) < B := by omega
          go_wp2
          go_round
          case rel =>
            refine ⟨k + 1, by omega, by go_num, fun j hj => ?_⟩
            by_cases e : j = k
            · rw [e, ← HB.out]; omega
            · exact HA j (by omega)
          case measure => simp [intOf]; omega
    · go_wp2
      go_ret
      exact ⟨ret_bool (by rw [HR.out, charsB_yes (fun j hj => HA j (by rw [HL.out] at hj; omega))]), hW⟩

/-- All up to k rise. -/
def RiseTo (l : List UInt8) (k : Nat) : Prop := ∀ j, j + 1 < k → (l.getD j 0).toNat < (l.getD (j + 1) 0).toNat

set_option maxHeartbeats 800000 in
set_option maxRecDepth 20000 in
theorem isRising_any (s : ByteArray) (w : World) (hs : s.size ≤ 1073741824) :
    Calls Try.prog 156 #[.string s] w fun e w' => e = .returned (.bool (risingB s.data.toList)) ∧ Below w.heap.size w w' := by
  obtain ⟨R, hR⟩ : ∃ R, R = risingB s.data.toList := ⟨_, rfl⟩
  rw [← hR]
  have HR : Hid _ := hR
  have HL : Hid (s.data.toList.length = s.size) := by
    have h : s.data.toList.length = s.size := by rw [Array.length_toList]; rfl
    exact h
  clear hR
  go_enter Try.func156, Try.ntmps156
  go_wp2
  go_loopw [3] (fun i wr => ∃ k : Nat, 1 ≤ k ∧ k ≤ s.size + 1 ∧ i = .int .i64 k ∧ RiseTo s.data.toList k ∧ Below w.heap.size w wr) (fun i _ => s.size + 1 - (intOf i).toNat)
  case atStart => exact ⟨1, Nat.le_refl _, by omega, rfl, fun j h => by omega, Below.refl _ _⟩
  case round =>
    obtain ⟨k, hk1, hk, rfl, HA, hbw⟩ := hrel
    by_cases hlt : k < s.size
    · have hlt' : (k : Int) < (s.size : Int) := by omega
      obtain ⟨j, rfl⟩ : ∃ j, k = j + 1 := ⟨k - 1, by omega⟩
      obtain ⟨b, hb, hb2⟩ := str_at s (j + 1) hlt
      obtain ⟨b', hb', hb2'⟩ := str_at s j (by omega)
      have HB : Hid _ := hb2
      have HB' : Hid _ := hb2'
      clear hb2 hb2'
      by_cases hle : b.toNat ≤ b'.toNat
      · have hle' : decide ((b.toNat : Int) ≤ b'.toNat) = true := by simpa using hle
        have hle'' : (b.toNat : Int) ≤ b'.toNat := by omega
        go_wp2
        go_quiet (fail)
        go_wp2
        go_ret
        exact ⟨ret_bool (by rw [HR.out, risingB_no (k := j) (by rw [HL.out]; omega) (by rw [HB.out, HB'.out]; exact hle)]), by first | exact hbw | exact below_drewN hbw _ | exact hbw.drew⟩
      · have hle' : decide ((b.toNat : Int) ≤ b'.toNat) = false := by simpa using hle
        have hle'' : ¬ (b.toNat : Int) ≤ b'.toNat := by omega
        go_wp2
        go_quiet (fail)
        go_wp2
        go_roundw
        case rel =>
          refine ⟨j + 1 + 1, by omega, by omega, by go_num, fun i hi => ?_, by first | exact hbw | exact below_drewN hbw _ | exact hbw.drew⟩
          by_cases e : i = j
          · rw [e, HB.out, HB'.out]; omega
          · exact HA i (by omega)
        case measure => simp [intOf]; omega
    · go_wp2
      go_ret
      exact ⟨ret_bool (by rw [HR.out, risingB_yes (fun j hj => HA j (by rw [HL.out] at hj; omega))]), hbw⟩
end Go.Proofs.Ytoggkcgldckekaa
