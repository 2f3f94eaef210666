/-
  Node6, Node6b, Node6c in one text.
-/
import Derived.Laws.IdiomStrings
import Derived.Test.YtocophekfbhfbaaNode5b
namespace Go.Proofs.Ytocophekfbhfbaa
open Go.RowKit
set_option linter.unusedVariables false
set_option linter.unusedSimpArgs false

/-- The bytes of a text, as integers. -/
def sInts (s : ByteArray) : List Int := s.data.toList.map fun b => (b.toNat : Int)
theorem sInts_len (s : ByteArray) : (sInts s).length = s.size := by rw [sInts, List.length_map, Array.length_toList]; rfl
theorem sInts_at (s : ByteArray) (j : Nat) (h : j < s.size) : (sInts s).getD j 0 = ((s.data.toList.getD j 0).toNat : Int) := by
  have h' : j < s.data.toList.length := by rw [Array.length_toList]; exact h
  simp only [sInts, List.getD_eq_getElem?_getD, List.getElem?_map, List.getElem?_eq_getElem h', Option.map_some, Option.getD_some]

/-- A text turned into bytes. -/
theorem conv_bytes (s : ByteArray) (w : World) : ∃ cap W, (convert 9 22 (.string s)).run Try.prog w = .ok (.slice (some ⟨w.heap.size, 0, none⟩) s.size cap) W ∧ Rd .u8 W (some ⟨w.heap.size, 0, none⟩) s.size (sInts s) ∧ Below w.heap.size w W ∧ w.heap.size < W.heap.size ∧ s.size ≤ cap := by
  have h := run_bytes_of_string (P := Try.prog) w 9 22 5 s Try.underlying9 Try.underlying22 Try.underlying5
  refine ⟨_, _, h, ⟨sInts_len s, .inr ⟨w.heap.size, 0, rfl, fun j hj => ?_⟩⟩, ?_, ?_, grownCap_ge _ _ _ _⟩
  · have hj' : j < s.data.size := hj
    have h1 := bytesRow_at s (grownCap w s.size 0 5) j hj'
    rw [Nat.zero_add, sInts_at s j hj]
    have h2 : s.data.toList.getD j 0 = s.data[j] := by rw [List.getD_eq_getElem?_getD, List.getElem?_eq_getElem (by rw [Array.length_toList]; exact hj')]; simp
    rw [h2, ← h1]
    exact World.cell?_alloc_mark w.drew _ _ _ j
  · exact ((Below.refl _ _).drew).alloc (Nat.le_refl _) _
  · simp

set_option maxHeartbeats 800000 in
set_option maxRecDepth 20000 in
theorem areChars_any (s : ByteArray) (w : World) (hs : s.size ≤ 1073741824) :
    Calls Try.prog 92 #[.string s] w fun e w' => e = .returned (.bool (charsB s.data.toList)) ∧ Below w.heap.size w w' := by
  obtain ⟨cap, W, hconv, hrd, hW, hz, hcap⟩ := conv_bytes s w
  obtain ⟨R, hR⟩ : ∃ R, R = charsB s.data.toList := ⟨_, rfl⟩
  rw [← hR]
  have HR : Hid _ := hR
  have HRD : Hid _ := hrd
  have HL : Hid (s.data.toList.length = s.size) := by
    have h : s.data.toList.length = s.size := by rw [Array.length_toList]; rfl
    exact h
  clear hR hrd
  go_enter Try.func92, Try.ntmps92
  go_wp2
  go_loop [8] (fun i => ∃ k : Nat, k ≤ s.size ∧ i = .int .i64 k ∧ SetTo1 s.data.toList k) (fun i => s.size - (intOf i).toNat)
  case atStart => exact ⟨0, Nat.zero_le _, rfl, fun j h => by omega⟩
  case round =>
    obtain ⟨k, hk, rfl, HA⟩ := hrel
    by_cases hlt : k < s.size
    · have hlt' : (k : Int) < (s.size : Int) := by omega
      obtain ⟨b0, off, he, hc⟩ := Rd.at (show Rd .u8 W (some ⟨w.heap.size, 0, none⟩) s.size (sInts s) from HRD.out) hlt
      obtain ⟨rfl, rfl⟩ : w.heap.size = b0 ∧ 0 = off := by simpa using he
      have hc := hc k hlt
      rw [sInts_at s k hlt, Nat.zero_add] at hc
      obtain ⟨B, hB⟩ : ∃ B : Nat, B = (s.data.toList.getD k 0).toNat := ⟨_, rfl⟩
      rw [← hB] at hc
      have HB : Hid _ := hB
      have hB256 : B < 256 := by rw [hB]; exact UInt8.toNat_lt _
      clear hB he
      by_cases h32 : B < 32
      · have h32' : (B : Int) < 32 := by omega
        go_wp2
        go_ret
        exact ⟨ret_bool (by rw [HR.out, charsB_no (k := k) (by rw [HL.out]; omega) (by rw [← HB.out]; omega)]), hW⟩
      · have h32' : ¬ (B : Int) < 32 := by omega
        by_cases h126 : 126 < B
        · have h126' : (126 : Int) < B := by omega
          go_wp2
          go_ret
          exact ⟨ret_bool (by rw [HR.out, charsB_no (k := k) (by rw [HL.out]; omega) (by rw [← HB.out]; omega)]), hW⟩
        · have h126' : ¬ (126 : Int) < B := by omega
          go_wp2
          go_round
          case rel =>
            refine ⟨k + 1, by omega, by go_num, fun j hj => ?_⟩
            by_cases e : j = k
            · rw [e, ← HB.out]; omega
            · exact HA j (by omega)
          case measure => simp [intOf]; omega
    · go_wp2
      go_ret
      exact ⟨ret_bool (by rw [HR.out, charsB_yes (fun j hj => HA j (by rw [HL.out] at hj; omega))]), hW⟩

/-- All up to k rise. -/
def RiseTo (l : List UInt8) (k : Nat) : Prop := ∀ j, j + 1 < k → (l.getD j 0).toNat < (l.getD (j + 1) 0).toNat

set_option maxHeartbeats 800000 in
set_option maxRecDepth 20000 in
theorem isRising_any (s : ByteArray) (w : World) (hs : s.size ≤ 1073741824) :
    Calls Try.prog 178 #[.string s] w fun e w' => e = .returned (.bool (risingB s.data.toList)) ∧ Below w.heap.size w w' := by
  obtain ⟨R, hR⟩ : ∃ R, R = risingB s.data.toList := ⟨_, rfl⟩
  rw [← hR]
  have HR : Hid _ := hR
  have HL : Hid (s.data.toList.length = s.size) := by
    have h : s.data.toList.length = s.size := by rw [Array.length_toList]; rfl
    exact h
  clear hR
  go_enter Try.func178, Try.ntmps178
  go_wp2
  go_loopw [3] (fun i wr => ∃ k : Nat, 1 ≤ k ∧ k ≤ s.size + 1 ∧ i = .int .i64 k ∧ RiseTo s.data.toList k ∧ Below w.heap.size w wr) (fun i _ => s.size + 1 - (intOf i).toNat)
  case atStart => exact ⟨1, Nat.le_refl _, by omega, rfl, fun j h => by omega, Below.refl _ _⟩
  case round =>
    obtain ⟨k, hk1, hk, rfl, HA, hbw⟩ := hrel
    by_cases hlt : k < s.size
    · have hlt' : (k : Int) < (s.size : Int) := by omega
      obtain ⟨j, rfl⟩ : ∃ j, k = j + 1 := ⟨k - 1, by omega⟩
      obtain ⟨b, hb, hb2⟩ := str_at s (j + 1) hlt
      obtain ⟨b', hb', hb2'⟩ := str_at s j (by omega)
      have HB : Hid _ := hb2
      have HB' : Hid _ := hb2'
      clear hb2 hb2'
      by_cases hle : b.toNat ≤ b'.toNat
      · have hle' : decide ((b.toNat : Int) ≤ b'.toNat) = true := by simpa using hle
        have hle'' : (b.toNat : Int) ≤ b'.toNat := by omega
        go_wp2
        go_quiet (fail)
        go_wp2
        go_ret
        exact ⟨ret_bool (by rw [HR.out, risingB_no (k := j) (by rw [HL.out]; omega) (by rw [HB.out, HB'.out]; exact hle)]), by first | exact hbw | exact below_drewN hbw _ | exact hbw.drew⟩
      · have hle' : decide ((b.toNat : Int) ≤ b'.toNat) = false := by simpa using hle
        have hle'' : ¬ (b.toNat : Int) ≤ b'.toNat := by omega
        go_wp2
        go_quiet (fail)
        go_wp2
        go_roundw
        case rel =>
          refine ⟨j + 1 + 1, by omega, by omega, by go_num, fun i hi => ?_, by first | exact hbw | exact below_drewN hbw _ | exact hbw.drew⟩
          by_cases e : i = j
          · rw [e, HB.out, HB'.out]; omega
          · exact HA i (by omega)
        case measure => simp [intOf]; omega
    · go_wp2
      go_ret
      exact ⟨ret_bool (by rw [HR.out, risingB_yes (fun j hj => HA j (by rw [HL.out] at hj; omega))]), hbw⟩
end Go.Proofs.Ytocophekfbhfbaa

namespace Go.Proofs.Ytocophekfbhfbaa
open Go.RowKit
set_option linter.unusedVariables false
set_option linter.unusedSimpArgs false

theorem neqZero (k c : Int) (s : ByteArray) (l r : Int) (w : World) :
    (binOp .neq 151 (.agg #[.int .i64 k, .int .i64 c, .string s, .int .i64 l, .int .i64 r]) (.agg #[.int .i64 0, .int .i64 0, .string ⟨#[]⟩, .int .i64 0, .int .i64 0])).run Try.prog w = .ok (.bool (!decide ((⟨k, c, s, l, r⟩ : Nd) = nd0))) w :=
  neqNode ⟨k, c, s, l, r⟩ nd0 w

theorem formEq1 (c : Int) (s : ByteArray) (l r : Int) : (!decide ((⟨0, c, s, l, r⟩ : Nd) = nd0)) = !decide (FormP ⟨1, c, s, l, r⟩) := by
  congr 1
  rw [decide_eq_decide, ndEq_iff]
  unfold FormP eB nd0
  simp only
  constructor
  · rintro ⟨_, h1, h2, h3, h4⟩
    refine ⟨⟨by omega, by omega⟩, by first | omega | simp, ?_, by first | omega | simp, by first | omega | simp⟩
    first | exact .inr (.inr h2) | simp
  · rintro ⟨_, h1, h2, h3, h4⟩
    refine ⟨trivial, by first | trivial | omega, ?_, by first | trivial | omega, by first | trivial | omega⟩
    first | trivial | rfl | (rcases h2 with h2 | h2 | h2; omega; omega; exact h2)

theorem formEq2 (c : Int) (s : ByteArray) (l r : Int) : (!decide ((⟨0, 0, s, l, r⟩ : Nd) = nd0)) = !decide (FormP ⟨2, c, s, l, r⟩) := by
  congr 1
  rw [decide_eq_decide, ndEq_iff]
  unfold FormP eB nd0
  simp only
  constructor
  · rintro ⟨_, h1, h2, h3, h4⟩
    refine ⟨⟨by omega, by omega⟩, by first | omega | simp, ?_, by first | omega | simp, by first | omega | simp⟩
    first | exact .inr (.inr h2) | simp
  · rintro ⟨_, h1, h2, h3, h4⟩
    refine ⟨trivial, by first | trivial | omega, ?_, by first | trivial | omega, by first | trivial | omega⟩
    first | trivial | rfl | (rcases h2 with h2 | h2 | h2; omega; omega; exact h2)

theorem formEq3 (c : Int) (s : ByteArray) (l r : Int) : (!decide ((⟨0, c, s, l, r⟩ : Nd) = nd0)) = !decide (FormP ⟨3, c, s, l, r⟩) := by
  congr 1
  rw [decide_eq_decide, ndEq_iff]
  unfold FormP eB nd0
  simp only
  constructor
  · rintro ⟨_, h1, h2, h3, h4⟩
    refine ⟨⟨by omega, by omega⟩, by first | omega | simp, ?_, by first | omega | simp, by first | omega | simp⟩
    first | exact .inr (.inr h2) | simp
  · rintro ⟨_, h1, h2, h3, h4⟩
    refine ⟨trivial, by first | trivial | omega, ?_, by first | trivial | omega, by first | trivial | omega⟩
    first | trivial | rfl | (rcases h2 with h2 | h2 | h2; omega; omega; exact h2)

theorem formEq4 (c : Int) (s : ByteArray) (l r : Int) : (!decide ((⟨0, c, ⟨#[]⟩, l, r⟩ : Nd) = nd0)) = !decide (FormP ⟨4, c, s, l, r⟩) := by
  congr 1
  rw [decide_eq_decide, ndEq_iff]
  unfold FormP eB nd0
  simp only
  constructor
  · rintro ⟨_, h1, h2, h3, h4⟩
    refine ⟨⟨by omega, by omega⟩, by first | omega | simp, ?_, by first | omega | simp, by first | omega | simp⟩
    first | exact .inr (.inr h2) | simp
  · rintro ⟨_, h1, h2, h3, h4⟩
    refine ⟨trivial, by first | trivial | omega, ?_, by first | trivial | omega, by first | trivial | omega⟩
    first | trivial | rfl | (rcases h2 with h2 | h2 | h2; omega; omega; exact h2)

theorem formEq5 (c : Int) (s : ByteArray) (l r : Int) : (!decide ((⟨0, c, ⟨#[]⟩, l, r⟩ : Nd) = nd0)) = !decide (FormP ⟨5, c, s, l, r⟩) := by
  congr 1
  rw [decide_eq_decide, ndEq_iff]
  unfold FormP eB nd0
  simp only
  constructor
  · rintro ⟨_, h1, h2, h3, h4⟩
    refine ⟨⟨by omega, by omega⟩, by first | omega | simp, ?_, by first | omega | simp, by first | omega | simp⟩
    first | exact .inr (.inr h2) | simp
  · rintro ⟨_, h1, h2, h3, h4⟩
    refine ⟨trivial, by first | trivial | omega, ?_, by first | trivial | omega, by first | trivial | omega⟩
    first | trivial | rfl | (rcases h2 with h2 | h2 | h2; omega; omega; exact h2)

theorem formEq6 (c : Int) (s : ByteArray) (l r : Int) : (!decide ((⟨0, c, s, l, r⟩ : Nd) = nd0)) = !decide (FormP ⟨6, c, s, l, r⟩) := by
  congr 1
  rw [decide_eq_decide, ndEq_iff]
  unfold FormP eB nd0
  simp only
  constructor
  · rintro ⟨_, h1, h2, h3, h4⟩
    refine ⟨⟨by omega, by omega⟩, by first | omega | simp, ?_, by first | omega | simp, by first | omega | simp⟩
    first | exact .inr (.inr h2) | simp
  · rintro ⟨_, h1, h2, h3, h4⟩
    refine ⟨trivial, by first | trivial | omega, ?_, by first | trivial | omega, by first | trivial | omega⟩
    first | trivial | rfl | (rcases h2 with h2 | h2 | h2; omega; omega; exact h2)

theorem formEq7 (c : Int) (s : ByteArray) (l r : Int) : (!decide ((⟨0, c, s, l, r⟩ : Nd) = nd0)) = !decide (FormP ⟨7, c, s, l, r⟩) := by
  congr 1
  rw [decide_eq_decide, ndEq_iff]
  unfold FormP eB nd0
  simp only
  constructor
  · rintro ⟨_, h1, h2, h3, h4⟩
    refine ⟨⟨by omega, by omega⟩, by first | omega | simp, ?_, by first | omega | simp, by first | omega | simp⟩
    first | exact .inr (.inr h2) | simp
  · rintro ⟨_, h1, h2, h3, h4⟩
    refine ⟨trivial, by first | trivial | omega, ?_, by first | trivial | omega, by first | trivial | omega⟩
    first | trivial | rfl | (rcases h2 with h2 | h2 | h2; omega; omega; exact h2)

theorem formEq8 (c : Int) (s : ByteArray) (l r : Int) : (!decide ((⟨0, c, s, 0, r⟩ : Nd) = nd0)) = !decide (FormP ⟨8, c, s, l, r⟩) := by
  congr 1
  rw [decide_eq_decide, ndEq_iff]
  unfold FormP eB nd0
  simp only
  constructor
  · rintro ⟨_, h1, h2, h3, h4⟩
    refine ⟨⟨by omega, by omega⟩, by first | omega | simp, ?_, by first | omega | simp, by first | omega | simp⟩
    first | exact .inr (.inr h2) | simp
  · rintro ⟨_, h1, h2, h3, h4⟩
    refine ⟨trivial, by first | trivial | omega, ?_, by first | trivial | omega, by first | trivial | omega⟩
    first | trivial | rfl | (rcases h2 with h2 | h2 | h2; omega; omega; exact h2)

theorem formEq9 (c : Int) (s : ByteArray) (l r : Int) : (!decide ((⟨0, c, s, 0, r⟩ : Nd) = nd0)) = !decide (FormP ⟨9, c, s, l, r⟩) := by
  congr 1
  rw [decide_eq_decide, ndEq_iff]
  unfold FormP eB nd0
  simp only
  constructor
  · rintro ⟨_, h1, h2, h3, h4⟩
    refine ⟨⟨by omega, by omega⟩, by first | omega | simp, ?_, by first | omega | simp, by first | omega | simp⟩
    first | exact .inr (.inr h2) | simp
  · rintro ⟨_, h1, h2, h3, h4⟩
    refine ⟨trivial, by first | trivial | omega, ?_, by first | trivial | omega, by first | trivial | omega⟩
    first | trivial | rfl | (rcases h2 with h2 | h2 | h2; omega; omega; exact h2)

theorem formEq10 (c : Int) (s : ByteArray) (l r : Int) : (!decide ((⟨0, c, s, 0, r⟩ : Nd) = nd0)) = !decide (FormP ⟨10, c, s, l, r⟩) := by
  congr 1
  rw [decide_eq_decide, ndEq_iff]
  unfold FormP eB nd0
  simp only
  constructor
  · rintro ⟨_, h1, h2, h3, h4⟩
    refine ⟨⟨by omega, by omega⟩, by first | omega | simp, ?_, by first | omega | simp, by first | omega | simp⟩
    first | exact .inr (.inr h2) | simp
  · rintro ⟨_, h1, h2, h3, h4⟩
    refine ⟨trivial, by first | trivial | omega, ?_, by first | trivial | omega, by first | trivial | omega⟩
    first | trivial | rfl | (rcases h2 with h2 | h2 | h2; omega; omega; exact h2)

theorem formEq11 (c : Int) (s : ByteArray) (l r : Int) : (!decide ((⟨0, c, s, 0, 0⟩ : Nd) = nd0)) = !decide (FormP ⟨11, c, s, l, r⟩) := by
  congr 1
  rw [decide_eq_decide, ndEq_iff]
  unfold FormP eB nd0
  simp only
  constructor
  · rintro ⟨_, h1, h2, h3, h4⟩
    refine ⟨⟨by omega, by omega⟩, by first | omega | simp, ?_, by first | omega | simp, by first | omega | simp⟩
    first | exact .inr (.inr h2) | simp
  · rintro ⟨_, h1, h2, h3, h4⟩
    refine ⟨trivial, by first | trivial | omega, ?_, by first | trivial | omega, by first | trivial | omega⟩
    first | trivial | rfl | (rcases h2 with h2 | h2 | h2; omega; omega; exact h2)

theorem formEq12 (c : Int) (s : ByteArray) (l r : Int) : (!decide ((⟨0, c, s, 0, 0⟩ : Nd) = nd0)) = !decide (FormP ⟨12, c, s, l, r⟩) := by
  congr 1
  rw [decide_eq_decide, ndEq_iff]
  unfold FormP eB nd0
  simp only
  constructor
  · rintro ⟨_, h1, h2, h3, h4⟩
    refine ⟨⟨by omega, by omega⟩, by first | omega | simp, ?_, by first | omega | simp, by first | omega | simp⟩
    first | exact .inr (.inr h2) | simp
  · rintro ⟨_, h1, h2, h3, h4⟩
    refine ⟨trivial, by first | trivial | omega, ?_, by first | trivial | omega, by first | trivial | omega⟩
    first | trivial | rfl | (rcases h2 with h2 | h2 | h2; omega; omega; exact h2)

set_option maxHeartbeats 1600000 in
set_option maxRecDepth 20000 in
theorem hasTooMuch_any (n : Nd) (w : World) :
    Calls Try.prog 96 #[.agg #[.int .i64 n.k, .int .i64 n.c, .string n.s, .int .i64 n.l, .int .i64 n.r]] w fun e w' => e = .returned (.bool (!decide (FormP n))) ∧ Below w.heap.size w w' := by
  obtain ⟨k, c, s, l, r⟩ := n
  simp only
  obtain ⟨R, hR⟩ : ∃ R, R = !decide (FormP ⟨k, c, s, l, r⟩) := ⟨_, rfl⟩
  rw [← hR]
  have HR : Hid (R = !decide (FormP ⟨k, c, s, l, r⟩)) := hR
  clear hR
  have hne := neqZero
  have hg := guardNode
  have B1 : ∀ o, Below w.heap.size w (w.alloc o) := fun o => (Below.refl _ _).alloc (Nat.le_refl _) o
  by_cases hI : 1 ≤ k ∧ k ≤ 12
  case neg =>
    have hf : R = true := by rw [HR.out, decide_eq_false (fun h => hI h.1)]; rfl
    rw [hf]
    have e1 : (k == 1) = false := by simp; omega
    have e2 : (k == 2) = false := by simp; omega
    have e3 : (k == 3) = false := by simp; omega
    have e4 : (k == 4) = false := by simp; omega
    have e5 : (k == 5) = false := by simp; omega
    have e6 : (k == 6) = false := by simp; omega
    have e7 : (k == 7) = false := by simp; omega
    have e8 : (k == 8) = false := by simp; omega
    have e9 : (k == 9) = false := by simp; omega
    have e10 : (k == 10) = false := by simp; omega
    have e11 : (k == 11) = false := by simp; omega
    have e12 : (k == 12) = false := by simp; omega
    clear hI
    go_enter Try.func96, Try.ntmps96
    go_wp2
    go_ret
    exact ⟨rfl, B1 _⟩
  have hcls : k = 1 ∨ k = 2 ∨ k = 3 ∨ k = 4 ∨ k = 5 ∨ k = 6 ∨ k = 7 ∨ k = 8 ∨ k = 9 ∨ k = 10 ∨ k = 11 ∨ k = 12 := by omega
  clear hI
  rcases hcls with rfl | rfl | rfl | rfl | rfl | rfl | rfl | rfl | rfl | rfl | rfl | rfl
  · go_enter Try.func96, Try.ntmps96
    go_wp2
    go_ret
    refine ⟨ret_bool ?_, B1 _⟩
    exact (formEq1 c s l r).trans HR.out.symm
  · go_enter Try.func96, Try.ntmps96
    go_wp2
    go_ret
    refine ⟨ret_bool ?_, B1 _⟩
    exact (formEq2 c s l r).trans HR.out.symm
  · go_enter Try.func96, Try.ntmps96
    go_wp2
    go_ret
    refine ⟨ret_bool ?_, B1 _⟩
    exact (formEq3 c s l r).trans HR.out.symm
  · go_enter Try.func96, Try.ntmps96
    go_wp2
    go_ret
    refine ⟨ret_bool ?_, B1 _⟩
    exact (formEq4 c s l r).trans HR.out.symm
  · go_enter Try.func96, Try.ntmps96
    go_wp2
    go_ret
    refine ⟨ret_bool ?_, B1 _⟩
    exact (formEq5 c s l r).trans HR.out.symm
  · go_enter Try.func96, Try.ntmps96
    go_wp2
    go_ret
    refine ⟨ret_bool ?_, B1 _⟩
    exact (formEq6 c s l r).trans HR.out.symm
  · go_enter Try.func96, Try.ntmps96
    go_wp2
    go_ret
    refine ⟨ret_bool ?_, B1 _⟩
    exact (formEq7 c s l r).trans HR.out.symm
  · go_enter Try.func96, Try.ntmps96
    go_wp2
    go_ret
    refine ⟨ret_bool ?_, B1 _⟩
    exact (formEq8 c s l r).trans HR.out.symm
  · go_enter Try.func96, Try.ntmps96
    go_wp2
    go_ret
    refine ⟨ret_bool ?_, B1 _⟩
    exact (formEq9 c s l r).trans HR.out.symm
  · go_enter Try.func96, Try.ntmps96
    go_wp2
    go_ret
    refine ⟨ret_bool ?_, B1 _⟩
    exact (formEq10 c s l r).trans HR.out.symm
  · go_enter Try.func96, Try.ntmps96
    go_wp2
    go_ret
    refine ⟨ret_bool ?_, B1 _⟩
    exact (formEq11 c s l r).trans HR.out.symm
  · go_enter Try.func96, Try.ntmps96
    go_wp2
    go_ret
    refine ⟨ret_bool ?_, B1 _⟩
    exact (formEq12 c s l r).trans HR.out.symm

set_option maxHeartbeats 1600000 in
set_option maxRecDepth 20000 in
theorem bytesAreRight_any (n : Nd) (w : World) (hs : n.s.size ≤ 1073741824) :
    Calls Try.prog 97 #[.agg #[.int .i64 n.k, .int .i64 n.c, .string n.s, .int .i64 n.l, .int .i64 n.r]] w fun e w' => e = .returned (.bool (rangeB n)) ∧ Below w.heap.size w w' := by
  obtain ⟨k, c, s, l, r⟩ := n
  simp only at hs ⊢
  obtain ⟨R, hR⟩ : ∃ R, R = rangeB ⟨k, c, s, l, r⟩ := ⟨_, rfl⟩
  rw [← hR]
  unfold rangeB at hR
  simp only at hR
  have HR : Hid _ := hR
  clear hR
  have B1 : ∀ o, Below w.heap.size w (w.alloc o) := fun o => (Below.refl _ _).alloc (Nat.le_refl _) o
  by_cases k2 : k = 2
  · subst k2
    by_cases h1 : 32 ≤ c
    · go_enter Try.func97, Try.ntmps97
      go_wp2
      go_ret
      exact ⟨ret_bool (by rw [HR.out]; simp [h1]), B1 _⟩
    · go_enter Try.func97, Try.ntmps97
      go_wp2
      go_ret
      exact ⟨ret_bool (by rw [HR.out]; simp; omega), B1 _⟩
  have k2' : (k == 2) = false := by simpa using k2
  by_cases kH : k = 4 ∨ k = 5
  · have hrR : R = setB s := by rw [HR.out, if_neg k2, if_pos kH]
    unfold setB at hrR
    have CA : Hid _ := fun w' => areChars_any s w' hs
    have CR : Hid _ := fun w' => isRising_any s w' hs
    obtain ⟨A, hA⟩ : ∃ A, A = charsB s.data.toList := ⟨_, rfl⟩
    obtain ⟨I, hI⟩ : ∃ I, I = risingB s.data.toList := ⟨_, rfl⟩
    rw [← hA] at CA hrR
    rw [← hI] at CR hrR
    have HRR : Hid _ := hrR
    clear hrR hA hI k2
    rcases kH with rfl | rfl
    all_goals
      by_cases h1 : 1 ≤ s.size
      · have h1' : (1 : Int) ≤ (s.size : Int) := by omega
        by_cases h20 : s.size ≤ 20
        · have h20' : (s.size : Int) ≤ 20 := by omega
          cases A
          · go_enter Try.func97, Try.ntmps97
            go_wp2_with fail
            refine (CA.out _).mono ?_
            rintro e w1 ⟨rfl, hb1⟩
            go_wp2
            go_ret
            exact ⟨ret_bool (by rw [HRR.out]; simp), (B1 _).trans (hb1.mono (by simp))⟩
          · go_enter Try.func97, Try.ntmps97
            go_wp2_with fail
            refine (CA.out _).mono ?_
            rintro e w1 ⟨rfl, hb1⟩
            have c2 : w1.cell? ⟨w.heap.size, 2, none⟩ = some (.string s) := (hb1.cell (p := ⟨w.heap.size, 2, none⟩) (by simp)).trans (by simp)
            have hb01 := (B1 _).trans (hb1.mono (by simp))
            clear hb1
            go_wp2_with fail
            refine (CR.out _).mono ?_
            rintro e w2 ⟨rfl, hb2⟩
            go_wp2
            go_ret
            exact ⟨ret_bool (by rw [HRR.out]; simp [h1, h20]), hb01.trans (hb2.mono hb01.size)⟩
        · have h20' : ¬ (s.size : Int) ≤ 20 := by omega
          go_enter Try.func97, Try.ntmps97
          go_wp2
          go_ret
          exact ⟨ret_bool (by rw [HRR.out]; simp [h20]), B1 _⟩
      · have h1' : ¬ (1 : Int) ≤ (s.size : Int) := by omega
        go_enter Try.func97, Try.ntmps97
        go_wp2
        go_ret
        exact ⟨ret_bool (by rw [HRR.out]; simp [h1]), B1 _⟩
  · have hrR : R = true := by rw [HR.out, if_neg k2, if_neg kH]
    rw [hrR]
    have k4' : (k == 4) = false := by simp; omega
    have k5' : (k == 5) = false := by simp; omega
    go_enter Try.func97, Try.ntmps97
    go_wp2
    go_ret
    exact ⟨rfl, B1 _⟩
end Go.Proofs.Ytocophekfbhfbaa

namespace Go.Proofs.Ytocophekfbhfbaa
open Go.RowKit
set_option linter.unusedVariables false
set_option linter.unusedSimpArgs false

theorem beg_two' {bs : List Int} {n : Nd} (h : n.k = 11 ∨ n.k = 12) : beg bs n = if (bs.length : Int) = 0 ∨ n.r ≠ bs.length - 1 then -1
    else if bs.getD (bs.length - 1) 0 = 0 ∨ n.l ≠ bs.getD (bs.length - 1) 0 - 1 then -1
    else bs.getD (bs.getD (bs.length - 1) 0 - 1).toNat 0 := if_pos h
theorem beg_one' {bs : List Int} {n : Nd} (h : 8 ≤ n.k ∧ n.k ≤ 10) : beg bs n = if (bs.length : Int) = 0 ∨ n.l ≠ bs.length - 1 then -1 else bs.getD (bs.length - 1) 0 := by
  unfold beg
  rw [if_neg (by omega), if_pos h]
theorem beg_leaf' {bs : List Int} {n : Nd} (h : n.k ≤ 7) : beg bs n = bs.length := by
  unfold beg
  rw [if_neg (by omega), if_neg (by omega)]

set_option maxHeartbeats 1600000 in
set_option maxRecDepth 20000 in
theorem beginBehind_any (n : Nd) (a : Option Addr) (m ca : Nat) (bs : List Int) (ns : List Nd) (w : World) (hr : Rd .i64 w a m bs) (hb : Beg ns m bs) (hm : m ≤ ns.length) (h1 : m ≤ 1073741824) (hf : FormP n) :
    Calls Try.prog 98 #[.agg #[.int .i64 n.k, .int .i64 n.c, .string n.s, .int .i64 n.l, .int .i64 n.r], .slice a m ca] w fun e w' => e = .returned (.int .i64 (beg bs n)) ∧ Below w.heap.size w w' := by
  obtain ⟨k, c, s, l, r⟩ := n
  simp only
  obtain ⟨R, hR⟩ : ∃ R, R = beg bs ⟨k, c, s, l, r⟩ := ⟨_, rfl⟩
  rw [← hR]
  have hk := hf.1
  simp only at hk
  have hlen := hb.len
  have B1 : ∀ o, Below w.heap.size w (w.alloc o) := fun o => (Below.refl _ _).alloc (Nat.le_refl _) o
  by_cases kT : k = 11 ∨ k = 12
  · rw [beg_two' kT] at hR
    simp only [hlen] at hR
    by_cases m0 : m = 0
    · rw [if_pos (by left; omega)] at hR
      subst hR
      subst m0
      clear hb hr hf
      rcases kT with rfl | rfl
      all_goals
        go_enter Try.func98, Try.ntmps98
        go_wp2
        go_ret
        exact ⟨rfl, B1 _⟩
    have m0' : ((m : Int) == 0) = false := by simp; omega
    by_cases hr1 : r = (m : Int) - 1
    case neg =>
      rw [if_pos (by right; exact hr1)] at hR
      have hr1' : (r == (m : Int) - 1) = false := by simpa using hr1
      subst hR
      clear hb hr hf
      rcases kT with rfl | rfl
      all_goals
        go_enter Try.func98, Try.ntmps98
        go_wp2
        go_ret
        exact ⟨rfl, B1 _⟩
    rw [if_neg (by intro h; rcases h with h | h; omega; exact h hr1)] at hR
    obtain ⟨b0, off, rfl, hc⟩ := hr.at (show m - 1 < m by omega)
    have d0 := hc (m - 1) (by omega)
    obtain ⟨M, rfl⟩ : ∃ M, m = M + 1 := ⟨m - 1, by omega⟩
    rw [Nat.add_sub_cancel] at d0 hR
    have hbd := hb.bd hm (i := M) (by omega)
    obtain ⟨B, hB⟩ : ∃ B, B = bs.getD M 0 := ⟨_, rfl⟩
    rw [← hB] at d0 hR hbd
    have hBlt : b0 < w.heap.size := block_lt_of_cell d0
    have d0a : ∀ o, (w.alloc o).cell? ⟨b0, off + M, none⟩ = some (.int .i64 B) := fun o => cell_later ((Below.refl _ _).alloc (Nat.le_refl _) o) d0
    by_cases B0 : B = 0
    · rw [if_pos (.inl B0)] at hR
      subst hR
      clear hb hr hf hB
      subst B0
      subst hr1
      rcases kT with rfl | rfl
      all_goals
        go_enter Try.func98, Try.ntmps98
        go_wp2
        go_ret
        exact ⟨rfl, B1 _⟩
    have B0' : (B == 0) = false := by simpa using B0
    by_cases hl1 : l = B - 1
    case neg =>
      rw [if_pos (.inr hl1)] at hR
      have hl1' : (l == B - 1) = false := by simpa using hl1
      subst hR
      clear hb hr hf hB
      subst hr1
      rcases kT with rfl | rfl
      all_goals
        go_enter Try.func98, Try.ntmps98
        go_wp2
        go_ret
        exact ⟨rfl, B1 _⟩
    rw [if_neg (by intro h; rcases h with h | h; exact B0 h; exact h hl1)] at hR
    have d1 := hc (B - 1).toNat (by omega)
    rw [← hR] at d1
    have d1a : ∀ o, (w.alloc o).cell? ⟨b0, off + (B - 1).toNat, none⟩ = some (.int .i64 R) := fun o => cell_later ((Below.refl _ _).alloc (Nat.le_refl _) o) d1
    clear hb hr hf hB hc hR
    subst hr1
    subst hl1
    obtain ⟨D, rfl⟩ : ∃ D : Nat, B = (D : Int) + 1 := ⟨(B - 1).toNat, by omega⟩
    rw [show ((D : Int) + 1 - 1).toNat = D by omega] at d1 d1a
    rcases kT with rfl | rfl
    all_goals
      go_enter Try.func98, Try.ntmps98
      go_wp2
      go_ret
      exact ⟨rfl, B1 _⟩
  by_cases kO : 8 ≤ k ∧ k ≤ 10
  · rw [beg_one' kO] at hR
    simp only [hlen] at hR
    by_cases m0 : m = 0
    · rw [if_pos (by left; omega)] at hR
      subst hR
      subst m0
      clear hb hr hf kT
      obtain rfl | rfl | rfl : k = 8 ∨ k = 9 ∨ k = 10 := by omega
      all_goals
        go_enter Try.func98, Try.ntmps98
        go_wp2
        go_ret
        exact ⟨rfl, B1 _⟩
    have m0' : ((m : Int) == 0) = false := by simp; omega
    by_cases hr1 : l = (m : Int) - 1
    case neg =>
      rw [if_pos (by right; exact hr1)] at hR
      have hr1' : (l == (m : Int) - 1) = false := by simpa using hr1
      subst hR
      clear hb hr hf kT
      obtain rfl | rfl | rfl : k = 8 ∨ k = 9 ∨ k = 10 := by omega
      all_goals
        go_enter Try.func98, Try.ntmps98
        go_wp2
        go_ret
        exact ⟨rfl, B1 _⟩
    rw [if_neg (by intro h; rcases h with h | h; omega; exact h hr1)] at hR
    obtain ⟨b0, off, rfl, hc⟩ := hr.at (show m - 1 < m by omega)
    have d0 := hc (m - 1) (by omega)
    obtain ⟨M, rfl⟩ : ∃ M, m = M + 1 := ⟨m - 1, by omega⟩
    rw [Nat.add_sub_cancel] at d0 hR
    rw [← hR] at d0
    have d0a : ∀ o, (w.alloc o).cell? ⟨b0, off + M, none⟩ = some (.int .i64 R) := fun o => cell_later ((Below.refl _ _).alloc (Nat.le_refl _) o) d0
    clear hb hr hf hc hR kT
    subst hr1
    obtain rfl | rfl | rfl : k = 8 ∨ k = 9 ∨ k = 10 := by omega
    all_goals
      go_enter Try.func98, Try.ntmps98
      go_wp2
      go_ret
      exact ⟨rfl, B1 _⟩
  · rw [beg_leaf' (by simp only; omega), hlen] at hR
    subst hR
    have e8 : (k == 8) = false := by simp; omega
    have e9 : (k == 9) = false := by simp; omega
    have e10 : (k == 10) = false := by simp; omega
    have e11 : (k == 11) = false := by simp; omega
    have e12 : (k == 12) = false := by simp; omega
    clear hb hr hf kT kO
    go_enter Try.func98, Try.ntmps98
    go_wp2
    go_ret
    exact ⟨rfl, B1 _⟩
end Go.Proofs.Ytocophekfbhfbaa
