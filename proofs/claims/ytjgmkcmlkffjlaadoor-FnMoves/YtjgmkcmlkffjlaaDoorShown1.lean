/-
  Contracts of what is seen at a place: the specification's.
-/
import Derived.Test.YtjgmkcmlkffjlaaDoorDec1
import Derived.Test.YtjgmkcmlkffjlaaDoorMathD
namespace Go.Proofs.YtjgmkcmlkffjlaaDoor
open Go.RowKit
set_option linter.unusedVariables false

theorem info64 : (Tryd.prog.info? 2).map (fun i => (i.zero, i.size, i.bytes)) = some (some (.int .i64 0), 1, 8) := by kernel_rfl

theorem wrap64_u8 (u : UInt8) : wrap64 (u.toNat : Int) = u.toNat := by
  have := u.toNat_lt
  unfold wrap64
  omega

theorem l1Digit_any (v : Int) (w : World) (h0 : 0 ≤ v) (h1 : v < 16) :
    Calls Tryd.prog 71 #[.int .u8 v] w fun e w' => e = .returned (.int .i64 (hexd v)) ∧ w' = w := by
  have hv : v = 0 ∨ v = 1 ∨ v = 2 ∨ v = 3 ∨ v = 4 ∨ v = 5 ∨ v = 6 ∨ v = 7 ∨ v = 8 ∨ v = 9 ∨ v = 10 ∨ v = 11 ∨ v = 12 ∨ v = 13 ∨ v = 14 ∨ v = 15 := by omega
  rcases hv with rfl | rfl | rfl | rfl | rfl | rfl | rfl | rfl | rfl | rfl | rfl | rfl | rfl | rfl | rfl | rfl
  all_goals
    go_enter Tryd.func71, Tryd.ntmps71
    go_wp2
    go_ret
    exact ⟨ret_int ((wrap64_u8 _).trans (by kernel_rfl)), rfl⟩

set_option maxHeartbeats 800000 in
theorem l1Shown_any (a : Option Addr) (n ca i col : Nat) (I C : Int) (hI : I = (i : Int)) (hC : C = (col : Int)) (xs : List Int) (w : World) (ha : Rd .u8 w a n xs) (hB : Bytes xs) (h1 : n ≤ 1073741824) (h2 : i < n) (h3 : col ≤ 1073741824) :
    Calls Tryd.prog 61 #[.slice a n ca, .int .i64 I, .int .i64 C] w fun e w' => ∃ v, e = .returned (.tuple #[v, .int .i64 (shownN xs i)]) ∧ Own .i64 2 w' w.heap.size v (shownL xs i col).length (shownL xs i col) ∧ Below w.heap.size w w' := by
  obtain ⟨i0, hi, hz0, hz1, hz2⟩ := info_parts info64
  subst hI
  subst hC
  have D := l1Decode_any a n ca i xs w ha hB h1 h2
  have hbd := dec_bd hB i
  have hb := hB.at i
  obtain ⟨b, o, rfl, hc⟩ := ha.at h2
  have hci := hc i h2
  have hi' : (i : Int) < (n : Int) := by omega
  have HD : Hid _ := D
  by_cases q9 : xs.getD i 0 = 9
  · have e1 : shownL xs i col = List.replicate (4 - col % 4) 32 := by unfold shownL; rw [if_pos q9]
    have e2 : shownN xs i = 1 := by unfold shownN; rw [if_pos q9]
    rw [e1, e2]
    rw [q9] at hci
    clear e1 e2 D HD hbd hb hc q9 ha
    go_enter Tryd.func61, Tryd.ntmps61
    go_wp2
    go_loopw [9, 10] (fun v k wr => ∃ m : Nat, m ≤ 4 - col % 4 ∧ k = .int .i64 ((col : Int) % 4 + m) ∧ Own .i64 2 wr w.heap.size v m (List.replicate m 32) ∧ Below w.heap.size w wr) (fun _ k _ => 4 - (intOf k).toNat)
    case atStart =>
      refine ⟨0, by omega, by go_num, ?_, (Below.refl _ _).alloc (Nat.le_refl _) _⟩
      exact own_lit (k := .i64) (e := 2) w #[] 0 w.heap.size [] rfl rfl (Nat.le_refl _) (by simp [maxLen])
    case round =>
      obtain ⟨m, hm, rfl, ho, hbw⟩ := hrel
      by_cases hlt : (col : Int) % 4 + m < 4
      · go_wp2_with (at_builtin; refine wpList_append_own _ rfl _ _ 55 rfl w.heap.size 2 i0 (.int .i64 0) 1 8 Tryd.underlying55 hi hz0 hz1 hz2 rfl (by decide) _ _ _ rfl (World.ownsRow.alloc ho _) ⟨wr.heap.size, 0, none⟩ 1 1 [.int .i64 32] rfl rfl (cells_new wr #[.int .i64 32] 2) (ints_oneCell .i64 [32]) (by unfold maxLen; omega) (by omega) (by have := hbw.size; simp; omega) ?_)
        intro v' w3 ho4 hg4 _
        have lo := ho.lt
        have hb3 : Below w.heap.size w w3 := (hbw.alloc hbw.size _).grown hg4 (by have := hbw.size; simp; omega) (fun j hj => (lo j hj).1)
        have ho5 : Own .i64 2 w3 w.heap.size v' (m + 1) (List.replicate (m + 1) 32) := by
          unfold Own
          rw [List.replicate_succ', List.map_append, List.map_replicate]
          exact ho4
        clear ho4 hg4 ho hbw lo
        go_wp2
        go_roundw
        case rel => exact ⟨m + 1, by omega, by go_num, ho5, hb3⟩
        case measure => simp [intOf]; omega
      · go_wp2
        go_ret2
        obtain rfl : m = 4 - col % 4 := by omega
        exact ⟨_, rfl, by simpa using ho, hbw⟩
  · by_cases qc : xs.getD i 0 < 32 ∨ xs.getD i 0 = 127
    · have e1 : shownL xs i col = [94, if xs.getD i 0 = 127 then 63 else xs.getD i 0 + 64] := by unfold shownL; rw [if_neg q9, if_pos qc]
      have e2 : shownN xs i = 1 := by unfold shownN; rw [if_neg q9, if_pos qc]
      have e3 := xor64_u8 _ hb.1 hb.2 qc
      rw [e1, e2]
      clear e1 e2 D HD hbd hc ha
      generalize xs.getD i 0 = z at *
      have q9' : (z == 9) = false := by simpa using q9
      have qb : 0 ≤ (if z = 127 then (63 : Int) else z + 64) ∧ (if z = 127 then (63 : Int) else z + 64) ≤ 255 := by split <;> omega
      generalize (if z = 127 then (63 : Int) else z + 64) = u at *
      clear q9
      obtain ⟨hb1, hb2⟩ := hb
      obtain ⟨u1, u2⟩ := qb
      rcases qc with qc | rfl
      all_goals
        go_enter Tryd.func61, Tryd.ntmps61
        go_wp2
        go_ret2
        exact ⟨_, rfl, own_lit w #[.int .i64 94, .int .i64 u] 2 _ [94, u] rfl rfl (Nat.le_refl _) (by simp [maxLen]), (Below.refl _ _).alloc (Nat.le_refl _) _⟩
    · have e1 : shownL xs i col = if (dec xs i).2 = 0 then [60, hexd (xs.getD i 0 / 16), hexd (xs.getD i 0 % 16), 62] else [(dec xs i).1] := by unfold shownL; rw [if_neg q9, if_neg qc]
      have e2 : shownN xs i = if (dec xs i).2 = 0 then 1 else (dec xs i).2.toNat := by unfold shownN; rw [if_neg q9, if_neg qc]
      rw [e1, e2]
      clear e1 e2 hc ha D
      generalize xs.getD i 0 = z at *
      generalize dec xs i = d at *
      obtain ⟨c, u⟩ := d
      simp only at *
      obtain ⟨hb1, hb2⟩ := hb
      obtain ⟨b1, b2, b3, b4⟩ := hbd
      have q9' : (z == 9) = false := by simpa using q9
      have q127 : (z == 127) = false := by simp; omega
      have q32 : ¬ z < 32 := by omega
      clear q9 qc
      by_cases hu : u = 0
      · subst hu
        rw [if_pos rfl, if_pos rfl]
        go_enter Tryd.func61, Tryd.ntmps61
        go_wp2_with fail
        refine Calls.mono HD.out ?_
        rintro e w1 ⟨rfl, rfl⟩
        go_wp2_with fail
        refine (l1Digit_any (z / 16) _ (by omega) (by omega)).mono ?_
        rintro e w1 ⟨rfl, rfl⟩
        go_wp2_with fail
        refine (l1Digit_any (z % 16) _ (by omega) (by omega)).mono ?_
        rintro e w1 ⟨rfl, rfl⟩
        go_wp2
        go_ret2
        exact ⟨_, rfl, own_lit w1 #[.int .i64 60, .int .i64 (hexd (z / 16)), .int .i64 (hexd (z % 16)), .int .i64 62] 4 _ [60, hexd (z / 16), hexd (z % 16), 62] rfl rfl (Nat.le_refl _) (by simp [maxLen]), (Below.refl _ _).alloc (Nat.le_refl _) _⟩
      · have hu' : (u == 0) = false := by simpa using hu
        rw [if_neg hu, if_neg hu]
        go_enter Tryd.func61, Tryd.ntmps61
        go_wp2_with fail
        refine Calls.mono HD.out ?_
        rintro e w1 ⟨rfl, rfl⟩
        go_wp2
        go_ret2
        refine ⟨_, ?_, own_lit w1 #[.int .i64 c] 1 _ [c] rfl rfl (Nat.le_refl _) (by simp [maxLen]), (Below.refl _ _).alloc (Nat.le_refl _) _⟩
        rw [Int.toNat_of_nonneg b3]
        rfl
end Go.Proofs.YtjgmkcmlkffjlaaDoor
