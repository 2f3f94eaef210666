/-
  Contracts of what is seen at a place: the program's.
-/
import Derived.Test.YtjgmkcmlkffjlaaDoorDec3
import Derived.Test.YtjgmkcmlkffjlaaDoorMathD
import Derived.RegionTactic
namespace Go.Proofs.YtjgmkcmlkffjlaaDoor
open Go.RowKit
set_option linter.unusedVariables false

theorem info16 : (Tryd.prog.info? 126).map (fun i => (i.zero, i.size, i.bytes)) = some (some (.int .u16 0), 1, 2) := by kernel_rfl

theorem hexDigit_any (v : Int) (w : World) (h0 : 0 ≤ v) (h1 : v < 16) :
    Calls Tryd.prog 76 #[.int .u16 v] w fun e w' => e = .returned (.int .u16 (hexd v)) ∧ w' = w := by
  have hv : v = 0 ∨ v = 1 ∨ v = 2 ∨ v = 3 ∨ v = 4 ∨ v = 5 ∨ v = 6 ∨ v = 7 ∨ v = 8 ∨ v = 9 ∨ v = 10 ∨ v = 11 ∨ v = 12 ∨ v = 13 ∨ v = 14 ∨ v = 15 := by omega
  rcases hv with rfl | rfl | rfl | rfl | rfl | rfl | rfl | rfl | rfl | rfl | rfl | rfl | rfl | rfl | rfl | rfl
  all_goals
    go_enter Tryd.func76, Tryd.ntmps76
    go_wp2
    go_ret
    exact ⟨ret_int (by kernel_rfl), rfl⟩

set_option maxHeartbeats 800000 in
theorem blanksToStop_any (col : Nat) (w : World) (h3 : col ≤ 1073741824) :
    Calls Tryd.prog 74 #[.int .i64 col] w fun e w' => ∃ v, e = .returned v ∧ Own .u16 126 w' w.heap.size v (4 - col % 4) (List.replicate (4 - col % 4) 32) ∧ Below w.heap.size w w' := by
  obtain ⟨i0, hi, hz0, hz1, hz2⟩ := info_parts info16
  go_enter Tryd.func74, Tryd.ntmps74
  go_wp2
  go_loopw [3] (fun v wr => ∃ m : Nat, 1 ≤ m ∧ m ≤ 4 - col % 4 ∧ Own .u16 126 wr w.heap.size v m (List.replicate m 32) ∧ Below w.heap.size w wr) (fun v _ => 4 - lenOf v)
  case atStart =>
    refine ⟨1, by omega, by omega, ?_, (Below.refl _ _).alloc (Nat.le_refl _) _⟩
    exact own_lit (k := .u16) (e := 126) w #[.int .u16 32] 1 w.heap.size [32] rfl rfl (Nat.le_refl _) (by simp [maxLen])
  case round =>
    obtain ⟨m, hm1, hm, ho, hbw⟩ := hrel
    obtain ⟨av, cap, hv, _, _⟩ := ho.rd
    subst hv
    by_cases hlt : m < 4 - col % 4
    · have ht : (((col : Int) + (m : Int)) % 4 != 0) = true := by simp; omega
      go_wp2_with (at_builtin; refine wpList_append_own _ rfl _ _ 122 rfl w.heap.size 126 i0 (.int .u16 0) 1 2 Tryd.underlying122 hi hz0 hz1 hz2 rfl (by decide) _ _ _ rfl (World.ownsRow.alloc ho _) ⟨wr.heap.size, 0, none⟩ 1 1 [.int .u16 32] rfl rfl (cells_new wr #[.int .u16 32] 126) (ints_oneCell .u16 [32]) (by unfold maxLen; omega) (by omega) (by have := hbw.size; simp; omega) ?_)
      intro v' w3 ho4 hg4 _
      have lo := ho.lt
      have hb3 : Below w.heap.size w w3 := (hbw.alloc hbw.size _).grown hg4 (by have := hbw.size; simp; omega) (fun j hj => (lo j hj).1)
      have ho5 : Own .u16 126 w3 w.heap.size v' (m + 1) (List.replicate (m + 1) 32) := by
        unfold Own
        rw [List.replicate_succ', List.map_append, List.map_replicate]
        exact ho4
      clear ho4 hg4 ho hbw lo
      obtain ⟨av', cap', hv', _, _⟩ := ho5.rd
      subst hv'
      go_wp2
      go_roundw
      case rel => exact ⟨m + 1, by omega, by omega, ho5, hb3⟩
      case measure => simp [lenOf]; omega
    · have ht : (((col : Int) + (m : Int)) % 4 != 0) = false := by simp; omega
      have HM : Hid (m = 4 - col % 4) := (by omega : m = 4 - col % 4)
      have hm4 : m ≤ 4 := by omega
      clear hlt hm
      go_wp2
      go_ret
      exact ⟨_, rfl, HM.out ▸ ho, hbw⟩

set_option maxHeartbeats 800000 in
theorem shownAt_any (a : Option Addr) (n ca i col : Nat) (I C : Int) (hI : I = (i : Int)) (hC : C = (col : Int)) (xs : List Int) (w : World) (ha : Rd .u8 w a n xs) (hB : Bytes xs) (h1 : n ≤ 1073741824) (h2 : i < n) (h3 : col ≤ 1073741824) (hca : n ≤ ca) (hcm : ca ≤ maxLen) :
    Calls Tryd.prog 68 #[.slice a n ca, .int .i64 I, .int .i64 C] w fun e w' => ∃ v, e = .returned (.tuple #[v, .int .i64 (shownN xs i)]) ∧ Own .u16 126 w' w.heap.size v (shownL xs i col).length (shownL xs i col) ∧ Below w.heap.size w w' := by
  subst hI
  subst hC
  have D := implDecodeAt_any a n ca i xs w ha hB h1 hca hcm
  have dv : decVal xs i = .agg #[.int .i64 (if (dec xs i).2 = 0 then 5 else 0), .int .i64 (dec xs i).1, .int .i64 (dec xs i).2] := by
    have hr : 0 ≤ (i : Int) ∧ (i : Int) < (n : Int) := by omega
    unfold decVal decCode decChar decUsed
    rw [ha.1, if_pos hr, if_pos hr, if_pos hr, Int.toNat_natCast]
  rw [dv] at D
  clear dv
  have hbd := dec_bd hB i
  have hb := hB.at i
  obtain ⟨b, o, rfl, hc⟩ := ha.at h2
  have hci := hc i h2
  have hi' : (i : Int) < (n : Int) := by omega
  have HD : Hid _ := D
  by_cases q9 : xs.getD i 0 = 9
  · have e1 : shownL xs i col = List.replicate (4 - col % 4) 32 := by unfold shownL; rw [if_pos q9]
    have e2 : shownN xs i = 1 := by unfold shownN; rw [if_pos q9]
    rw [e1, e2]
    rw [q9] at hci
    clear e1 e2 D HD hbd hb hc q9 ha
    go_enter Tryd.func68, Tryd.ntmps68
    go_wp2_with fail
    refine (blanksToStop_any col _ h3).mono ?_
    rintro e w1 ⟨v, rfl, ho, hbw⟩
    go_wp2
    go_ret2
    exact ⟨_, rfl, by simpa using ho, hbw⟩
  · by_cases qc : xs.getD i 0 < 32 ∨ xs.getD i 0 = 127
    · have e1 : shownL xs i col = [94, if xs.getD i 0 = 127 then 63 else xs.getD i 0 + 64] := by unfold shownL; rw [if_neg q9, if_pos qc]
      have e2 : shownN xs i = 1 := by unfold shownN; rw [if_neg q9, if_pos qc]
      have e3 := xor64_u16 _ hb.1 hb.2 qc
      rw [e1, e2]
      clear e1 e2 D HD hbd hc ha
      generalize xs.getD i 0 = z at *
      have q9' : (z == 9) = false := by simpa using q9
      have qb : 0 ≤ (if z = 127 then (63 : Int) else z + 64) ∧ (if z = 127 then (63 : Int) else z + 64) ≤ 255 := by split <;> omega
      generalize (if z = 127 then (63 : Int) else z + 64) = u at *
      clear q9
      obtain ⟨hb1, hb2⟩ := hb
      obtain ⟨u1, u2⟩ := qb
      rcases qc with qc | rfl
      all_goals
        go_enter Tryd.func68, Tryd.ntmps68
        go_wp2
        go_ret2
        exact ⟨_, rfl, own_lit w #[.int .u16 94, .int .u16 u] 2 _ [94, u] rfl rfl (Nat.le_refl _) (by simp [maxLen]), (Below.refl _ _).alloc (Nat.le_refl _) _⟩
    · have e1 : shownL xs i col = if (dec xs i).2 = 0 then [60, hexd (xs.getD i 0 / 16), hexd (xs.getD i 0 % 16), 62] else [(dec xs i).1] := by unfold shownL; rw [if_neg q9, if_neg qc]
      have e2 : shownN xs i = if (dec xs i).2 = 0 then 1 else (dec xs i).2.toNat := by unfold shownN; rw [if_neg q9, if_neg qc]
      rw [e1, e2]
      clear e1 e2 hc ha D
      generalize xs.getD i 0 = z at *
      generalize dec xs i = d at *
      obtain ⟨c, u⟩ := d
      simp only at *
      obtain ⟨hb1, hb2⟩ := hb
      obtain ⟨b1, b2, b3, b4⟩ := hbd
      have q9' : (z == 9) = false := by simpa using q9
      have q127 : (z == 127) = false := by simp; omega
      have q32 : ¬ z < 32 := by omega
      clear q9 qc
      by_cases hu : u = 0
      · subst hu
        rw [if_pos rfl] at HD
        rw [if_pos rfl, if_pos rfl]
        have e15 := and15 z hb1 (by omega)
        go_enter Tryd.func68, Tryd.ntmps68
        go_wp2_with fail
        refine Calls.mono HD.out ?_
        rintro e w1 ⟨rfl, hbw⟩
        go_wp2_with fail
        refine (hexDigit_any (z / 16) _ (by omega) (by omega)).mono ?_
        rintro e w2 ⟨rfl, rfl⟩
        go_wp2_with fail
        refine (hexDigit_any (z % 16) _ (by omega) (by omega)).mono ?_
        rintro e w3 ⟨rfl, rfl⟩
        go_wp2
        go_ret2
        have ho := own_lit (k := .u16) (e := 126) (w1.alloc (.cells #[.int .i64 5, .int .i64 c, .int .i64 0] 134)) #[.int .u16 60, .int .u16 (hexd (z / 16)), .int .u16 (hexd (z % 16)), .int .u16 62] 4 w.heap.size [60, hexd (z / 16), hexd (z % 16), 62] rfl rfl (by have := hbw.size; simp; omega) (by simp [maxLen])
        rw [show (w1.alloc (.cells #[.int .i64 5, .int .i64 c, .int .i64 0] 134)).heap.size = w1.heap.size + 1 by simp] at ho
        exact ⟨.slice (some ⟨w1.heap.size + 1, 0, none⟩) 4 4, rfl, ho, (hbw.alloc hbw.size _).alloc (by have := hbw.size; simp; omega) _⟩
      · rw [if_neg hu] at HD
        rw [if_neg hu, if_neg hu]
        go_enter Tryd.func68, Tryd.ntmps68
        go_wp2_with fail
        refine Calls.mono HD.out ?_
        rintro e w1 ⟨rfl, hbw⟩
        go_wp2
        go_region
        all_goals
          go_wp2
          go_ret2
          have ho := own_lit (k := .u16) (e := 126) (w1.alloc (.cells #[.int .i64 0, .int .i64 c, .int .i64 u] 134)) #[.int .u16 c] 1 w.heap.size [c] rfl rfl (by have := hbw.size; simp; omega) (by simp [maxLen])
          rw [show (w1.alloc (.cells #[.int .i64 0, .int .i64 c, .int .i64 u] 134)).heap.size = w1.heap.size + 1 by simp] at ho
          refine ⟨.slice (some ⟨w1.heap.size + 1, 0, none⟩) 1 1, ?_, World.ownsRow.drew ho, ((hbw.alloc hbw.size _).alloc (by have := hbw.size; simp; omega) _).drew⟩
          rw [Int.toNat_of_nonneg b3]
          rfl
end Go.Proofs.YtjgmkcmlkffjlaaDoor
