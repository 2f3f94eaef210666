/-
  Chapter 7: the program's sets: list.
-/
import Derived.Test.YtoggkcgldckekaaSetM
import Derived.Test.YtoggkcgldckekaaProg1
import Derived.Test.YtoggkcgldckekaaAppend
import Derived.Test.YtoggkcgldckekaaBox
import Derived.Deep.WholeRow
namespace Go.Proofs.Ytoggkcgldckekaa
open Go.RowKit
set_option linter.unusedVariables false
set_option linter.unusedSimpArgs false

theorem under80 : Try.prog.underlying 86 = some (.array 80 4) := by kernel_rfl
theorem info80 : (Try.prog.info? 86).map (fun i => (i.zero, i.size)) = some (some (.agg (List.replicate 80 (Value.bool false)).toArray), 80) := by kernel_rfl

theorem size80 {cs : Array Value} (h : cs.size = 80) : (Try.prog.info? 86).map (·.size) = some cs.size := by
  rw [h]
  exact (zero_of_info info80).2

/-- An element of an array by value. -/
theorem index80 {A : Array Value} {k : Nat} {b : Bool} (h : A[k]? = some (.bool b)) (hk : k < 80) (w : World) :
    (Instr.index 86 (.agg A) (.int .i64 (k : Int))).run Try.prog w = .ok (.bool b) w := by
  have hn : 0 ≤ (k : Int) ∧ (k : Int) < 80 := by omega
  have hz := Try.sizeOf4
  have ha := Try.isAgg4
  simp [Instr.index, run_underlying under80, asIntOf, part, hz, ha, h, hn]
  intro h80
  omega

set_option maxHeartbeats 1600000 in
set_option maxRecDepth 20000 in
theorem list_any (A : Array Value) (bs : List Bool) (hA : A = boolsA bs) (hl : bs.length = 80) (w : World) :
    Calls Try.prog 56 #[.agg A] w fun e w' => ∃ v, e = .returned v ∧ Own .i64 2 w' w.heap.size v (placesOf bs).length (placesOf bs) ∧ Below w.heap.size w w' := by
  have HZ : Hid (A.size = 80) := by rw [hA, boolsA_size, hl]; exact (rfl : 80 = 80)
  have HA : Hid _ := hA
  have HL : Hid _ := hl
  clear hA hl
  go_enter Try.func56, Try.ntmps56
  go_wp2_with ((with_reducible show wpList _ _ _ (({ dst := _, op := .load 86 _, type := _, pos := _, after := _, guard := _ } : Oper) :: _) _ _); refine wpList_load_row rfl 86 _ rfl _ rfl 86 A (0, 0) _ (Blk.new _ _ _) under80 rfl (size80 HZ.out) ?_)
  have hb0 : Below w.heap.size w (w.alloc (.cells A 86)) := (Below.refl _ _).alloc (Nat.le_refl _) _
  obtain ⟨i0, hi, hz0, hz1, hz2⟩ := info_parts info64n
  go_loopw [3, 7] (fun x i wr => ∃ k : Nat, k ≤ 80 ∧ i = .int .i64 k ∧ Own .i64 2 wr (w.heap.size + 1) x (placesTo bs k).length (placesTo bs k) ∧ Below w.heap.size w wr ∧ w.heap.size + 1 ≤ wr.heap.size) (fun _ i _ => 80 - (intOf i).toNat)
  case atStart => exact ⟨0, Nat.zero_le _, rfl, Own.nil _ _, hb0, by simp⟩
  case round =>
    obtain ⟨k, hk, rfl, ho, hbw, hzw⟩ := hrel
    clear hb0
    by_cases hlt : k < 80
    · have hlt' : (k : Int) < 80 := by omega
      have hAk := boolsA_at bs k (by rw [HL.out]; exact hlt)
      rw [← HA.out] at hAk
      have hlen := placesTo_len bs k
      cases hbk : bs.getD k false
      · have hno := placesTo_no hbk
        rw [← hno] at ho
        rw [hbk] at hAk
        have hix := index80 hAk hlt
        have HO : Hid _ := ho
        clear ho hno hbk hlen
        go_wp2
        go_roundw
        case rel => exact ⟨k + 1, by omega, by go_num, HO, hbw, hzw⟩
        case measure => simp [intOf]; omega
      · have hyes := placesTo_yes hbk
        rw [hbk] at hAk
        have hix := index80 hAk hlt
        have HY : Hid _ := hyes
        obtain ⟨va, vc, hv, hrd, hvm⟩ := ho.rd
        subst hv
        have lo := ho.lt
        clear hyes hbk
        go_wp2_with (at_builtin; refine wpList_append_rd rfl _ _ 25 rfl .i64 (w.heap.size + 1) 2 i0 8 Try.underlying25 hi hz0 hz1 hz2 _ _ (placesTo bs k) rfl (World.ownsRow.alloc ho _) (some ⟨wr.heap.size, 0, none⟩) 1 1 [(k : Int)] rfl (lit5_rd wr [(k : Int)] 1 rfl (by simp [maxLen])) (by simp [maxLen]; omega) (by omega) (by simp; omega) ?_)
        intro v5 w5 ho5 hg5
        have hb5 : Below w.heap.size w w5 := (hbw.alloc hbw.size _).grown hg5 (by simp; omega) (fun j hj => by have := (lo j hj).1; omega)
        have hz5 : w.heap.size + 1 ≤ w5.heap.size := by have := hg5.size; simp at this; omega
        have hln : (placesTo bs k).length + 1 = (placesTo bs (k + 1)).length := by rw [HY.out]; simp
        rw [← HY.out, hln] at ho5
        have HO5 : Hid _ := ho5
        clear ho5 hln ho hg5 lo hrd hvm hlen
        go_wp2
        go_roundw
        case rel => exact ⟨k + 1, by omega, by go_num, HO5, hb5, hz5⟩
        case measure => simp [intOf]; omega
    · go_wp2
      go_ret
      obtain rfl : k = 80 := by omega
      have e : placesOf bs = placesTo bs 80 := by unfold placesOf; rw [HL.out]
      refine ⟨_, rfl, ?_, hbw⟩
      rw [e]
      exact ho.up (by omega)
end Go.Proofs.Ytoggkcgldckekaa
