/-
  Chapter 5: the program's withSlashes and wantsParentheses.
-/
import Derived.Test.YtjjapnggdfiinaaNode8a
namespace Go.Proofs.Ytjjapnggdfiinaa
open Go.RowKit
set_option linter.unusedVariables false
set_option linter.unusedSimpArgs false

theorem info8n : (Try.prog.info? 5).map (fun i => (i.zero, i.size, i.bytes)) = some (some (.int .u8 0), 1, 1) := by kernel_rfl

/-- What stands there so far, as integers. -/
def slI (signs s : ByteArray) (k : Nat) : List Int := (slL signs.data.toList (s.data.toList.take k)).map fun b => (b.toNat : Int)
theorem slI_len (signs s : ByteArray) (k : Nat) : (slI signs s k).length ≤ 2 * k := by
  rw [slI, List.length_map]
  have := slL_len signs.data.toList (s.data.toList.take k)
  simp at this
  omega
theorem slI_yes {signs s : ByteArray} {k : Nat} {B : Nat} (hk : k < s.size) (hB : (s.data.toList.getD k 0).toNat = B) (hi : inB signs B = true) : slI signs s (k + 1) = slI signs s k ++ [92] ++ [(B : Int)] := by
  unfold inB at hi
  rw [slI, slL_succ (by rw [Array.length_toList]; exact hk), hB, if_pos hi, List.map_append]
  simp only [List.map_cons, List.map_nil, hB, slI, List.append_assoc, List.cons_append, List.nil_append]
  try rfl
theorem slI_no {signs s : ByteArray} {k : Nat} {B : Nat} (hk : k < s.size) (hB : (s.data.toList.getD k 0).toNat = B) (hi : inB signs B = false) : slI signs s (k + 1) = slI signs s k ++ [(B : Int)] := by
  unfold inB at hi
  rw [slI, slL_succ (by rw [Array.length_toList]; exact hk), hB, if_neg (by rw [hi]; simp), List.map_append]
  simp only [List.map_cons, List.map_nil, hB, slI, List.append_assoc, List.cons_append, List.nil_append]
  try rfl
theorem slI_end {signs s : ByteArray} {k : Nat} (hk : k = s.size) : strOf (slI signs s k) = slash signs s := by
  rw [slI, strOf_map, slash, List.take_of_length_le (by rw [Array.length_toList, hk]; exact Nat.le_refl _)]

set_option maxHeartbeats 1600000 in
set_option maxRecDepth 20000 in
theorem withSlashes_any (s signs : ByteArray) (w : World) (hs : s.size ≤ 1048576) :
    Calls Try.prog 71 #[.string s, .string signs] w fun e w' => e = .returned (.string (slash signs s)) ∧ Below w.heap.size w w' := by
  obtain ⟨i0, hi0, hz0, hz1, hz2⟩ := info_parts info8n
  obtain ⟨cap, W, hconv, hrd, hW, hz, hcap⟩ := conv_bytes s w
  obtain ⟨R, hR⟩ : ∃ R, R = slash signs s := ⟨_, rfl⟩
  rw [← hR]
  have HR : Hid _ := hR
  have HRD : Hid (Rd .u8 W (some ⟨w.heap.size, 0, none⟩) s.size (sInts s)) := hrd
  clear hR hrd
  go_enter Try.func71, Try.ntmps71
  go_wp2
  go_loopw [5, 11] (fun x i wr => ∃ k : Nat, k ≤ s.size ∧ i = .int .i64 k ∧ Own .u8 5 wr W.heap.size x (slI signs s k).length (slI signs s k) ∧ Below W.heap.size W wr) (fun _ i _ => s.size - (intOf i).toNat)
  case atStart => exact ⟨0, Nat.zero_le _, rfl, by simpa [slI, slL] using Own.nil W W.heap.size, Below.refl _ _⟩
  case round =>
    obtain ⟨k, hk, rfl, ho, hbw⟩ := hrel
    have hbw0 : Below w.heap.size w wr := hW.trans (hbw.mono hW.size)
    have hll := slI_len signs s k
    obtain ⟨va, vc, hv, hrv, hvm⟩ := ho.rd
    subst hv
    by_cases hlt : k < s.size
    · have hlt' : (k : Int) < (s.size : Int) := by omega
      obtain ⟨b0, off, he, hc⟩ := Rd.at (HRD.out.below hbw) hlt
      obtain ⟨rfl, rfl⟩ : w.heap.size = b0 ∧ 0 = off := by simpa using he
      have hc := hc k hlt
      rw [sInts_at s k hlt, Nat.zero_add] at hc
      obtain ⟨B, hB⟩ : ∃ B : Nat, (s.data.toList.getD k 0).toNat = B := ⟨_, rfl⟩
      rw [hB] at hc
      have hB256 : B < 256 := by rw [← hB]; exact UInt8.toNat_lt _
      have CI := fun w' => strIndex_any signs B w'
      have hJ := index_in signs.data.toList B (by omega) (by omega)
      generalize Lib.indexByte signs.data.toList (B : Int).toNat.toUInt8 = J at CI hJ
      have HC : Hid _ := CI
      clear CI he
      obtain ⟨xs, hxs⟩ : ∃ xs, xs = slI signs s k := ⟨_, rfl⟩
      by_cases hin : inB signs B = true
      · have hJ0 : 0 ≤ J := by
          have h : decide (0 ≤ J) = true := hJ.trans hin
          simpa using h
        have HY : Hid _ := slI_yes hlt hB hin
        rw [← hxs] at ho hll HY hvm hrv ⊢
        clear hJ hin hB hrv hxs
        go_wp2_with fail
        refine (HC.out _).mono ?_
        rintro e w1 ⟨rfl, rfl⟩
        go_wp2_with (at_builtin; refine wpList_append_rd rfl _ _ 22 rfl .u8 W.heap.size 5 i0 1 Try.underlying22 hi0 hz0 hz1 hz2 _ _ xs rfl (World.ownsRow.alloc ho _) (some ⟨w1.heap.size, 0, none⟩) 1 1 [92] rfl (lit5_rd w1 [92] 1 rfl (by simp [maxLen])) (by unfold maxLen; simp; omega) (by simp; omega) (by have := hbw.size; simp; omega) ?_)
        intro v2 w2 ho2 hg2
        have hb2 : Below W.heap.size W w2 := (hbw.alloc hbw.size _).grown hg2 (by have := hbw.size; simp; omega) (fun j hj => (ho.lt j hj).1)
        obtain ⟨va2, vc2, hv2, _, _⟩ := ho2.rd
        subst hv2
        clear hg2 ho
        go_wp2_with (at_builtin; refine wpList_append_rd rfl _ _ 22 rfl .u8 W.heap.size 5 i0 1 Try.underlying22 hi0 hz0 hz1 hz2 _ _ (xs ++ [92]) rfl (World.ownsRow.alloc ho2 _) (some ⟨w2.heap.size, 0, none⟩) 1 1 [(B : Int)] rfl (lit5_rd w2 [(B : Int)] 1 rfl (by simp [maxLen])) (by unfold maxLen; simp; omega) (by simp; omega) (by have := hb2.size; simp; omega) ?_)
        intro v3 w3 ho3 hg3
        have hb3 : Below W.heap.size W w3 := (hb2.alloc hb2.size _).grown hg3 (by have := hb2.size; simp; omega) (fun j hj => (ho2.lt j hj).1)
        clear hg3 ho2 hb2
        go_wp2
        go_roundw
        case rel => exact ⟨k + 1, by omega, by go_num, by rw [HY.out]; simpa using ho3, hb3⟩
        case measure => simp [intOf]; omega
      · have hin : inB signs B = false := by simpa using hin
        have hJ0 : ¬ 0 ≤ J := by
          have h : decide (0 ≤ J) = false := hJ.trans hin
          simpa using h
        have HY : Hid _ := slI_no hlt hB hin
        rw [← hxs] at ho hll HY hvm hrv ⊢
        clear hJ hin hB hrv hxs
        go_wp2_with fail
        refine (HC.out _).mono ?_
        rintro e w1 ⟨rfl, rfl⟩
        go_wp2_with (at_builtin; refine wpList_append_rd rfl _ _ 22 rfl .u8 W.heap.size 5 i0 1 Try.underlying22 hi0 hz0 hz1 hz2 _ _ xs rfl (World.ownsRow.alloc ho _) (some ⟨w1.heap.size, 0, none⟩) 1 1 [(B : Int)] rfl (lit5_rd w1 [(B : Int)] 1 rfl (by simp [maxLen])) (by unfold maxLen; simp; omega) (by simp; omega) (by have := hbw.size; simp; omega) ?_)
        intro v3 w3 ho3 hg3
        have hb3 : Below W.heap.size W w3 := (hbw.alloc hbw.size _).grown hg3 (by have := hbw.size; simp; omega) (fun j hj => (ho.lt j hj).1)
        clear hg3 ho
        go_wp2
        go_roundw
        case rel => exact ⟨k + 1, by omega, by go_num, by rw [HY.out]; simpa using ho3, hb3⟩
        case measure => simp [intOf]; omega
    · have hcs := fun w' (h : Rd .u8 w' va (slI signs s k).length (slI signs s k)) => conv_str (P := Try.prog) (S := 22) (D := 9) (cap := vc) h Try.underlying22 Try.underlying5 Try.underlying9
      have hcs2 := hcs wr hrv
      rw [slI_end (by omega), ← HR.out] at hcs2
      clear hcs
      go_wp2
      go_ret
      exact ⟨rfl, hbw0⟩

set_option maxHeartbeats 1600000 in
set_option maxRecDepth 20000 in
theorem wantsPar_any (n : Nd) (kind : Int) (right : Bool) (w : World) (hk : 8 ≤ n.k ∧ n.k ≤ 12) :
    Calls Try.prog 89 #[.agg #[.int .i64 n.k, .int .i64 n.c, .string n.s, .int .i64 n.l, .int .i64 n.r], .int .i64 kind, .bool right] w fun e w' => e = .returned (.bool (wantsB n.k kind right)) ∧ Below w.heap.size w w' := by
  obtain ⟨k, c, s, l, r⟩ := n
  simp only at hk ⊢
  have B1 : ∀ o, Below w.heap.size w (w.alloc o) := fun o => (Below.refl _ _).alloc (Nat.le_refl _) o
  have hk5 : k = 8 ∨ k = 9 ∨ k = 10 ∨ k = 11 ∨ k = 12 := by omega
  by_cases e1 : kind = 1
  all_goals by_cases e11 : kind = 11
  all_goals by_cases e12 : kind = 12
  all_goals first
    | (exfalso; omega)
    | (have e1' : (kind == 1) = decide (kind = 1) := by by_cases h : kind = 1 <;> simp [h]
       have e11' : (kind == 11) = decide (kind = 11) := by by_cases h : kind = 11 <;> simp [h]
       have e12' : (kind == 12) = decide (kind = 12) := by by_cases h : kind = 12 <;> simp [h]
       simp only [e1, e11, e12] at e1' e11' e12'
       first | subst e1 | subst e11 | subst e12 | skip
       rcases hk5 with rfl | rfl | rfl | rfl | rfl
       all_goals
         go_enter Try.func89, Try.ntmps89
         go_wp2
         go_ret
         exact ⟨ret_bool (by simp [wantsB, *]), B1 _⟩)
end Go.Proofs.Ytjjapnggdfiinaa
