/-
  A block of a file, read in parts: the specification's and the program's.
-/
import Derived.Test.YtckkkhabjfbngaaCache3
import Derived.Test.YtckkkhabjfbngaaFiles4
import Derived.Test.YtckkkhabjfbngaaText0
namespace Go.Proofs.Ytckkkhabjfbngaa
open Go.RowKit
set_option linter.unusedVariables false

/-- The bytes of a block. -/
def blkAt (xs : List Int) (num unit : Nat) : List Int := (xs.drop (num * unit)).take unit

/-- One part more. -/
theorem part_more (xs : List Int) (P k d : Nat) (ys : List Int) (hys : ys = (xs.drop (P + k)).take d) : (xs.drop P).take k ++ ys = (xs.drop P).take (k + d) := by
  subst hys
  rw [List.take_add, List.drop_drop]

theorem part_more' (xs : List Int) (P k d e : Nat) (h : ((xs.drop (P + k)).take d).length = e) : (xs.drop P).take k ++ (xs.drop (P + k)).take d = (xs.drop P).take (k + e) := by
  have : (xs.drop (P + k)).take d = (xs.drop (P + k)).take e := by
    rw [List.take_eq_take_iff]
    simp at h ⊢
    omega
  rw [this]
  exact part_more xs P k e _ rfl

theorem part_end (xs : List Int) (P k d U : Nat) (hd : 0 < d) (h : (xs.drop (P + k)).take d = []) (hk : k ≤ U) : (xs.drop P).take k = (xs.drop P).take U := by
  have hl : xs.length ≤ P + k := by
    have := congrArg List.length h
    simp at this
    omega
  rw [List.take_eq_take_iff]
  simp
  omega

set_option maxRecDepth 20000 in
set_option maxHeartbeats 1600000 in
theorem l3Load_any (b : Nat) (a : Option Addr) (n ca P U M : Nat) (xs : List Int) (w : World) (hc : w.cell? ⟨b, 0, none⟩ = some (.slice a n ca)) (ha : Rd .u8 w a n xs) (h1 : n ≤ 1073741824) (hca : n ≤ ca) (hcm : ca ≤ maxLen) (hU : U ≤ 64) (hP : P ≤ 1073741824) (hM1 : 1 ≤ M) (hM : M ≤ 400) :
    Calls Try.prog 93 #[.pointer (some ⟨b, 0, none⟩), .int .i64 P, .int .i64 U, .int .i64 M] w fun e w' => ∃ v, e = .returned v ∧ RowI .u8 5 w' w.heap.size w'.heap.size v ((xs.drop P).take U).length ((xs.drop P).take U) ∧ Below w.heap.size w w' := by
  obtain ⟨i0, hi, hz0, hz1, hz2⟩ := info_parts info8
  have ho := own_empty w w.heap.size (Nat.le_refl _)
  have hb0 := (Below.refl w.heap.size w).alloc (Nat.le_refl _) (.cells #[] 5)
  have HCM : Hid _ := hcm
  clear hcm
  go_enter Try.func93, Try.ntmps93
  go_wp2
  go_loopw [9] (fun x wr => ∃ k a1 c1, k ≤ U ∧ x = .slice a1 k c1 ∧ ((xs.drop P).take k).length = k ∧ Own .u8 5 wr w.heap.size (.slice a1 k c1) k ((xs.drop P).take k) ∧ Below w.heap.size w wr) (fun x _ => U - lenOf x)
  case atStart => exact ⟨0, _, _, Nat.zero_le _, rfl, by simp, by simpa using ho, hb0⟩
  case round =>
    obtain ⟨k, a1, c1, hk, rfl, hkl, hown, hbw⟩ := hrel
    by_cases hlt : k < U
    · have hlt' : (k : Int) < (U : Int) := by omega
      have hcw := cell_later hbw hc
      have HO : Hid (Own .u8 5 wr (w.heap.size) (.slice a1 k c1) k ((xs.drop P).take k)) := hown
      have HK : Hid _ := hkl
      clear hown hkl
      go_wp2_with fail
      have e1 : (U : Int) - (k : Int) = ((U - k : Nat) : Int) := by omega
      have e2 : (P : Int) + (k : Int) = ((P + k : Nat) : Int) := by omega
      rw [e1, e2]
      clear e1 e2
      refine (l2Part_any b a n ca (P + k) (U - k) M xs _ hcw (ha.below hbw) h1 hca HCM.out (by omega) hM).mono ?_
      rintro e w2 ⟨v2, rfl, hr2, hb2⟩
      obtain ⟨a2, c2, rfl, -⟩ := hr2.shape
      have hbw2 := hbw.trans (hb2.mono hbw.size)
      have HO2 : Hid (Own .u8 5 w2 (w.heap.size) (.slice a1 k c1) k ((xs.drop P).take k)) := Own.below HO.out hb2
      generalize hys : (xs.drop (P + k)).take (min (U - k) M) = ys at *
      have hyl : ys.length ≤ U - k := by rw [← hys]; simp; omega
      generalize hd : ys.length = d at *
      have HR : Hid (Rd .u8 w2 a2 d ys) := hr2.read
      clear hr2
      by_cases hd0 : d = 0
      · subst hd0
        have hyn : ys = [] := List.eq_nil_of_length_eq_zero hd
        rw [hyn] at hys
        have HE : Hid _ := part_end xs P k _ U (by omega) hys hk
        clear hys hyn hd hyl
        go_wp2
        go_ret
        refine ⟨_, rfl, ?_, hbw2⟩
        rw [← HE.out, HK.out]
        exact RowI.of HO2.out
      · have hd0' : ¬ (d : Int) = 0 := by omega
        go_wp2_with (at_builtin; refine wpList_append_rd rfl _ _ 22 rfl .u8 w.heap.size 5 i0 1 Try.underlying22 hi hz0 hz1 hz2 _ k _ rfl HO2.out a2 d c2 ys rfl HR.out (by unfold maxLen; omega) (by omega) hbw2.size ?_)
        intro v' w3 ho3 hg3
        have hm := part_more' xs P k (min (U - k) M) d (by rw [hys, hd])
        rw [hys] at hm
        rw [hm] at ho3
        have hl3 := ho3.len
        obtain ⟨a3, c3, rfl, -⟩ := ho3.rdc
        have hbw3 : Below w.heap.size w w3 := hbw2.grown hg3 hbw2.size (fun j hj => (Own.lt HO2.out j hj).1)
        have HO3 : Hid _ := ho3
        have HL3 : Hid _ := hl3
        clear ho3 hl3 hg3
        go_wp2
        go_roundw
        case rel => exact ⟨k + d, a3, c3, by omega, rfl, HL3.out, HO3.out, hbw3⟩
        case measure => simp [lenOf]; omega
    · obtain rfl : k = U := by omega
      go_wp2
      go_ret
      refine ⟨_, rfl, ?_, hbw⟩
      rw [hkl]
      exact RowI.of hown

theorem fldBR1 (x y : Value) (w : World) : (Instr.field 38 (.agg #[x, y]) 1).run Try.prog w = .ok y w := by kernel_rfl

theorem rp_is (xs : List Int) (P k U M : Nat) (hx : xs.length ≤ 400) (hk : k ≤ U) (hU : U ≤ 64) (hM1 : 1 ≤ M) (hM : M ≤ 400) : rpRes xs ((P : Int) + k) ((P : Int) + U - ((P : Int) + k)) M = (xs.drop (P + k)).take (min (U - k) M) := by
  unfold rpRes rpCode
  rw [if_pos (by rw [if_neg (by omega), if_neg (by omega)])]
  congr 1
  · omega

set_option maxRecDepth 20000 in
set_option maxHeartbeats 1600000 in
theorem readFrom_any (a : Option Addr) (n ca num U M : Nat) (xs : List Int) (w : World) (ha : Rd .u8 w a n xs) (h1 : n ≤ 400) (hca : n ≤ ca) (hcm : ca ≤ maxLen) (hU : U ≤ 64) (hnum : num ≤ 1000000) (hM1 : 1 ≤ M) (hM : M ≤ 400) :
    Calls Try.prog 58 #[.agg #[.int .i64 U, .int .i64 num], .agg #[.slice a n ca], .int .i64 M] w fun e w' => ∃ v, e = .returned v ∧ RowI .u8 5 w' w.heap.size w'.heap.size v (blkAt xs num U).length (blkAt xs num U) ∧ Below w.heap.size w w' := by
  obtain ⟨i0, hi, hz0, hz1, hz2⟩ := info_parts info8
  have hlen := ha.1
  have hmul : num * U ≤ 64000000 := Nat.mul_le_mul hnum hU
  have hmul2 : (num + 1) * U = num * U + U := by rw [Nat.add_mul, Nat.one_mul]
  have w1 : IntKind.i64.wrap ((num : Int) * (U : Int)) = ((num * U : Nat) : Int) := by
    rw [IntKind.wrap_i64] <;> rw [← Int.natCast_mul] <;> omega
  have w2 : IntKind.i64.wrap (((num : Int) + 1) * (U : Int)) = ((num * U : Nat) : Int) + (U : Int) := by
    have e : ((num : Int) + 1) * (U : Int) = ((num * U : Nat) : Int) + (U : Int) := by
      rw [Int.add_mul, Int.one_mul, Int.natCast_mul]
    rw [e, IntKind.wrap_i64] <;> omega
  unfold blkAt
  generalize num * U = P at *
  have HCM : Hid _ := hcm
  clear hcm
  go_enter Try.func58, Try.ntmps58
  go_wp2
  go_quiet (fail)
  clear w1 w2 hmul2
  go_wp2
  go_loopw [7, 8] (fun x y wr => ∃ k a1 c1, k ≤ U ∧ x = .slice a1 k c1 ∧ y = .int .i64 ((P : Int) + (k : Int)) ∧ ((xs.drop P).take k).length = k ∧ Own .u8 5 wr (w.heap.size + 1 + 1) (.slice a1 k c1) k ((xs.drop P).take k) ∧ wr.cell? ⟨w.heap.size + 1, 0, none⟩ = some (.slice a n ca) ∧ w.heap.size + 1 + 1 ≤ wr.heap.size ∧ Below w.heap.size w wr) (fun x _ _ => U - lenOf x)
  case atStart => exact ⟨0, none, 0, Nat.zero_le _, rfl, by simp, by simp, by simpa using Own.nil _ _, by simp [go_sem], by simp, below_drewN (((Below.refl _ _).alloc (Nat.le_refl _) _).alloc (by simp) _) nq⟩
  case round =>
    obtain ⟨k, a1, c1, hk, rfl, rfl, hkl, hown, hcf, hsz, hbw⟩ := hrel
    by_cases hlt : k < U
    · have hlt' : (P : Int) + (k : Int) < (P : Int) + (U : Int) := by omega
      have HO : Hid (Own .u8 5 wr (w.heap.size + 1 + 1) (.slice a1 k c1) k ((xs.drop P).take k)) := hown
      have HK : Hid _ := hkl
      clear hown hkl
      go_wp2_with fail
      refine (implReadPart_any a n ca ((P : Int) + (k : Int)) ((P : Int) + (U : Int) - ((P : Int) + (k : Int))) (M : Int) xs _ (ha.below hbw) (by omega) hca HCM.out).mono ?_
      rw [rp_is xs P k U M (by omega) (by omega) hU hM1 hM]
      rintro e w2 ⟨v2, rfl, hr2, hb2⟩
      obtain ⟨a2, c2, rfl, -⟩ := hr2.shape
      have hbw2 := hbw.trans (hb2.mono hbw.size)
      have HO2 : Hid (Own .u8 5 w2 (w.heap.size + 1 + 1) (.slice a1 k c1) k ((xs.drop P).take k)) := Own.below HO.out hb2
      have hcf2 := cell_later hb2 hcf
      have hsz2 := Nat.le_trans hsz hb2.size
      have fb := fun x y => fldBR1 x y w2
      generalize hys : (xs.drop (P + k)).take (min (U - k) M) = ys at *
      have hyl : ys.length ≤ U - k := by rw [← hys]; simp; omega
      generalize hd : ys.length = d at *
      have HR : Hid (Rd .u8 w2 a2 d ys) := hr2.read
      clear hr2
      by_cases hd0 : d = 0
      · subst hd0
        have hyn : ys = [] := List.eq_nil_of_length_eq_zero hd
        rw [hyn] at hys
        have HE : Hid _ := part_end xs P k _ U (by omega) hys hk
        clear hys hyn hd hyl
        go_wp2
        go_ret
        refine ⟨_, rfl, ?_, hbw2⟩
        rw [← HE.out, HK.out]
        exact (RowI.of HO2.out).mono (by omega) (Nat.le_refl _)
      · have hd0' : ¬ (d : Int) = 0 := by omega
        go_wp2_with (at_builtin; refine wpList_append_rd rfl _ _ 22 rfl .u8 (w.heap.size + 1 + 1) 5 i0 1 Try.underlying22 hi hz0 hz1 hz2 _ k _ rfl HO2.out a2 d c2 ys rfl HR.out (by unfold maxLen; omega) (by omega) hsz2 ?_)
        intro v' w3 ho3 hg3
        have hm := part_more' xs P k (min (U - k) M) d (by rw [hys, hd])
        rw [hys] at hm
        rw [hm] at ho3
        have hl3 := ho3.len
        obtain ⟨a3, c3, rfl, -⟩ := ho3.rdc
        have hbw3 : Below w.heap.size w w3 := hbw2.grown hg3 hbw2.size (fun j hj => by have := (Own.lt HO2.out j hj).1; omega)
        have hcf3 : w3.cell? ⟨w.heap.size + 1, 0, none⟩ = some (.slice a n ca) := grown_cell hg3 hcf2 (fun j hj => by have := (Own.lt HO2.out j hj).1; simp only; omega)
        have hsz3 := Nat.le_trans hsz2 hg3.size
        have HO3 : Hid _ := ho3
        have HL3 : Hid _ := hl3
        clear ho3 hl3 hg3
        go_wp2
        go_roundw
        case rel => exact ⟨k + d, a3, c3, by omega, rfl, by go_num, HL3.out, HO3.out, hcf3, hsz3, hbw3⟩
        case measure => simp [lenOf]; omega
    · obtain rfl : k = U := by omega
      go_wp2
      go_ret
      refine ⟨_, rfl, ?_, hbw⟩
      rw [hkl]
      exact (RowI.of hown).mono (by omega) (Nat.le_refl _)
end Go.Proofs.Ytckkkhabjfbngaa
