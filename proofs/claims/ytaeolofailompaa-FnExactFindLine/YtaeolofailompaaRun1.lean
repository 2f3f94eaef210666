/-
  Chapter 7: the specification's RunProg.
-/
import Derived.Test.YtaeolofailompaaRunM
import Derived.Test.YtaeolofailompaaSetD
import Derived.Test.YtaeolofailompaaProgA
import Derived.Test.YtaeolofailompaaMath2
namespace Go.Proofs.Ytaeolofailompaa
open Go.RowKit
set_option linter.unusedVariables false
set_option linter.unusedSimpArgs false

theorem bytes_at {xs : List Int} {k : Nat} (h : Bytes xs) (hk : k < xs.length) : 0 ≤ xs.getD k 0 ∧ xs.getD k 0 < 256 := by
  have := h _ (getD_mem' hk)
  omega

theorem own_one (w : World) (c : Int) (e : TypeId) : Own .i64 e (w.alloc (.cells #[.int .i64 c] e)) w.heap.size (.slice (some ⟨w.heap.size, 0, none⟩) 1 1) [c].length [c] :=
  own_lit w #[.int .i64 c] 1 w.heap.size [c] rfl rfl (Nat.le_refl _) (by simp [maxLen])

set_option maxHeartbeats 6400000 in
set_option maxRecDepth 20000 in
theorem l7Run_any (a : Option Addr) (n ca : Nat) (is : List In) (x : Option Addr) (m cx : Nat) (xs : List Int) (at_ : Nat) (hin : Inside is) (hs : inSum is ≤ 1048576) (h1 : 1 ≤ n) (h2 : n ≤ 80) (hm : m ≤ 400) (hat : at_ ≤ m) (hB : Bytes xs) (w : World) (ha : RdR inE 8 w a n is) (hx : Rd .u8 w x m xs) :
    Calls Try.prog 251 #[.slice a n ca, .slice x m cx, .int .i64 (at_ : Int)] w fun r w' => r = .returned (.int .i64 (runV is xs at_)) ∧ Below w.heap.size w w' := by
  obtain ⟨R, hR⟩ : ∃ R, R = runV is xs at_ := ⟨_, rfl⟩
  rw [← hR]
  have HLN : Hid _ := ha.1
  have HLX : Hid _ := hx.1
  have HBY : Hid _ := hB
  have h80 : Hid (is.length ≤ 80) := by have := ha.1; have h : is.length ≤ 80 := by omega
                                        exact h
  have HM0 : Hid (mid is xs (m - at_ + 1) (placesOf (closeS is (decide (at_ = 0)) (decide (at_ = xs.length)) [0])) at_ (-1) = R) := by
    have h : mid is xs (m - at_ + 1) (placesOf (closeS is (decide (at_ = 0)) (decide (at_ = xs.length)) [0])) at_ (-1) = R := by rw [hR]; unfold runV; rw [hx.1]
    exact h
  have hL0 : Hid (∀ p ∈ [(0 : Int)], 0 ≤ p ∧ p < (is.length : Int)) := by
    have h : ∀ p ∈ [(0 : Int)], 0 ≤ p ∧ p < (is.length : Int) := by intro p hp; have := ha.1; simp at hp; omega
    exact h
  have ho0 := own_one w 0 2
  have hb0 : Below w.heap.size w (w.alloc (.cells #[.int .i64 0] 2)) := (Below.refl _ _).alloc (Nat.le_refl _) _
  have HO0 : Hid _ := ho0
  clear hR hB ho0
  go_enter Try.func251, Try.ntmps251
  go_wp2
  go_loopw [7, 8, 9] (fun o v i wr => ∃ (k f : Nat) (L : List Int) (out : Int), i = .int .i64 k ∧ o = .int .i64 out ∧ at_ ≤ k ∧ k ≤ m ∧ Hid (f + k = m) ∧ L.length ≤ 80 ∧ Hid (∀ p ∈ L, 0 ≤ p ∧ p < (is.length : Int)) ∧ Hid (mid is xs (f + 1) (placesOf (closeS is (decide (k = 0)) (decide (k = xs.length)) L)) k out = R) ∧ Own .i64 2 wr w.heap.size v L.length L ∧ Below w.heap.size w wr) (fun _ _ i _ => m + 1 - (intOf i).toNat)
  case atStart => exact ⟨at_, m - at_, [0], -1, rfl, rfl, Nat.le_refl _, hat, (by omega : m - at_ + at_ = m), by simp, hL0, HM0, HO0.out, hb0⟩
  case round =>
    obtain ⟨k, f, L, out, rfl, rfl, hak, hkm, HFK, hLl, hL, HM, ho, hbw⟩ := hrel
    clear HM0 hL0 HO0 hb0
    obtain ⟨va, vc, hv, hrd, hvc, hvm⟩ := ho.rdc
    subst hv
    by_cases hL0 : L = []
    · subst hL0
      have hfin : out = R := by
        have := HM.out
        rw [close_nil, mid_nil] at this
        exact this
      clear HM
      subst hfin
      go_wp2
      go_ret
      exact ⟨rfl, hbw⟩
    have hpos : 0 < L.length := List.length_pos_iff.2 hL0
    have hpos' : (0 : Int) < (L.length : Int) := by omega
    obtain ⟨B, hB⟩ : ∃ B, B = decide (k = 0) := ⟨_, rfl⟩
    obtain ⟨E, hE⟩ : ∃ E, E = decide (k = xs.length) := ⟨_, rfl⟩
    have hB1 : ((k : Int) == 0) = B := by rw [hB, Bool.eq_iff_iff]; simp
    have hB2 : decide ((k : Int) = 0) = B := by rw [hB, decide_eq_decide]; omega
    have hE1 : ((k : Int) == (m : Int)) = E := by rw [hE, Bool.eq_iff_iff]; simp only [beq_iff_eq, decide_eq_true_eq]; have := HLX.out; omega
    have hE2 : decide ((k : Int) = (m : Int)) = E := by rw [hE, decide_eq_decide]; have := HLX.out; omega
    have hCN := close_ne hin h80.out B E hL.out hL0
    have hCM := close_more hin h80.out B E hL.out
    have HC : Hid _ := l7Close_any a n ca is va L.length vc L B E hin h1 h2 (by omega) (fun q hq => by have := hL.out q hq; have := HLN.out; omega) wr (ha.below hbw) hrd
    have hCl := placesOf_len (closeS is B E L)
    have hCl2 : (closeS is B E L).length = is.length := dfsAll_len (goes_of hin B E).2 is.length (Nat.le_refl _) h80.out (List.replicate is.length false) (by simp) L (fun p h => by have := hL.out p h; omega)
    have hM := HM.out
    rw [← hB, ← hE] at hM
    obtain ⟨C, hC⟩ : ∃ C, C = placesOf (closeS is B E L) := ⟨_, rfl⟩
    rw [← hC] at HC hM hCN hCM hCl
    have hCr : ∀ q ∈ C, 0 ≤ q ∧ q < (n : Int) := fun q hq => by have := hCM.2 q hq; have := HLN.out; omega
    have hC80 : C.length ≤ 80 := by have := h80.out; omega
    have HM2 : Hid _ := hM
    have HCN : Hid _ := hCN
    have HCR : Hid _ := hCr
    have HE : Hid _ := hE
    clear hM HM hCN hCM hCr hCl hCl2 hC hB hE hvc hvm
    go_wp2_with fail
    refine Calls.mono HC.out ?_
    rintro r w2 ⟨v2, rfl, ho2, hb2⟩
    obtain ⟨va2, vc2, hv2, hrd2, -, -⟩ := ho2.rdc
    subst hv2
    have hbw2 := hbw.trans (hb2.mono hbw.size)
    have HD : Hid _ := l7Done_any a n ca is va2 C.length vc2 C h2 (by omega) HCR.out w2 (ha.below hbw2) hrd2
    obtain ⟨D, hD⟩ : ∃ D, D = doneL is C := ⟨_, rfl⟩
    rw [← hD] at HD
    have HDD : Hid _ := hD
    clear hD
    go_wp2_with fail
    refine Calls.mono HD.out ?_
    rintro r w3 ⟨rfl, hb3⟩
    have hbw3 := hbw2.trans (hb3.mono hbw2.size)
    have hrd3 := hrd2.below hb3
    have hM := HM2.out
    clear hb2 hb3 HC HD ho2 ho hrd
    cases E
    · have hkn : k ≠ xs.length := by simpa using HE.out.symm
      have hkm' : k < m := by have := HLX.out; omega
      obtain ⟨f', rfl⟩ : ∃ f', f = f' + 1 := ⟨f - 1, by have := HFK.out; omega⟩
      rw [mid_go HCN.out hkn, ← HDD.out] at hM
      obtain ⟨bx, ox, rfl, hcx⟩ := (hx.below hbw3).at hkm'
      have ck := hcx k hkm'
      have hd := bytes_at HBY.out (show k < xs.length by have := HLX.out; omega)
      have HST : Hid _ := fun w' h h' => l7Step_any a n ca is va2 C.length vc2 C (xs.getD k 0) hd.1 hd.2 hin hs h1 h2 (by omega) HCR.out w' h h'
      have hsl := step_lt hin (d := xs.getD k 0) (L := C)
      have hl2 : (stepS is (xs.getD k 0) C).length = is.length := by unfold stepS; rw [stepFold_len]; simp
      have hl3 := placesOf_len (stepS is (xs.getD k 0) C)
      obtain ⟨L2, hL2⟩ : ∃ L2, L2 = placesOf (stepS is (xs.getD k 0) C) := ⟨_, rfl⟩
      rw [← hL2] at HST hM hsl hl3
      generalize xs.getD k 0 = d at ck HST hd
      have hL280 : L2.length ≤ 80 := by have := h80.out; omega
      have HSL : Hid _ := hsl
      have hkk : (k : Int) < (m : Int) := by omega
      have e0 : decide (k + 1 = 0) = false := by simp
      have HM3 : Hid (mid is xs (f' + 1) (placesOf (closeS is (decide (k + 1 = 0)) (decide (k + 1 = xs.length)) L2)) (k + 1) (if D = true then (k : Int) else out) = R) := by rw [e0]; exact hM
      clear hM HM2 hsl hl2 hl3 hL2 hcx HDD HE e0 HCN
      cases D
      · have HM4 : Hid (mid is xs (f' + 1) (placesOf (closeS is (decide (k + 1 = 0)) (decide (k + 1 = xs.length)) L2)) (k + 1) out = R) := HM3
        go_wp2_with fail
        refine (HST.out _ (ha.below hbw3) hrd3).mono ?_
        rintro r w4 ⟨v4, rfl, ho4, hb4⟩
        have HO4 : Hid (Own .i64 2 w4 w.heap.size v4 L2.length L2) := ho4.up hbw3.size
        have hbw4 := hbw3.trans (hb4.mono hbw3.size)
        clear ho4 hb4
        go_wp2
        go_roundw
        case rel => exact ⟨k + 1, f', L2, out, by go_num, rfl, by omega, by omega, (by have := HFK.out; omega : f' + (k + 1) = m), hL280, HSL, HM4, HO4.out, hbw4⟩
        case measure => simp [intOf]; omega
      · have HM4 : Hid (mid is xs (f' + 1) (placesOf (closeS is (decide (k + 1 = 0)) (decide (k + 1 = xs.length)) L2)) (k + 1) (k : Int) = R) := HM3
        go_wp2_with fail
        refine (HST.out _ (ha.below hbw3) hrd3).mono ?_
        rintro r w4 ⟨v4, rfl, ho4, hb4⟩
        have HO4 : Hid (Own .i64 2 w4 w.heap.size v4 L2.length L2) := ho4.up hbw3.size
        have hbw4 := hbw3.trans (hb4.mono hbw3.size)
        clear ho4 hb4
        go_wp2
        go_roundw
        case rel => exact ⟨k + 1, f', L2, (k : Int), by go_num, rfl, by omega, by omega, (by have := HFK.out; omega : f' + (k + 1) = m), hL280, HSL, HM4, HO4.out, hbw4⟩
        case measure => simp [intOf]; omega
    · have hkn : k = xs.length := by simpa using HE.out.symm
      rw [mid_end HCN.out hkn, ← HDD.out] at hM
      clear HM2 HDD HE HCN hkn
      cases D
      · have hfin : out = R := hM
        clear hM
        subst hfin
        go_wp2
        go_ret
        exact ⟨rfl, hbw3⟩
      · have hfin : (k : Int) = R := hM
        have HF : Hid _ := hfin
        clear hM hfin
        go_wp2
        go_ret
        exact ⟨ret_int HF.out, hbw3⟩

end Go.Proofs.Ytaeolofailompaa