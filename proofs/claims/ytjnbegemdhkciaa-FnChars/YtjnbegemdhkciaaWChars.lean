/-
  The walk of FnChars.
-/
import Derived.Test.YtjnbegemdhkciaaDraw3
import Derived.Test.YtjnbegemdhkciaaMathE
import Derived.Test.YtjnbegemdhkciaaEnc
import Derived.Test.YtjnbegemdhkciaaDec3
import Derived.Deep.RegionWith
import Derived.Deep.RegionHeld3
namespace Go.Proofs.Ytjnbegemdhkciaa.fnChars
open Go.RowKit
set_option linter.unusedVariables false
set_option linter.unusedSimpArgs false

/-- A piece of what is read. -/
theorem sub_rd {k : IntKind} {w : World} {g n i z : Nat} {ys : List Int} (h : Rd k w (some ⟨g, 0, none⟩) n ys) (hz : i + z ≤ n) : Rd k w (some ⟨g, i, none⟩) z ((ys.drop i).take z) := by
  refine ⟨by rw [List.length_take, List.length_drop, h.1]; omega, ?_⟩
  by_cases h0 : z = 0
  · exact .inl h0
  · refine .inr ⟨g, i, rfl, fun j hj => ?_⟩
    obtain ⟨g', o', hgo, hc⟩ := h.at (show i + j < n by omega)
    simp only [Option.some.injEq, Addr.mk.injEq, and_true] at hgo
    obtain ⟨rfl, rfl⟩ := hgo
    have := hc (i + j) (by omega)
    rw [Nat.zero_add] at this
    rw [this]
    simp [List.getD_eq_getElem?_getD, hj]

theorem fld0 (x y z : Value) (w : World) : (Instr.field 27 (.agg #[x, y, z]) 0).run Try.prog w = .ok x w := by kernel_rfl
theorem fldB0 (x y : Value) (w : World) : (Instr.field 31 (.agg #[x, y]) 0).run Try.prog w = .ok x w := by kernel_rfl
theorem fldB1 (x y : Value) (w : World) : (Instr.field 31 (.agg #[x, y]) 1).run Try.prog w = .ok y w := by kernel_rfl

set_option maxRecDepth 10000 in
set_option maxHeartbeats 1600000 in
theorem walk (a : Option Addr) (n ca : Nat) (xs : List Int) (w : World) (ha : Rd .u8 w a n xs) (hB : Bytes xs) (hm : n ≤ maxLen) :
    Calls Try.prog 3 #[.slice a n ca] w fun e w' => e = .returned (.bool true) ∧ Below w.heap.size w w' := by
  unfold maxLen at hm
  obtain ⟨i0, hi, hz0, hz1, hz2⟩ := info_parts info8d
  by_cases hn : n ≤ 1048576
  · go_enter Try.func3, Try.ntmps3
    go_wp2_with (go_at_call 11; go_in)
    refine (DrawDecodeAt_any a n ca xs _ ha hB hn).mono ?_
    rintro e w1 ⟨v1, ys, I, rfl, ho1, hl1, hl2, hyb, i1, i2, hb1⟩
    obtain ⟨ay, cy, hv1, hr1, hc1, hm1⟩ := ho1.rdc
    subst hv1
    have C := implDecodeAt_any ay ys.length cy I ys _ hr1 hyb (by omega) hc1 hm1
    have HC : Hid _ := C
    have HCY : Hid _ := hc1
    have HMY : Hid _ := hm1
    clear C hc1 hm1
    go_wp2_with fail
    refine Calls.mono HC.out ?_
    rintro e w2 ⟨rfl, hb2⟩
    have ho2 := ho1.below hb2
    have hb02 := hb1.trans (hb2.mono hb1.size)
    clear HC hr1 ho1 hb1 hb2
    unfold decVal
    by_cases hcode : decCode ys I = 0
    · have hin : 0 ≤ I ∧ I < ys.length := by
        by_cases h : 0 ≤ I ∧ I < ys.length
        · exact h
        · unfold decCode at hcode; rw [if_neg h] at hcode; simp at hcode
      obtain ⟨i, rfl⟩ := Int.eq_ofNat_of_zero_le hin.1
      have hu : ¬ (dec ys i).2 = 0 := by
        intro h
        unfold decCode at hcode; rw [if_pos hin, Int.toNat_natCast, if_pos h] at hcode; simp at hcode
      have ey : decChar ys i = (dec ys i).1 := by unfold decChar; rw [if_pos hin, Int.toNat_natCast]
      have ez : decUsed ys i = (dec ys i).2 := by unfold decUsed; rw [if_pos hin, Int.toNat_natCast]
      have hed := enc_dec hyb (show i < ys.length by omega) hu
      have hbd := dec_bd hyb i
      have hdi := dec_in (xs := ys) (i := i) (by omega)
      have hch := dec_isCh (xs := ys) (i := i) hyb hu
      have SP := fun w' h => specDecodeAt_any ay ys.length cy i ys w' h hyb (by omega)
      unfold decVal at SP
      rw [hcode, ey, ez] at SP
      rw [hcode, ey, ez]
      clear hcode ey ez
      generalize dec ys i = d at *
      obtain ⟨y, z⟩ := d
      simp only at *
      obtain ⟨d1, d2, d3, d4⟩ := hbd
      have EC := fun w' => implEncodeChar_any y w'
      have eb : encBytes y = (ys.drop i).take z.toNat := by unfold encBytes; rw [if_pos hch, hed]
      have ec : encCode y = 0 := by unfold encCode; rw [if_pos hch]
      rw [eb, ec] at EC
      have HSP : Hid _ := SP
      have HEC : Hid _ := EC
      clear SP EC eb ec hed hch
      have z1 : decide (z < 1) = false := by simp; omega
      have z2 : decide ((ys.length : Int) < (i : Int) + z) = false := by simp; omega
      have z3 : ¬ z < 1 := by omega
      have z4 : ¬ (ys.length : Int) < (i : Int) + z := by omega
      have hf0 := fld0 (.int .i64 0) (.int .i64 y) (.int .i64 z)
      have hfB := fldB1
      obtain ⟨gy, capy, hvy, _⟩ := ho2.addr (by omega)
      obtain ⟨rfl, rfl⟩ : ay = some ⟨gy, 0, none⟩ ∧ cy = capy := by simpa using hvy
      clear hvy
      obtain ⟨zn, rfl⟩ := Int.eq_ofNat_of_zero_le d3
      have hEl : ((ys.drop i).take zn).length = zn := by rw [List.length_take, List.length_drop]; omega
      have EC2 := HEC.out
      simp only [Int.toNat_natCast, hEl] at EC2
      have HEC2 : Hid _ := EC2
      clear EC2 hEl
      have hwr : IntKind.i64.wrap ((i : Int) + (zn : Int)) = (i : Int) + (zn : Int) := by rw [IntKind.wrap_i64]; omega
      have hcyl := HCY.out
      have hsl1 : 0 ≤ (i : Int) + (zn : Int) ∧ (i : Int) + (zn : Int) ≤ (cy : Int) := by omega
      have hsl2 : ((i : Int) + (zn : Int)).toNat = i + zn := by omega
      have hsl3 : ¬ cy = i := by omega
      go_wp2_with fail
      have b23 : Below w2.heap.size w2 (w2.alloc (.cells #[.int .i64 0, .int .i64 y, .int .i64 (zn : Int)] 27)).drew := ((Below.refl _ _).alloc (Nat.le_refl _) _).drew
      refine wp_region_held_drew (S := fun w' => w'.cell? ⟨w2.heap.size, 0, none⟩ = some (.int .i64 0) ∧ w'.cell? ⟨w2.heap.size, 1, none⟩ = some (.int .i64 y) ∧ w'.cell? ⟨w2.heap.size, 2, none⟩ = some (.int .i64 (zn : Int))) (by kernel_rfl) (by simp [go_sem]) (fun hS => ?_)
      refine wpAnyH_take (i := 0) (v := (.pointer (some ⟨w2.heap.size, 0, none⟩))) rfl (by kernel_rfl) (by kernel_rfl) (by kernel_rfl) (fun _ _ _ h => h) (Or.inl ⟨by rfl, ?_⟩) hS ?_
      · intro w hSw; (try dsimp only at hSw); go_simp
      simp only [Act.put, List.getElem_toArray, List.getElem_cons_zero, List.getElem_cons_succ, List.setIfInBounds_toArray, List.set_cons_zero, List.set_cons_succ]
      refine wpAnyH_take (i := 2) (v := (.slice (some ⟨gy, 0, none⟩) ys.length cy)) rfl (by kernel_rfl) (by kernel_rfl) (by kernel_rfl) (fun _ _ _ h => h) (Or.inl ⟨by rfl, ?_⟩) hS ?_
      · intro w hSw; (try dsimp only at hSw); go_simp
      simp only [Act.put, List.getElem_toArray, List.getElem_cons_zero, List.getElem_cons_succ, List.setIfInBounds_toArray, List.set_cons_zero, List.set_cons_succ]
      refine wpAnyH_take (i := 3) (v := (.int .i64 (i : Int))) rfl (by kernel_rfl) (by kernel_rfl) (by kernel_rfl) (fun _ _ _ h => h) (Or.inl ⟨by rfl, ?_⟩) hS ?_
      · intro w hSw; (try dsimp only at hSw); go_simp
      simp only [Act.put, List.getElem_toArray, List.getElem_cons_zero, List.getElem_cons_succ, List.setIfInBounds_toArray, List.set_cons_zero, List.set_cons_succ]
      refine wpAnyH_take (i := 1) (v := (.int .i64 0)) rfl (by kernel_rfl) (by kernel_rfl) (by kernel_rfl) (fun _ _ _ h => h) (Or.inl ⟨by rfl, ?_⟩) hS ?_
      · intro w hSw; (try dsimp only at hSw); go_simp
      simp only [Act.put, List.getElem_toArray, List.getElem_cons_zero, List.getElem_cons_succ, List.setIfInBounds_toArray, List.set_cons_zero, List.set_cons_succ]
      refine wpAnyH_ready (rs := [4]) (by kernel_rfl) (by simp) ?_
      refine AllReadyH.cons rfl (fun K hK => ?_) AllReadyH.nil
      go_simp
      refine Calls.mono (HSP.out _ (Own.read (ho2.below b23))) ?_
      rintro e w3 ⟨rfl, hb3⟩
      refine hK.out _ _ ⟨(hb3.cell (p := ⟨w2.heap.size, 0, none⟩) (by simp)).trans (by simp), (hb3.cell (p := ⟨w2.heap.size, 1, none⟩) (by simp)).trans (by simp), (hb3.cell (p := ⟨w2.heap.size, 2, none⟩) (by simp)).trans (by simp)⟩ (fun hS => ?_)
      clear hK K
      have hz3 : w2.heap.size < w3.heap.size := by have := hb3.size; simp at this; omega
      refine wpAnyH_take (i := 5) (v := (.int .i64 0)) rfl (by kernel_rfl) (by kernel_rfl) (by kernel_rfl) (fun _ _ _ h => h) (Or.inl ⟨by rfl, ?_⟩) hS ?_
      · intro w hSw; (try dsimp only at hSw); go_simp
      simp only [Act.put, List.getElem_toArray, List.getElem_cons_zero, List.getElem_cons_succ, List.setIfInBounds_toArray, List.set_cons_zero, List.set_cons_succ]
      refine wpAnyH_take (i := 6) (v := (.bool false)) rfl (by kernel_rfl) (by kernel_rfl) (by kernel_rfl) (fun _ _ _ h => h) (Or.inl ⟨by rfl, ?_⟩) hS ?_
      · intro w hSw; (try dsimp only at hSw); go_simp
      simp only [Act.put, List.getElem_toArray, List.getElem_cons_zero, List.getElem_cons_succ, List.setIfInBounds_toArray, List.set_cons_zero, List.set_cons_succ]
      refine wpAnyH_take (i := 7) (v := (.bool false)) rfl (by kernel_rfl) (by kernel_rfl) (by kernel_rfl) (fun _ _ _ h => h) (Or.inl ⟨by rfl, ?_⟩) hS ?_
      · intro w hSw; (try dsimp only at hSw); go_simp
      simp only [Act.put, List.getElem_toArray, List.getElem_cons_zero, List.getElem_cons_succ, List.setIfInBounds_toArray, List.set_cons_zero, List.set_cons_succ]
      refine wpAnyH_take (i := 8) (v := (.pointer (some ⟨w2.heap.size, 0, none⟩))) rfl (by kernel_rfl) (by kernel_rfl) (by kernel_rfl) (fun _ _ _ h => h) (Or.inl ⟨by rfl, ?_⟩) hS ?_
      · intro w hSw; (try dsimp only at hSw); go_simp
      simp only [Act.put, List.getElem_toArray, List.getElem_cons_zero, List.getElem_cons_succ, List.setIfInBounds_toArray, List.set_cons_zero, List.set_cons_succ]
      refine wpAnyH_take (i := 9) (v := (.int .i64 0)) rfl (by kernel_rfl) (by kernel_rfl) (by kernel_rfl) (fun _ _ _ h => h) (Or.inl ⟨by rfl, ?_⟩) hS ?_
      · intro w hSw; (try dsimp only at hSw); go_simp
      simp only [Act.put, List.getElem_toArray, List.getElem_cons_zero, List.getElem_cons_succ, List.setIfInBounds_toArray, List.set_cons_zero, List.set_cons_succ]
      refine wpAnyH_take (i := 10) (v := (.bool true)) rfl (by kernel_rfl) (by kernel_rfl) (by kernel_rfl) (fun _ _ _ h => h) (Or.inl ⟨by rfl, ?_⟩) hS ?_
      · intro w hSw; (try dsimp only at hSw); go_simp
      simp only [Act.put, List.getElem_toArray, List.getElem_cons_zero, List.getElem_cons_succ, List.setIfInBounds_toArray, List.set_cons_zero, List.set_cons_succ]
      refine wpAnyH_take (i := 11) (v := (.bool true)) rfl (by kernel_rfl) (by kernel_rfl) (by kernel_rfl) (fun _ _ _ h => h) (Or.inl ⟨by rfl, ?_⟩) hS ?_
      · intro w hSw; (try dsimp only at hSw); go_simp
      simp only [Act.put, List.getElem_toArray, List.getElem_cons_zero, List.getElem_cons_succ, List.setIfInBounds_toArray, List.set_cons_zero, List.set_cons_succ]
      refine wpAnyH_take (i := 12) (v := (.pointer (some ⟨w2.heap.size, 2, none⟩))) rfl (by kernel_rfl) (by kernel_rfl) (by kernel_rfl) (fun _ _ _ h => h) (Or.inl ⟨by rfl, ?_⟩) hS ?_
      · intro w hSw; (try dsimp only at hSw); go_simp
      simp only [Act.put, List.getElem_toArray, List.getElem_cons_zero, List.getElem_cons_succ, List.setIfInBounds_toArray, List.set_cons_zero, List.set_cons_succ]
      refine wpAnyH_take (i := 13) (v := (.int .i64 (zn : Int))) rfl (by kernel_rfl) (by kernel_rfl) (by kernel_rfl) (fun _ _ _ h => h) (Or.inl ⟨by rfl, ?_⟩) hS ?_
      · intro w hSw; (try dsimp only at hSw); go_simp
      simp only [Act.put, List.getElem_toArray, List.getElem_cons_zero, List.getElem_cons_succ, List.setIfInBounds_toArray, List.set_cons_zero, List.set_cons_succ]
      refine wpAnyH_take (i := 14) (v := (.bool false)) rfl (by kernel_rfl) (by kernel_rfl) (by kernel_rfl) (fun _ _ _ h => h) (Or.inl ⟨by rfl, ?_⟩) hS ?_
      · intro w hSw; (try dsimp only at hSw); go_simp
      simp only [Act.put, List.getElem_toArray, List.getElem_cons_zero, List.getElem_cons_succ, List.setIfInBounds_toArray, List.set_cons_zero, List.set_cons_succ]
      refine wpAnyH_take (i := 15) (v := (.bool false)) rfl (by kernel_rfl) (by kernel_rfl) (by kernel_rfl) (fun _ _ _ h => h) (Or.inl ⟨by rfl, ?_⟩) hS ?_
      · intro w hSw; (try dsimp only at hSw); go_simp
      simp only [Act.put, List.getElem_toArray, List.getElem_cons_zero, List.getElem_cons_succ, List.setIfInBounds_toArray, List.set_cons_zero, List.set_cons_succ]
      refine wpAnyH_take (i := 16) (v := (.int .i64 (i : Int))) rfl (by kernel_rfl) (by kernel_rfl) (by kernel_rfl) (fun _ _ _ h => h) (Or.inl ⟨by rfl, ?_⟩) hS ?_
      · intro w hSw; (try dsimp only at hSw); go_simp
      simp only [Act.put, List.getElem_toArray, List.getElem_cons_zero, List.getElem_cons_succ, List.setIfInBounds_toArray, List.set_cons_zero, List.set_cons_succ]
      refine wpAnyH_take (i := 17) (v := (.pointer (some ⟨w2.heap.size, 2, none⟩))) rfl (by kernel_rfl) (by kernel_rfl) (by kernel_rfl) (fun _ _ _ h => h) (Or.inl ⟨by rfl, ?_⟩) hS ?_
      · intro w hSw; (try dsimp only at hSw); go_simp
      simp only [Act.put, List.getElem_toArray, List.getElem_cons_zero, List.getElem_cons_succ, List.setIfInBounds_toArray, List.set_cons_zero, List.set_cons_succ]
      refine wpAnyH_take (i := 18) (v := (.int .i64 (zn : Int))) rfl (by kernel_rfl) (by kernel_rfl) (by kernel_rfl) (fun _ _ _ h => h) (Or.inl ⟨by rfl, ?_⟩) hS ?_
      · intro w hSw; (try dsimp only at hSw); go_simp
      simp only [Act.put, List.getElem_toArray, List.getElem_cons_zero, List.getElem_cons_succ, List.setIfInBounds_toArray, List.set_cons_zero, List.set_cons_succ]
      refine wpAnyH_take (i := 19) (v := (.int .i64 ((i : Int) + (zn : Int)))) rfl (by kernel_rfl) (by kernel_rfl) (by kernel_rfl) (fun _ _ _ h => h) (Or.inl ⟨by rfl, ?_⟩) hS ?_
      · intro w hSw; (try dsimp only at hSw); go_simp
      simp only [Act.put, List.getElem_toArray, List.getElem_cons_zero, List.getElem_cons_succ, List.setIfInBounds_toArray, List.set_cons_zero, List.set_cons_succ]
      refine wpAnyH_take (i := 20) (v := (.slice (some ⟨gy, 0, none⟩) ys.length cy)) rfl (by kernel_rfl) (by kernel_rfl) (by kernel_rfl) (fun _ _ _ h => h) (Or.inl ⟨by rfl, ?_⟩) hS ?_
      · intro w hSw; (try dsimp only at hSw); go_simp
      simp only [Act.put, List.getElem_toArray, List.getElem_cons_zero, List.getElem_cons_succ, List.setIfInBounds_toArray, List.set_cons_zero, List.set_cons_succ]
      refine wpAnyH_take (i := 21) (v := (.int .i64 (ys.length : Int))) rfl (by kernel_rfl) (by kernel_rfl) (by kernel_rfl) (fun _ _ _ h => h) (Or.inl ⟨by rfl, ?_⟩) hS ?_
      · intro w hSw; (try dsimp only at hSw); go_simp
      simp only [Act.put, List.getElem_toArray, List.getElem_cons_zero, List.getElem_cons_succ, List.setIfInBounds_toArray, List.set_cons_zero, List.set_cons_succ]
      refine wpAnyH_take (i := 22) (v := (.bool false)) rfl (by kernel_rfl) (by kernel_rfl) (by kernel_rfl) (fun _ _ _ h => h) (Or.inl ⟨by rfl, ?_⟩) hS ?_
      · intro w hSw; (try dsimp only at hSw); go_simp
      simp only [Act.put, List.getElem_toArray, List.getElem_cons_zero, List.getElem_cons_succ, List.setIfInBounds_toArray, List.set_cons_zero, List.set_cons_succ]
      refine wpAnyH_take (i := 23) (v := (.bool false)) rfl (by kernel_rfl) (by kernel_rfl) (by kernel_rfl) (fun _ _ _ h => h) (Or.inl ⟨by rfl, ?_⟩) hS ?_
      · intro w hSw; (try dsimp only at hSw); go_simp
      simp only [Act.put, List.getElem_toArray, List.getElem_cons_zero, List.getElem_cons_succ, List.setIfInBounds_toArray, List.set_cons_zero, List.set_cons_succ]
      refine wpAnyH_take (i := 24) (v := (.bool false)) rfl (by kernel_rfl) (by kernel_rfl) (by kernel_rfl) (fun _ _ _ h => h) (Or.inl ⟨by rfl, ?_⟩) hS ?_
      · intro w hSw; (try dsimp only at hSw); go_simp
      simp only [Act.put, List.getElem_toArray, List.getElem_cons_zero, List.getElem_cons_succ, List.setIfInBounds_toArray, List.set_cons_zero, List.set_cons_succ]
      refine wpAnyH_take (i := 25) (v := (.pointer (some ⟨w2.heap.size, 1, none⟩))) rfl (by kernel_rfl) (by kernel_rfl) (by kernel_rfl) (fun _ _ _ h => h) (Or.inl ⟨by rfl, ?_⟩) hS ?_
      · intro w hSw; (try dsimp only at hSw); go_simp
      simp only [Act.put, List.getElem_toArray, List.getElem_cons_zero, List.getElem_cons_succ, List.setIfInBounds_toArray, List.set_cons_zero, List.set_cons_succ]
      refine wpAnyH_take (i := 26) (v := (.int .i64 y)) rfl (by kernel_rfl) (by kernel_rfl) (by kernel_rfl) (fun _ _ _ h => h) (Or.inl ⟨by rfl, ?_⟩) hS ?_
      · intro w hSw; (try dsimp only at hSw); go_simp
      simp only [Act.put, List.getElem_toArray, List.getElem_cons_zero, List.getElem_cons_succ, List.setIfInBounds_toArray, List.set_cons_zero, List.set_cons_succ]
      refine wpAnyH_take (i := 29) (v := (.slice (some ⟨gy, 0, none⟩) ys.length cy)) rfl (by kernel_rfl) (by kernel_rfl) (by kernel_rfl) (fun _ _ _ h => h) (Or.inl ⟨by rfl, ?_⟩) hS ?_
      · intro w hSw; (try dsimp only at hSw); go_simp
      simp only [Act.put, List.getElem_toArray, List.getElem_cons_zero, List.getElem_cons_succ, List.setIfInBounds_toArray, List.set_cons_zero, List.set_cons_succ]
      refine wpAnyH_take (i := 30) (v := (.int .i64 (i : Int))) rfl (by kernel_rfl) (by kernel_rfl) (by kernel_rfl) (fun _ _ _ h => h) (Or.inl ⟨by rfl, ?_⟩) hS ?_
      · intro w hSw; (try dsimp only at hSw); go_simp
      simp only [Act.put, List.getElem_toArray, List.getElem_cons_zero, List.getElem_cons_succ, List.setIfInBounds_toArray, List.set_cons_zero, List.set_cons_succ]
      refine wpAnyH_take (i := 31) (v := (.int .i64 (i : Int))) rfl (by kernel_rfl) (by kernel_rfl) (by kernel_rfl) (fun _ _ _ h => h) (Or.inl ⟨by rfl, ?_⟩) hS ?_
      · intro w hSw; (try dsimp only at hSw); go_simp
      simp only [Act.put, List.getElem_toArray, List.getElem_cons_zero, List.getElem_cons_succ, List.setIfInBounds_toArray, List.set_cons_zero, List.set_cons_succ]
      refine wpAnyH_take (i := 32) (v := (.pointer (some ⟨w2.heap.size, 2, none⟩))) rfl (by kernel_rfl) (by kernel_rfl) (by kernel_rfl) (fun _ _ _ h => h) (Or.inl ⟨by rfl, ?_⟩) hS ?_
      · intro w hSw; (try dsimp only at hSw); go_simp
      simp only [Act.put, List.getElem_toArray, List.getElem_cons_zero, List.getElem_cons_succ, List.setIfInBounds_toArray, List.set_cons_zero, List.set_cons_succ]
      refine wpAnyH_take (i := 33) (v := (.int .i64 (zn : Int))) rfl (by kernel_rfl) (by kernel_rfl) (by kernel_rfl) (fun _ _ _ h => h) (Or.inl ⟨by rfl, ?_⟩) hS ?_
      · intro w hSw; (try dsimp only at hSw); go_simp
      simp only [Act.put, List.getElem_toArray, List.getElem_cons_zero, List.getElem_cons_succ, List.setIfInBounds_toArray, List.set_cons_zero, List.set_cons_succ]
      refine wpAnyH_take (i := 34) (v := (.int .i64 ((i : Int) + (zn : Int)))) rfl (by kernel_rfl) (by kernel_rfl) (by kernel_rfl) (fun _ _ _ h => h) (Or.inl ⟨by rfl, ?_⟩) hS ?_
      · intro w hSw; (try dsimp only at hSw); go_simp
      simp only [Act.put, List.getElem_toArray, List.getElem_cons_zero, List.getElem_cons_succ, List.setIfInBounds_toArray, List.set_cons_zero, List.set_cons_succ]
      refine wpAnyH_take (i := 35) (v := (.slice (some ⟨gy, i, none⟩) zn (cy - i))) rfl (by kernel_rfl) (by kernel_rfl) (by kernel_rfl) (fun _ _ _ h => h) (Or.inl ⟨by rfl, ?_⟩) hS ?_
      · intro w hSw; (try dsimp only at hSw); go_simp
      simp only [Act.put, List.getElem_toArray, List.getElem_cons_zero, List.getElem_cons_succ, List.setIfInBounds_toArray, List.set_cons_zero, List.set_cons_succ]
      refine wpAnyH_ready (rs := [27]) (by kernel_rfl) (by simp) ?_
      refine AllReadyH.cons rfl (fun K hK => ?_) AllReadyH.nil
      go_simp
      refine Calls.mono (HEC2.out _) ?_
      rintro e w4 ⟨v4, rfl, hoE, hbE⟩
      obtain ⟨aE, capE, hvE, hrE, _⟩ := hoE.rd
      subst hvE
      refine hK.out _ _ ⟨cell_later hbE hS.1, cell_later hbE hS.2.1, cell_later hbE hS.2.2⟩ (fun hS => ?_)
      clear hK K
      refine wpAnyH_take (i := 28) (v := (.slice aE zn capE)) rfl (by kernel_rfl) (by kernel_rfl) (by kernel_rfl) (fun _ _ _ h => h) (Or.inl ⟨by rfl, ?_⟩) hS ?_
      · intro w hSw; (try dsimp only at hSw); go_simp
      simp only [Act.put, List.getElem_toArray, List.getElem_cons_zero, List.getElem_cons_succ, List.setIfInBounds_toArray, List.set_cons_zero, List.set_cons_succ]
      refine wpAnyH_ready (rs := [36]) (by kernel_rfl) (by simp) ?_
      refine AllReadyH.cons rfl (fun K hK => ?_) AllReadyH.nil
      go_simp
      have hoD := ((ho2.below b23).below hb3).below hbE
      have hrD : Rd .u8 w4 (some ⟨gy, i, none⟩) zn ((ys.drop i).take zn) := sub_rd (Own.read hoD) (by omega)
      refine (lwSame_yes aE (some ⟨gy, i, none⟩) zn capE (cy - i) _ _ hrE hrD).mono ?_
      rintro e w5 ⟨rfl, rfl⟩
      refine hK.out _ _ hS (fun hS => ?_)
      clear hK K
      refine wpAnyH_take (i := 37) (v := (.bool false)) rfl (by kernel_rfl) (by kernel_rfl) (by kernel_rfl) (fun _ _ _ h => h) (Or.inl ⟨by rfl, ?_⟩) hS ?_
      · intro w hSw; (try dsimp only at hSw); go_simp
      simp only [Act.put, List.getElem_toArray, List.getElem_cons_zero, List.getElem_cons_succ, List.setIfInBounds_toArray, List.set_cons_zero, List.set_cons_succ]
      refine wpAnyH_take (i := 38) (v := (.bool false)) rfl (by kernel_rfl) (by kernel_rfl) (by kernel_rfl) (fun _ _ _ h => h) (Or.inl ⟨by rfl, ?_⟩) hS ?_
      · intro w hSw; (try dsimp only at hSw); go_simp
      simp only [Act.put, List.getElem_toArray, List.getElem_cons_zero, List.getElem_cons_succ, List.setIfInBounds_toArray, List.set_cons_zero, List.set_cons_succ]
      refine wpAnyH_take (i := 39) (v := (.bool false)) rfl (by kernel_rfl) (by kernel_rfl) (by kernel_rfl) (fun _ _ _ h => h) (Or.inl ⟨by rfl, ?_⟩) hS ?_
      · intro w hSw; (try dsimp only at hSw); go_simp
      simp only [Act.put, List.getElem_toArray, List.getElem_cons_zero, List.getElem_cons_succ, List.setIfInBounds_toArray, List.set_cons_zero, List.set_cons_succ]
      refine wpAnyH_take (i := 40) (v := (.bool false)) rfl (by kernel_rfl) (by kernel_rfl) (by kernel_rfl) (fun _ _ _ h => h) (Or.inl ⟨by rfl, ?_⟩) hS ?_
      · intro w hSw; (try dsimp only at hSw); go_simp
      simp only [Act.put, List.getElem_toArray, List.getElem_cons_zero, List.getElem_cons_succ, List.setIfInBounds_toArray, List.set_cons_zero, List.set_cons_succ]
      refine wpAnyH_done (by kernel_rfl) ?_ _
      have ho3 := hoD
      have hb03 : Below w.heap.size w w5 := ((hb02.trans (b23.mono hb02.size)).trans (hb3.mono (Nat.le_trans hb02.size b23.size))).trans (hbE.mono (by have := hb02.size; omega))
      clear hS hb3 hbE hoE hrE hrD hoD b23 HSP HEC HEC2 ho2 hb02 hf0 hfB z1 z2 z3 z4 hwr hcyl hsl1 hsl2 hsl3 hu hdi d1 d2 d3 d4
      obtain ⟨ay, hay⟩ : ∃ ay, ay = some (⟨gy, 0, none⟩ : Addr) := ⟨_, rfl⟩
      rw [← hay] at ho3 ⊢
      clear hay
      go_wp2_with fail
      refine (DrawEncodeChar_any a n ca xs _ (ha.below hb03) hB hn).mono ?_
      rintro e w4 ⟨c, rfl, hb4⟩
      have ho4 := ho3.below hb4
      have hb04 := hb03.trans (hb4.mono hb03.size)
      clear hb4 ho3 hb03
      go_wp2_with fail
      have EC := implEncodeChar_any c w4
      have EL := encBytes_len c
      by_cases hch : isCh c = true
      · have e1 : encBytes c = enc c := by rw [encBytes, if_pos hch]
        have e2 : encCode c = 0 := by rw [encCode, if_pos hch]
        rw [e1, e2] at EC
        rw [e1] at EL
        have EL1 := (enc_len c).1
        have hcb := isCh_yes hch
        have hde := dec_enc c hch ys
        have heb := enc_bytes hcb.1 hcb.2
        have HEC : Hid _ := EC
        have HDE : Hid _ := hde
        clear EC e1 e2 hde
        generalize enc c = es at *
        refine Calls.mono HEC.out ?_
        rintro e w5 ⟨v5, rfl, ho5, hb5⟩
        obtain ⟨g5, cap5, hv5, hcells5⟩ := ho5.addr (by omega)
        subst hv5
        have ho45 := ho4.below hb5
        have hb05 := hb04.trans (hb5.mono hb04.size)
        obtain ⟨gy, capy, hvy, hcellsy⟩ := ho45.addr (by omega)
        obtain ⟨rfl, rfl⟩ : ay = some ⟨gy, 0, none⟩ ∧ cy = capy := by simpa using hvy
        clear hvy hb5 hb04 ho4
        have hz5 := hb05.size
        obtain ⟨O5, hO5⟩ : ∃ O5, O5 = Obj.cells #[.int .i64 0, .slice (some ⟨g5, 0, none⟩) es.length cap5] 31 := ⟨_, rfl⟩
        have gr5 : w5.grownBy ((w5.alloc O5).alloc (.cells #[] 5)) none := grown_trans (World.grownBy_alloc _ _ _) (World.grownBy_alloc _ _ _)
        have hcells5' : ∀ j u, (es.map (Value.int .u8))[j]? = some u → ((w5.alloc O5).alloc (.cells #[] 5)).cell? ((⟨g5, 0, none⟩ : Addr).add j) = some u := fun j u hu => grown_cell gr5 (hcells5 j u hu) (by simp)
        have hcellsy' : ∀ j u, (ys.map (Value.int .u8))[j]? = some u → ((w5.alloc O5).alloc (.cells #[] 5)).cell? ((⟨gy, 0, none⟩ : Addr).add j) = some u := fun j u hu => grown_cell gr5 (hcellsy j u hu) (by simp)
        have lit := own_lit (k := .u8) (e := 5) (w5.alloc O5) #[] 0 (w5.heap.size + 1) [] rfl rfl (by simp) (by simp [maxLen])
        rw [show (w5.alloc O5).heap.size = w5.heap.size + 1 by simp] at lit
        subst hO5
        have y5 := World.block_lt_of_cell? _ _ (hcellsy 0 (.int .u8 (ys.getD 0 0)) (by rw [List.getElem?_map, List.getElem?_eq_getElem (show 0 < ys.length by omega), List.getD_eq_getElem?_getD, List.getElem?_eq_getElem (show 0 < ys.length by omega)]; rfl))
        simp [Addr.add] at y5
        clear hcells5 hcellsy
        go_wp2_with (at_builtin; refine wpList_append_own _ rfl _ _ 22 rfl (w5.heap.size + 1) 5 i0 (.int .u8 0) 1 1 Try.underlying22 hi hz0 hz1 hz2 rfl (by decide) _ _ _ rfl lit ⟨g5, 0, none⟩ es.length cap5 (es.map (Value.int .u8)) rfl (by simp) hcells5' (ints_oneCell .u8 _) (by unfold maxLen; simp; omega) (by simp; omega) (by simp) ?_)
        intro v6 w6 ho6 hg6 _
        have hk6 : Own .u8 5 w6 (w5.heap.size + 1) v6 es.length es := by simpa [Own] using ho6
        have hcy6 : ∀ j u, (ys.map (Value.int .u8))[j]? = some u → w6.cell? ((⟨gy, 0, none⟩ : Addr).add j) = some u := fun j u hu => grown_cell hg6 (hcellsy' j u hu) (fun k hk => by rw [Addr.add_lit]; simp [Value.ownBlock] at hk; simp; omega)
        have b6 : Below (w5.heap.size + 1) (w5.alloc (.cells #[.int .i64 0, .slice (some ⟨g5, 0, none⟩) es.length cap5] 31)) w6 := ((Below.refl _ _).alloc (by simp) _).grown hg6 (by simp) (fun k hk => by simp [Value.ownBlock] at hk; omega)
        have l6 := hk6.lt
        obtain ⟨av6, cap6, hv6, _⟩ := hk6.rd
        subst hv6
        have hz6 : w5.heap.size + 1 ≤ w6.heap.size := by have := b6.size; simpa using this
        clear ho6 hg6 hcellsy' hcells5' lit gr5
        go_wp2_with (at_builtin; refine wpList_append_own _ rfl _ _ 22 rfl (w5.heap.size + 1) 5 i0 (.int .u8 0) 1 1 Try.underlying22 hi hz0 hz1 hz2 rfl (by decide) _ _ _ rfl hk6 ⟨gy, 0, none⟩ ys.length cy (ys.map (Value.int .u8)) rfl (by simp) hcy6 (ints_oneCell .u8 _) (by unfold maxLen; omega) (by omega) (by omega) ?_)
        intro v7 w7 ho7 hg7 _
        have hk7 : Own .u8 5 w7 (w5.heap.size + 1) v7 (es ++ ys).length (es ++ ys) := by
          unfold Own
          rw [List.map_append, List.length_append]
          exact ho7
        have b7 := b6.grown hg7 hz6 (fun k hk => (l6 k hk).1)
        have hz7 : w5.heap.size + 1 ≤ w7.heap.size := by have := b7.size; simpa using this
        have hb07 : Below w.heap.size w w7 := (hb05.alloc hb05.size _).trans (b7.mono (by omega))
        have hbb : Bytes (es ++ ys) := heb.append hyb
        have hll : (es ++ ys).length ≤ 19 := by rw [List.length_append]; omega
        obtain ⟨a7, cap7, hv7, hr7, hc7, hm7⟩ := hk7.rdc
        subst hv7
        have D := implDecodeAt_any a7 (es ++ ys).length cap7 0 (es ++ ys) _ hr7 hbb (by omega) hc7 hm7
        have hin : (0 : Int) ≤ 0 ∧ (0 : Int) < (es ++ ys).length := ⟨by omega, by rw [List.length_append]; omega⟩
        have dv : decVal (es ++ ys) 0 = .agg #[.int .i64 0, .int .i64 c, .int .i64 es.length] := by
          unfold decVal decCode decChar decUsed
          rw [if_pos hin, if_pos hin, if_pos hin, show (0 : Int).toNat = 0 from rfl, HDE.out]
          simp only
          rw [if_neg (by omega)]
        rw [dv] at D
        have HD : Hid _ := D
        have s0 : w7.cell? ⟨w5.heap.size, 0, none⟩ = some (.int .i64 0) := (b7.cell (p := ⟨w5.heap.size, 0, none⟩) (by simp)).trans (by simp)
        have s1 : w7.cell? ⟨w5.heap.size, 1, none⟩ = some (.slice (some ⟨g5, 0, none⟩) es.length cap5) := (b7.cell (p := ⟨w5.heap.size, 1, none⟩) (by simp)).trans (by simp)
        clear D dv hin hc7 hm7 hr7 ho7 hg7 hk6 hcy6 l6 b6 b7 hk7 HDE HEC
        rw [List.length_append] at *
        go_wp2_with fail
        refine Calls.mono HD.out ?_
        rintro e w8 ⟨rfl, hb8⟩
        have t0 := cell_later hb8 s0
        have t1 := cell_later hb8 s1
        have z8 : w5.heap.size < w8.heap.size := by have := hb8.size; omega
        have hb08 : Below w.heap.size w w8 := hb07.trans (hb8.mono hb07.size)
        clear hb8 s0 s1 hb07 HD
        go_wp2
        go_ret
        exact ⟨ret_bool (by simp; omega), hb08.alloc hb08.size _⟩
      · have e1 : encBytes c = [] := by rw [encBytes, if_neg hch]
        have e2 : encCode c = 3 := by rw [encCode, if_neg hch]
        have SE := fun w' => specEncodeChar_any c w'
        rw [e1, e2] at EC
        rw [e2] at SE
        have HEC : Hid _ := EC
        have HSE : Hid _ := SE
        clear EC SE e1 e2 EL hch
        refine Calls.mono HEC.out ?_
        rintro e w5 ⟨v5, rfl, ho5, hb5⟩
        obtain ⟨av5, cap5, hv5, _⟩ := ho5.rd
        subst hv5
        have hb05 := hb04.trans (hb5.mono hb04.size)
        have hfb := fun v w' => fldB0 (.int .i64 3) v w'
        clear hb5 hb04 ho4 ho5 HEC
        have k5 : ∀ o, (w5.alloc o).drew.heap.size = w5.heap.size + 1 := fun o => by simp
        go_wp2_with fail
        go_region_with (go_at_call 18; refine Calls.mono (HSE.out _) ?_; rintro e w6 ⟨v6, rfl, ho6, hb6⟩; have c60 : w6.cell? ⟨w5.heap.size, 0, none⟩ = some (.int .i64 3) := (hb6.cell (p := ⟨w5.heap.size, 0, none⟩) (by simp)).trans (by simp))
        all_goals
          go_wp2
          go_ret
          exact ⟨ret_bool (by simp), (hb05.alloc hb05.size _).drew.trans (hb6.mono (by have := hb05.size; simp; omega))⟩
    · have hx : decCode ys I = 3 ∨ decCode ys I = 5 := by
        unfold decCode at hcode ⊢
        split
        · split
          · exact .inr rfl
          · rename_i h1 h2; rw [if_pos h1, if_neg h2] at hcode; simp at hcode
        · exact .inl rfl
      have SP := fun w' h => specDecodeAt_any ay ys.length cy I ys w' h hyb (by omega)
      unfold decVal at SP
      clear hcode
      generalize decCode ys I = x at *
      generalize decChar ys I = y at *
      generalize decUsed ys I = z at *
      have HSP : Hid _ := SP
      clear SP
      have b23 : ∀ q, Below w2.heap.size w2 ((w2.alloc (.cells #[.int .i64 x, .int .i64 y, .int .i64 z] 27)).drewN q) := fun q => below_drewN ((Below.refl _ _).alloc (Nat.le_refl _) _) q
      have hfd := fld0 (.int .i64 x) (.int .i64 y) (.int .i64 z)
      rcases hx with rfl | rfl
      · go_wp2_with fail
        refine wp_region_held_drew (S := fun w' => w'.cell? ⟨w2.heap.size, 0, none⟩ = some (.int .i64 3)) (by kernel_rfl) (by simp [go_sem]) (fun hS => ?_)
        refine wpAnyH_take (i := 0) (v := (.pointer (some ⟨w2.heap.size, 0, none⟩))) rfl (by kernel_rfl) (by kernel_rfl) (by kernel_rfl) (fun _ _ _ h => h) (Or.inl ⟨by rfl, ?_⟩) hS ?_
        · intro w hSw; (try dsimp only at hSw); go_simp
        simp only [Act.put, List.getElem_toArray, List.getElem_cons_zero, List.getElem_cons_succ, List.setIfInBounds_toArray, List.set_cons_zero, List.set_cons_succ]
        refine wpAnyH_take (i := 2) (v := (.slice ay ys.length cy)) rfl (by kernel_rfl) (by kernel_rfl) (by kernel_rfl) (fun _ _ _ h => h) (Or.inl ⟨by rfl, ?_⟩) hS ?_
        · intro w hSw; (try dsimp only at hSw); go_simp
        simp only [Act.put, List.getElem_toArray, List.getElem_cons_zero, List.getElem_cons_succ, List.setIfInBounds_toArray, List.set_cons_zero, List.set_cons_succ]
        refine wpAnyH_take (i := 3) (v := (.int .i64 I)) rfl (by kernel_rfl) (by kernel_rfl) (by kernel_rfl) (fun _ _ _ h => h) (Or.inl ⟨by rfl, ?_⟩) hS ?_
        · intro w hSw; (try dsimp only at hSw); go_simp
        simp only [Act.put, List.getElem_toArray, List.getElem_cons_zero, List.getElem_cons_succ, List.setIfInBounds_toArray, List.set_cons_zero, List.set_cons_succ]
        refine wpAnyH_take (i := 1) (v := (.int .i64 3)) rfl (by kernel_rfl) (by kernel_rfl) (by kernel_rfl) (fun _ _ _ h => h) (Or.inl ⟨by rfl, ?_⟩) hS ?_
        · intro w hSw; (try dsimp only at hSw); go_simp
        simp only [Act.put, List.getElem_toArray, List.getElem_cons_zero, List.getElem_cons_succ, List.setIfInBounds_toArray, List.set_cons_zero, List.set_cons_succ]
        refine wpAnyH_ready (rs := [4]) (by kernel_rfl) (by simp) ?_
        refine AllReadyH.cons rfl (fun K hK => ?_) AllReadyH.nil
        go_simp
        refine Calls.mono (HSP.out _ (Own.read (ho2.below (b23 1)))) ?_
        rintro e w3 ⟨rfl, hb3⟩
        have c30 : w3.cell? ⟨w2.heap.size, 0, none⟩ = some (.int .i64 3) := (hb3.cell (p := ⟨w2.heap.size, 0, none⟩) (by simp)).trans (by simp)
        refine hK.out _ _ c30 (fun hS => ?_)
        clear hK K
        refine wpAnyH_take (i := 5) (v := (.int .i64 3)) rfl (by kernel_rfl) (by kernel_rfl) (by kernel_rfl) (fun _ _ _ h => h) (Or.inl ⟨by rfl, ?_⟩) hS ?_
        · intro w hSw; (try dsimp only at hSw); go_simp
        simp only [Act.put, List.getElem_toArray, List.getElem_cons_zero, List.getElem_cons_succ, List.setIfInBounds_toArray, List.set_cons_zero, List.set_cons_succ]
        refine wpAnyH_take (i := 6) (v := (.bool false)) rfl (by kernel_rfl) (by kernel_rfl) (by kernel_rfl) (fun _ _ _ h => h) (Or.inl ⟨by rfl, ?_⟩) hS ?_
        · intro w hSw; (try dsimp only at hSw); go_simp
        simp only [Act.put, List.getElem_toArray, List.getElem_cons_zero, List.getElem_cons_succ, List.setIfInBounds_toArray, List.set_cons_zero, List.set_cons_succ]
        refine wpAnyH_take (i := 7) (v := (.bool false)) rfl (by kernel_rfl) (by kernel_rfl) (by kernel_rfl) (fun _ _ _ h => h) (Or.inl ⟨by rfl, ?_⟩) hS ?_
        · intro w hSw; (try dsimp only at hSw); go_simp
        simp only [Act.put, List.getElem_toArray, List.getElem_cons_zero, List.getElem_cons_succ, List.setIfInBounds_toArray, List.set_cons_zero, List.set_cons_succ]
        refine wpAnyH_take (i := 8) (v := (.pointer (some ⟨w2.heap.size, 0, none⟩))) rfl (by kernel_rfl) (by kernel_rfl) (by kernel_rfl) (fun _ _ _ h => h) (Or.inl ⟨by rfl, ?_⟩) hS ?_
        · intro w hSw; (try dsimp only at hSw); go_simp
        simp only [Act.put, List.getElem_toArray, List.getElem_cons_zero, List.getElem_cons_succ, List.setIfInBounds_toArray, List.set_cons_zero, List.set_cons_succ]
        refine wpAnyH_take (i := 9) (v := (.int .i64 3)) rfl (by kernel_rfl) (by kernel_rfl) (by kernel_rfl) (fun _ _ _ h => h) (Or.inl ⟨by rfl, ?_⟩) hS ?_
        · intro w hSw; (try dsimp only at hSw); go_simp
        simp only [Act.put, List.getElem_toArray, List.getElem_cons_zero, List.getElem_cons_succ, List.setIfInBounds_toArray, List.set_cons_zero, List.set_cons_succ]
        refine wpAnyH_take (i := 10) (v := (.bool false)) rfl (by kernel_rfl) (by kernel_rfl) (by kernel_rfl) (fun _ _ _ h => h) (Or.inl ⟨by rfl, ?_⟩) hS ?_
        · intro w hSw; (try dsimp only at hSw); go_simp
        simp only [Act.put, List.getElem_toArray, List.getElem_cons_zero, List.getElem_cons_succ, List.setIfInBounds_toArray, List.set_cons_zero, List.set_cons_succ]
        refine wpAnyH_take (i := 11) (v := (.bool false)) rfl (by kernel_rfl) (by kernel_rfl) (by kernel_rfl) (fun _ _ _ h => h) (Or.inl ⟨by rfl, ?_⟩) hS ?_
        · intro w hSw; (try dsimp only at hSw); go_simp
        simp only [Act.put, List.getElem_toArray, List.getElem_cons_zero, List.getElem_cons_succ, List.setIfInBounds_toArray, List.set_cons_zero, List.set_cons_succ]
        refine wpAnyH_take (i := 12) (v := undef) rfl (by kernel_rfl) (by kernel_rfl) (by kernel_rfl) (fun _ _ _ h => h) (Or.inr ⟨by rfl, rfl⟩) hS ?_
        simp only [Act.put, List.getElem_toArray, List.getElem_cons_zero, List.getElem_cons_succ, List.setIfInBounds_toArray, List.set_cons_zero, List.set_cons_succ]
        refine wpAnyH_take (i := 13) (v := undef) rfl (by kernel_rfl) (by kernel_rfl) (by kernel_rfl) (fun _ _ _ h => h) (Or.inr ⟨by rfl, rfl⟩) hS ?_
        simp only [Act.put, List.getElem_toArray, List.getElem_cons_zero, List.getElem_cons_succ, List.setIfInBounds_toArray, List.set_cons_zero, List.set_cons_succ]
        refine wpAnyH_take (i := 14) (v := undef) rfl (by kernel_rfl) (by kernel_rfl) (by kernel_rfl) (fun _ _ _ h => h) (Or.inr ⟨by rfl, rfl⟩) hS ?_
        simp only [Act.put, List.getElem_toArray, List.getElem_cons_zero, List.getElem_cons_succ, List.setIfInBounds_toArray, List.set_cons_zero, List.set_cons_succ]
        refine wpAnyH_take (i := 15) (v := undef) rfl (by kernel_rfl) (by kernel_rfl) (by kernel_rfl) (fun _ _ _ h => h) (Or.inr ⟨by rfl, rfl⟩) hS ?_
        simp only [Act.put, List.getElem_toArray, List.getElem_cons_zero, List.getElem_cons_succ, List.setIfInBounds_toArray, List.set_cons_zero, List.set_cons_succ]
        refine wpAnyH_take (i := 16) (v := undef) rfl (by kernel_rfl) (by kernel_rfl) (by kernel_rfl) (fun _ _ _ h => h) (Or.inr ⟨by rfl, rfl⟩) hS ?_
        simp only [Act.put, List.getElem_toArray, List.getElem_cons_zero, List.getElem_cons_succ, List.setIfInBounds_toArray, List.set_cons_zero, List.set_cons_succ]
        refine wpAnyH_take (i := 17) (v := undef) rfl (by kernel_rfl) (by kernel_rfl) (by kernel_rfl) (fun _ _ _ h => h) (Or.inr ⟨by rfl, rfl⟩) hS ?_
        simp only [Act.put, List.getElem_toArray, List.getElem_cons_zero, List.getElem_cons_succ, List.setIfInBounds_toArray, List.set_cons_zero, List.set_cons_succ]
        refine wpAnyH_take (i := 18) (v := undef) rfl (by kernel_rfl) (by kernel_rfl) (by kernel_rfl) (fun _ _ _ h => h) (Or.inr ⟨by rfl, rfl⟩) hS ?_
        simp only [Act.put, List.getElem_toArray, List.getElem_cons_zero, List.getElem_cons_succ, List.setIfInBounds_toArray, List.set_cons_zero, List.set_cons_succ]
        refine wpAnyH_take (i := 19) (v := undef) rfl (by kernel_rfl) (by kernel_rfl) (by kernel_rfl) (fun _ _ _ h => h) (Or.inr ⟨by rfl, rfl⟩) hS ?_
        simp only [Act.put, List.getElem_toArray, List.getElem_cons_zero, List.getElem_cons_succ, List.setIfInBounds_toArray, List.set_cons_zero, List.set_cons_succ]
        refine wpAnyH_take (i := 20) (v := undef) rfl (by kernel_rfl) (by kernel_rfl) (by kernel_rfl) (fun _ _ _ h => h) (Or.inr ⟨by rfl, rfl⟩) hS ?_
        simp only [Act.put, List.getElem_toArray, List.getElem_cons_zero, List.getElem_cons_succ, List.setIfInBounds_toArray, List.set_cons_zero, List.set_cons_succ]
        refine wpAnyH_take (i := 21) (v := undef) rfl (by kernel_rfl) (by kernel_rfl) (by kernel_rfl) (fun _ _ _ h => h) (Or.inr ⟨by rfl, rfl⟩) hS ?_
        simp only [Act.put, List.getElem_toArray, List.getElem_cons_zero, List.getElem_cons_succ, List.setIfInBounds_toArray, List.set_cons_zero, List.set_cons_succ]
        refine wpAnyH_take (i := 22) (v := undef) rfl (by kernel_rfl) (by kernel_rfl) (by kernel_rfl) (fun _ _ _ h => h) (Or.inr ⟨by rfl, rfl⟩) hS ?_
        simp only [Act.put, List.getElem_toArray, List.getElem_cons_zero, List.getElem_cons_succ, List.setIfInBounds_toArray, List.set_cons_zero, List.set_cons_succ]
        refine wpAnyH_take (i := 23) (v := undef) rfl (by kernel_rfl) (by kernel_rfl) (by kernel_rfl) (fun _ _ _ h => h) (Or.inr ⟨by rfl, rfl⟩) hS ?_
        simp only [Act.put, List.getElem_toArray, List.getElem_cons_zero, List.getElem_cons_succ, List.setIfInBounds_toArray, List.set_cons_zero, List.set_cons_succ]
        refine wpAnyH_take (i := 24) (v := undef) rfl (by kernel_rfl) (by kernel_rfl) (by kernel_rfl) (fun _ _ _ h => h) (Or.inr ⟨by rfl, rfl⟩) hS ?_
        simp only [Act.put, List.getElem_toArray, List.getElem_cons_zero, List.getElem_cons_succ, List.setIfInBounds_toArray, List.set_cons_zero, List.set_cons_succ]
        refine wpAnyH_take (i := 25) (v := undef) rfl (by kernel_rfl) (by kernel_rfl) (by kernel_rfl) (fun _ _ _ h => h) (Or.inr ⟨by rfl, rfl⟩) hS ?_
        simp only [Act.put, List.getElem_toArray, List.getElem_cons_zero, List.getElem_cons_succ, List.setIfInBounds_toArray, List.set_cons_zero, List.set_cons_succ]
        refine wpAnyH_take (i := 26) (v := undef) rfl (by kernel_rfl) (by kernel_rfl) (by kernel_rfl) (fun _ _ _ h => h) (Or.inr ⟨by rfl, rfl⟩) hS ?_
        simp only [Act.put, List.getElem_toArray, List.getElem_cons_zero, List.getElem_cons_succ, List.setIfInBounds_toArray, List.set_cons_zero, List.set_cons_succ]
        refine wpAnyH_take (i := 27) (v := undef) rfl (by kernel_rfl) (by kernel_rfl) (by kernel_rfl) (fun _ _ _ h => h) (Or.inr ⟨by rfl, rfl⟩) hS ?_
        simp only [Act.put, List.getElem_toArray, List.getElem_cons_zero, List.getElem_cons_succ, List.setIfInBounds_toArray, List.set_cons_zero, List.set_cons_succ]
        refine wpAnyH_take (i := 28) (v := undef) rfl (by kernel_rfl) (by kernel_rfl) (by kernel_rfl) (fun _ _ _ h => h) (Or.inr ⟨by rfl, rfl⟩) hS ?_
        simp only [Act.put, List.getElem_toArray, List.getElem_cons_zero, List.getElem_cons_succ, List.setIfInBounds_toArray, List.set_cons_zero, List.set_cons_succ]
        refine wpAnyH_take (i := 29) (v := undef) rfl (by kernel_rfl) (by kernel_rfl) (by kernel_rfl) (fun _ _ _ h => h) (Or.inr ⟨by rfl, rfl⟩) hS ?_
        simp only [Act.put, List.getElem_toArray, List.getElem_cons_zero, List.getElem_cons_succ, List.setIfInBounds_toArray, List.set_cons_zero, List.set_cons_succ]
        refine wpAnyH_take (i := 30) (v := undef) rfl (by kernel_rfl) (by kernel_rfl) (by kernel_rfl) (fun _ _ _ h => h) (Or.inr ⟨by rfl, rfl⟩) hS ?_
        simp only [Act.put, List.getElem_toArray, List.getElem_cons_zero, List.getElem_cons_succ, List.setIfInBounds_toArray, List.set_cons_zero, List.set_cons_succ]
        refine wpAnyH_take (i := 31) (v := undef) rfl (by kernel_rfl) (by kernel_rfl) (by kernel_rfl) (fun _ _ _ h => h) (Or.inr ⟨by rfl, rfl⟩) hS ?_
        simp only [Act.put, List.getElem_toArray, List.getElem_cons_zero, List.getElem_cons_succ, List.setIfInBounds_toArray, List.set_cons_zero, List.set_cons_succ]
        refine wpAnyH_take (i := 32) (v := undef) rfl (by kernel_rfl) (by kernel_rfl) (by kernel_rfl) (fun _ _ _ h => h) (Or.inr ⟨by rfl, rfl⟩) hS ?_
        simp only [Act.put, List.getElem_toArray, List.getElem_cons_zero, List.getElem_cons_succ, List.setIfInBounds_toArray, List.set_cons_zero, List.set_cons_succ]
        refine wpAnyH_take (i := 33) (v := undef) rfl (by kernel_rfl) (by kernel_rfl) (by kernel_rfl) (fun _ _ _ h => h) (Or.inr ⟨by rfl, rfl⟩) hS ?_
        simp only [Act.put, List.getElem_toArray, List.getElem_cons_zero, List.getElem_cons_succ, List.setIfInBounds_toArray, List.set_cons_zero, List.set_cons_succ]
        refine wpAnyH_take (i := 34) (v := undef) rfl (by kernel_rfl) (by kernel_rfl) (by kernel_rfl) (fun _ _ _ h => h) (Or.inr ⟨by rfl, rfl⟩) hS ?_
        simp only [Act.put, List.getElem_toArray, List.getElem_cons_zero, List.getElem_cons_succ, List.setIfInBounds_toArray, List.set_cons_zero, List.set_cons_succ]
        refine wpAnyH_take (i := 35) (v := undef) rfl (by kernel_rfl) (by kernel_rfl) (by kernel_rfl) (fun _ _ _ h => h) (Or.inr ⟨by rfl, rfl⟩) hS ?_
        simp only [Act.put, List.getElem_toArray, List.getElem_cons_zero, List.getElem_cons_succ, List.setIfInBounds_toArray, List.set_cons_zero, List.set_cons_succ]
        refine wpAnyH_take (i := 36) (v := undef) rfl (by kernel_rfl) (by kernel_rfl) (by kernel_rfl) (fun _ _ _ h => h) (Or.inr ⟨by rfl, rfl⟩) hS ?_
        simp only [Act.put, List.getElem_toArray, List.getElem_cons_zero, List.getElem_cons_succ, List.setIfInBounds_toArray, List.set_cons_zero, List.set_cons_succ]
        refine wpAnyH_take (i := 37) (v := undef) rfl (by kernel_rfl) (by kernel_rfl) (by kernel_rfl) (fun _ _ _ h => h) (Or.inr ⟨by rfl, rfl⟩) hS ?_
        simp only [Act.put, List.getElem_toArray, List.getElem_cons_zero, List.getElem_cons_succ, List.setIfInBounds_toArray, List.set_cons_zero, List.set_cons_succ]
        refine wpAnyH_take (i := 38) (v := undef) rfl (by kernel_rfl) (by kernel_rfl) (by kernel_rfl) (fun _ _ _ h => h) (Or.inr ⟨by rfl, rfl⟩) hS ?_
        simp only [Act.put, List.getElem_toArray, List.getElem_cons_zero, List.getElem_cons_succ, List.setIfInBounds_toArray, List.set_cons_zero, List.set_cons_succ]
        refine wpAnyH_take (i := 39) (v := (.bool false)) rfl (by kernel_rfl) (by kernel_rfl) (by kernel_rfl) (fun _ _ _ h => h) (Or.inl ⟨by rfl, ?_⟩) hS ?_
        · intro w hSw; (try dsimp only at hSw); go_simp
        simp only [Act.put, List.getElem_toArray, List.getElem_cons_zero, List.getElem_cons_succ, List.setIfInBounds_toArray, List.set_cons_zero, List.set_cons_succ]
        refine wpAnyH_take (i := 40) (v := (.bool false)) rfl (by kernel_rfl) (by kernel_rfl) (by kernel_rfl) (fun _ _ _ h => h) (Or.inl ⟨by rfl, ?_⟩) hS ?_
        · intro w hSw; (try dsimp only at hSw); go_simp
        simp only [Act.put, List.getElem_toArray, List.getElem_cons_zero, List.getElem_cons_succ, List.setIfInBounds_toArray, List.set_cons_zero, List.set_cons_succ]
        refine wpAnyH_done (by kernel_rfl) ?_ _
        have b23' := b23 1
        have ho3 : Own .u8 5 w3 w.heap.size (.slice ay ys.length cy) ys.length ys := (ho2.below b23').below hb3
        have hb03 : Below w.heap.size w w3 := (hb02.trans (b23'.mono hb02.size)).trans (hb3.mono (Nat.le_trans hb02.size b23'.size))
        clear hS c30 hb3 b23' b23 HSP ho2 hb02 hfd
        go_wp2_with fail
        refine (DrawEncodeChar_any a n ca xs _ (ha.below hb03) hB hn).mono ?_
        rintro e w4 ⟨c, rfl, hb4⟩
        have ho4 := ho3.below hb4
        have hb04 := hb03.trans (hb4.mono hb03.size)
        clear hb4 ho3 hb03
        go_wp2_with fail
        have EC := implEncodeChar_any c w4
        have EL := encBytes_len c
        by_cases hch : isCh c = true
        · have e1 : encBytes c = enc c := by rw [encBytes, if_pos hch]
          have e2 : encCode c = 0 := by rw [encCode, if_pos hch]
          rw [e1, e2] at EC
          rw [e1] at EL
          have EL1 := (enc_len c).1
          have hcb := isCh_yes hch
          have hde := dec_enc c hch ys
          have heb := enc_bytes hcb.1 hcb.2
          have HEC : Hid _ := EC
          have HDE : Hid _ := hde
          clear EC e1 e2 hde
          generalize enc c = es at *
          refine Calls.mono HEC.out ?_
          rintro e w5 ⟨v5, rfl, ho5, hb5⟩
          obtain ⟨g5, cap5, hv5, hcells5⟩ := ho5.addr (by omega)
          subst hv5
          have ho45 := ho4.below hb5
          have hb05 := hb04.trans (hb5.mono hb04.size)
          obtain ⟨gy, capy, hvy, hcellsy⟩ := ho45.addr (by omega)
          obtain ⟨rfl, rfl⟩ : ay = some ⟨gy, 0, none⟩ ∧ cy = capy := by simpa using hvy
          clear hvy hb5 hb04 ho4
          have hz5 := hb05.size
          obtain ⟨O5, hO5⟩ : ∃ O5, O5 = Obj.cells #[.int .i64 0, .slice (some ⟨g5, 0, none⟩) es.length cap5] 31 := ⟨_, rfl⟩
          have gr5 : w5.grownBy ((w5.alloc O5).alloc (.cells #[] 5)) none := grown_trans (World.grownBy_alloc _ _ _) (World.grownBy_alloc _ _ _)
          have hcells5' : ∀ j u, (es.map (Value.int .u8))[j]? = some u → ((w5.alloc O5).alloc (.cells #[] 5)).cell? ((⟨g5, 0, none⟩ : Addr).add j) = some u := fun j u hu => grown_cell gr5 (hcells5 j u hu) (by simp)
          have hcellsy' : ∀ j u, (ys.map (Value.int .u8))[j]? = some u → ((w5.alloc O5).alloc (.cells #[] 5)).cell? ((⟨gy, 0, none⟩ : Addr).add j) = some u := fun j u hu => grown_cell gr5 (hcellsy j u hu) (by simp)
          have lit := own_lit (k := .u8) (e := 5) (w5.alloc O5) #[] 0 (w5.heap.size + 1) [] rfl rfl (by simp) (by simp [maxLen])
          rw [show (w5.alloc O5).heap.size = w5.heap.size + 1 by simp] at lit
          subst hO5
          have y5 := World.block_lt_of_cell? _ _ (hcellsy 0 (.int .u8 (ys.getD 0 0)) (by rw [List.getElem?_map, List.getElem?_eq_getElem (show 0 < ys.length by omega), List.getD_eq_getElem?_getD, List.getElem?_eq_getElem (show 0 < ys.length by omega)]; rfl))
          simp [Addr.add] at y5
          clear hcells5 hcellsy
          go_wp2_with (at_builtin; refine wpList_append_own _ rfl _ _ 22 rfl (w5.heap.size + 1) 5 i0 (.int .u8 0) 1 1 Try.underlying22 hi hz0 hz1 hz2 rfl (by decide) _ _ _ rfl lit ⟨g5, 0, none⟩ es.length cap5 (es.map (Value.int .u8)) rfl (by simp) hcells5' (ints_oneCell .u8 _) (by unfold maxLen; simp; omega) (by simp; omega) (by simp) ?_)
          intro v6 w6 ho6 hg6 _
          have hk6 : Own .u8 5 w6 (w5.heap.size + 1) v6 es.length es := by simpa [Own] using ho6
          have hcy6 : ∀ j u, (ys.map (Value.int .u8))[j]? = some u → w6.cell? ((⟨gy, 0, none⟩ : Addr).add j) = some u := fun j u hu => grown_cell hg6 (hcellsy' j u hu) (fun k hk => by rw [Addr.add_lit]; simp [Value.ownBlock] at hk; simp; omega)
          have b6 : Below (w5.heap.size + 1) (w5.alloc (.cells #[.int .i64 0, .slice (some ⟨g5, 0, none⟩) es.length cap5] 31)) w6 := ((Below.refl _ _).alloc (by simp) _).grown hg6 (by simp) (fun k hk => by simp [Value.ownBlock] at hk; omega)
          have l6 := hk6.lt
          obtain ⟨av6, cap6, hv6, _⟩ := hk6.rd
          subst hv6
          have hz6 : w5.heap.size + 1 ≤ w6.heap.size := by have := b6.size; simpa using this
          clear ho6 hg6 hcellsy' hcells5' lit gr5
          go_wp2_with (at_builtin; refine wpList_append_own _ rfl _ _ 22 rfl (w5.heap.size + 1) 5 i0 (.int .u8 0) 1 1 Try.underlying22 hi hz0 hz1 hz2 rfl (by decide) _ _ _ rfl hk6 ⟨gy, 0, none⟩ ys.length cy (ys.map (Value.int .u8)) rfl (by simp) hcy6 (ints_oneCell .u8 _) (by unfold maxLen; omega) (by omega) (by omega) ?_)
          intro v7 w7 ho7 hg7 _
          have hk7 : Own .u8 5 w7 (w5.heap.size + 1) v7 (es ++ ys).length (es ++ ys) := by
            unfold Own
            rw [List.map_append, List.length_append]
            exact ho7
          have b7 := b6.grown hg7 hz6 (fun k hk => (l6 k hk).1)
          have hz7 : w5.heap.size + 1 ≤ w7.heap.size := by have := b7.size; simpa using this
          have hb07 : Below w.heap.size w w7 := (hb05.alloc hb05.size _).trans (b7.mono (by omega))
          have hbb : Bytes (es ++ ys) := heb.append hyb
          have hll : (es ++ ys).length ≤ 19 := by rw [List.length_append]; omega
          obtain ⟨a7, cap7, hv7, hr7, hc7, hm7⟩ := hk7.rdc
          subst hv7
          have D := implDecodeAt_any a7 (es ++ ys).length cap7 0 (es ++ ys) _ hr7 hbb (by omega) hc7 hm7
          have hin : (0 : Int) ≤ 0 ∧ (0 : Int) < (es ++ ys).length := ⟨by omega, by rw [List.length_append]; omega⟩
          have dv : decVal (es ++ ys) 0 = .agg #[.int .i64 0, .int .i64 c, .int .i64 es.length] := by
            unfold decVal decCode decChar decUsed
            rw [if_pos hin, if_pos hin, if_pos hin, show (0 : Int).toNat = 0 from rfl, HDE.out]
            simp only
            rw [if_neg (by omega)]
          rw [dv] at D
          have HD : Hid _ := D
          have s0 : w7.cell? ⟨w5.heap.size, 0, none⟩ = some (.int .i64 0) := (b7.cell (p := ⟨w5.heap.size, 0, none⟩) (by simp)).trans (by simp)
          have s1 : w7.cell? ⟨w5.heap.size, 1, none⟩ = some (.slice (some ⟨g5, 0, none⟩) es.length cap5) := (b7.cell (p := ⟨w5.heap.size, 1, none⟩) (by simp)).trans (by simp)
          clear D dv hin hc7 hm7 hr7 ho7 hg7 hk6 hcy6 l6 b6 b7 hk7 HDE HEC
          rw [List.length_append] at *
          go_wp2_with fail
          refine Calls.mono HD.out ?_
          rintro e w8 ⟨rfl, hb8⟩
          have t0 := cell_later hb8 s0
          have t1 := cell_later hb8 s1
          have z8 : w5.heap.size < w8.heap.size := by have := hb8.size; omega
          have hb08 : Below w.heap.size w w8 := hb07.trans (hb8.mono hb07.size)
          clear hb8 s0 s1 hb07 HD
          go_wp2
          go_ret
          exact ⟨ret_bool (by simp; omega), hb08.alloc hb08.size _⟩
        · have e1 : encBytes c = [] := by rw [encBytes, if_neg hch]
          have e2 : encCode c = 3 := by rw [encCode, if_neg hch]
          have SE := fun w' => specEncodeChar_any c w'
          rw [e1, e2] at EC
          rw [e2] at SE
          have HEC : Hid _ := EC
          have HSE : Hid _ := SE
          clear EC SE e1 e2 EL hch
          refine Calls.mono HEC.out ?_
          rintro e w5 ⟨v5, rfl, ho5, hb5⟩
          obtain ⟨av5, cap5, hv5, _⟩ := ho5.rd
          subst hv5
          have hb05 := hb04.trans (hb5.mono hb04.size)
          have hfb := fun v w' => fldB0 (.int .i64 3) v w'
          clear hb5 hb04 ho4 ho5 HEC
          have k5 : ∀ o, (w5.alloc o).drew.heap.size = w5.heap.size + 1 := fun o => by simp
          go_wp2_with fail
          go_region_with (go_at_call 18; refine Calls.mono (HSE.out _) ?_; rintro e w6 ⟨v6, rfl, ho6, hb6⟩; have c60 : w6.cell? ⟨w5.heap.size, 0, none⟩ = some (.int .i64 3) := (hb6.cell (p := ⟨w5.heap.size, 0, none⟩) (by simp)).trans (by simp))
          all_goals
            go_wp2
            go_ret
            exact ⟨ret_bool (by simp), (hb05.alloc hb05.size _).drew.trans (hb6.mono (by have := hb05.size; simp; omega))⟩
      · go_wp2_with fail
        refine wp_region_held_drew (S := fun w' => w'.cell? ⟨w2.heap.size, 0, none⟩ = some (.int .i64 5)) (by kernel_rfl) (by simp [go_sem]) (fun hS => ?_)
        refine wpAnyH_take (i := 0) (v := (.pointer (some ⟨w2.heap.size, 0, none⟩))) rfl (by kernel_rfl) (by kernel_rfl) (by kernel_rfl) (fun _ _ _ h => h) (Or.inl ⟨by rfl, ?_⟩) hS ?_
        · intro w hSw; (try dsimp only at hSw); go_simp
        simp only [Act.put, List.getElem_toArray, List.getElem_cons_zero, List.getElem_cons_succ, List.setIfInBounds_toArray, List.set_cons_zero, List.set_cons_succ]
        refine wpAnyH_take (i := 2) (v := (.slice ay ys.length cy)) rfl (by kernel_rfl) (by kernel_rfl) (by kernel_rfl) (fun _ _ _ h => h) (Or.inl ⟨by rfl, ?_⟩) hS ?_
        · intro w hSw; (try dsimp only at hSw); go_simp
        simp only [Act.put, List.getElem_toArray, List.getElem_cons_zero, List.getElem_cons_succ, List.setIfInBounds_toArray, List.set_cons_zero, List.set_cons_succ]
        refine wpAnyH_take (i := 3) (v := (.int .i64 I)) rfl (by kernel_rfl) (by kernel_rfl) (by kernel_rfl) (fun _ _ _ h => h) (Or.inl ⟨by rfl, ?_⟩) hS ?_
        · intro w hSw; (try dsimp only at hSw); go_simp
        simp only [Act.put, List.getElem_toArray, List.getElem_cons_zero, List.getElem_cons_succ, List.setIfInBounds_toArray, List.set_cons_zero, List.set_cons_succ]
        refine wpAnyH_take (i := 1) (v := (.int .i64 5)) rfl (by kernel_rfl) (by kernel_rfl) (by kernel_rfl) (fun _ _ _ h => h) (Or.inl ⟨by rfl, ?_⟩) hS ?_
        · intro w hSw; (try dsimp only at hSw); go_simp
        simp only [Act.put, List.getElem_toArray, List.getElem_cons_zero, List.getElem_cons_succ, List.setIfInBounds_toArray, List.set_cons_zero, List.set_cons_succ]
        refine wpAnyH_ready (rs := [4]) (by kernel_rfl) (by simp) ?_
        refine AllReadyH.cons rfl (fun K hK => ?_) AllReadyH.nil
        go_simp
        refine Calls.mono (HSP.out _ (Own.read (ho2.below (b23 1)))) ?_
        rintro e w3 ⟨rfl, hb3⟩
        have c30 : w3.cell? ⟨w2.heap.size, 0, none⟩ = some (.int .i64 5) := (hb3.cell (p := ⟨w2.heap.size, 0, none⟩) (by simp)).trans (by simp)
        refine hK.out _ _ c30 (fun hS => ?_)
        clear hK K
        refine wpAnyH_take (i := 5) (v := (.int .i64 5)) rfl (by kernel_rfl) (by kernel_rfl) (by kernel_rfl) (fun _ _ _ h => h) (Or.inl ⟨by rfl, ?_⟩) hS ?_
        · intro w hSw; (try dsimp only at hSw); go_simp
        simp only [Act.put, List.getElem_toArray, List.getElem_cons_zero, List.getElem_cons_succ, List.setIfInBounds_toArray, List.set_cons_zero, List.set_cons_succ]
        refine wpAnyH_take (i := 6) (v := (.bool false)) rfl (by kernel_rfl) (by kernel_rfl) (by kernel_rfl) (fun _ _ _ h => h) (Or.inl ⟨by rfl, ?_⟩) hS ?_
        · intro w hSw; (try dsimp only at hSw); go_simp
        simp only [Act.put, List.getElem_toArray, List.getElem_cons_zero, List.getElem_cons_succ, List.setIfInBounds_toArray, List.set_cons_zero, List.set_cons_succ]
        refine wpAnyH_take (i := 7) (v := (.bool false)) rfl (by kernel_rfl) (by kernel_rfl) (by kernel_rfl) (fun _ _ _ h => h) (Or.inl ⟨by rfl, ?_⟩) hS ?_
        · intro w hSw; (try dsimp only at hSw); go_simp
        simp only [Act.put, List.getElem_toArray, List.getElem_cons_zero, List.getElem_cons_succ, List.setIfInBounds_toArray, List.set_cons_zero, List.set_cons_succ]
        refine wpAnyH_take (i := 8) (v := (.pointer (some ⟨w2.heap.size, 0, none⟩))) rfl (by kernel_rfl) (by kernel_rfl) (by kernel_rfl) (fun _ _ _ h => h) (Or.inl ⟨by rfl, ?_⟩) hS ?_
        · intro w hSw; (try dsimp only at hSw); go_simp
        simp only [Act.put, List.getElem_toArray, List.getElem_cons_zero, List.getElem_cons_succ, List.setIfInBounds_toArray, List.set_cons_zero, List.set_cons_succ]
        refine wpAnyH_take (i := 9) (v := (.int .i64 5)) rfl (by kernel_rfl) (by kernel_rfl) (by kernel_rfl) (fun _ _ _ h => h) (Or.inl ⟨by rfl, ?_⟩) hS ?_
        · intro w hSw; (try dsimp only at hSw); go_simp
        simp only [Act.put, List.getElem_toArray, List.getElem_cons_zero, List.getElem_cons_succ, List.setIfInBounds_toArray, List.set_cons_zero, List.set_cons_succ]
        refine wpAnyH_take (i := 10) (v := (.bool false)) rfl (by kernel_rfl) (by kernel_rfl) (by kernel_rfl) (fun _ _ _ h => h) (Or.inl ⟨by rfl, ?_⟩) hS ?_
        · intro w hSw; (try dsimp only at hSw); go_simp
        simp only [Act.put, List.getElem_toArray, List.getElem_cons_zero, List.getElem_cons_succ, List.setIfInBounds_toArray, List.set_cons_zero, List.set_cons_succ]
        refine wpAnyH_take (i := 11) (v := (.bool false)) rfl (by kernel_rfl) (by kernel_rfl) (by kernel_rfl) (fun _ _ _ h => h) (Or.inl ⟨by rfl, ?_⟩) hS ?_
        · intro w hSw; (try dsimp only at hSw); go_simp
        simp only [Act.put, List.getElem_toArray, List.getElem_cons_zero, List.getElem_cons_succ, List.setIfInBounds_toArray, List.set_cons_zero, List.set_cons_succ]
        refine wpAnyH_take (i := 12) (v := undef) rfl (by kernel_rfl) (by kernel_rfl) (by kernel_rfl) (fun _ _ _ h => h) (Or.inr ⟨by rfl, rfl⟩) hS ?_
        simp only [Act.put, List.getElem_toArray, List.getElem_cons_zero, List.getElem_cons_succ, List.setIfInBounds_toArray, List.set_cons_zero, List.set_cons_succ]
        refine wpAnyH_take (i := 13) (v := undef) rfl (by kernel_rfl) (by kernel_rfl) (by kernel_rfl) (fun _ _ _ h => h) (Or.inr ⟨by rfl, rfl⟩) hS ?_
        simp only [Act.put, List.getElem_toArray, List.getElem_cons_zero, List.getElem_cons_succ, List.setIfInBounds_toArray, List.set_cons_zero, List.set_cons_succ]
        refine wpAnyH_take (i := 14) (v := undef) rfl (by kernel_rfl) (by kernel_rfl) (by kernel_rfl) (fun _ _ _ h => h) (Or.inr ⟨by rfl, rfl⟩) hS ?_
        simp only [Act.put, List.getElem_toArray, List.getElem_cons_zero, List.getElem_cons_succ, List.setIfInBounds_toArray, List.set_cons_zero, List.set_cons_succ]
        refine wpAnyH_take (i := 15) (v := undef) rfl (by kernel_rfl) (by kernel_rfl) (by kernel_rfl) (fun _ _ _ h => h) (Or.inr ⟨by rfl, rfl⟩) hS ?_
        simp only [Act.put, List.getElem_toArray, List.getElem_cons_zero, List.getElem_cons_succ, List.setIfInBounds_toArray, List.set_cons_zero, List.set_cons_succ]
        refine wpAnyH_take (i := 16) (v := undef) rfl (by kernel_rfl) (by kernel_rfl) (by kernel_rfl) (fun _ _ _ h => h) (Or.inr ⟨by rfl, rfl⟩) hS ?_
        simp only [Act.put, List.getElem_toArray, List.getElem_cons_zero, List.getElem_cons_succ, List.setIfInBounds_toArray, List.set_cons_zero, List.set_cons_succ]
        refine wpAnyH_take (i := 17) (v := undef) rfl (by kernel_rfl) (by kernel_rfl) (by kernel_rfl) (fun _ _ _ h => h) (Or.inr ⟨by rfl, rfl⟩) hS ?_
        simp only [Act.put, List.getElem_toArray, List.getElem_cons_zero, List.getElem_cons_succ, List.setIfInBounds_toArray, List.set_cons_zero, List.set_cons_succ]
        refine wpAnyH_take (i := 18) (v := undef) rfl (by kernel_rfl) (by kernel_rfl) (by kernel_rfl) (fun _ _ _ h => h) (Or.inr ⟨by rfl, rfl⟩) hS ?_
        simp only [Act.put, List.getElem_toArray, List.getElem_cons_zero, List.getElem_cons_succ, List.setIfInBounds_toArray, List.set_cons_zero, List.set_cons_succ]
        refine wpAnyH_take (i := 19) (v := undef) rfl (by kernel_rfl) (by kernel_rfl) (by kernel_rfl) (fun _ _ _ h => h) (Or.inr ⟨by rfl, rfl⟩) hS ?_
        simp only [Act.put, List.getElem_toArray, List.getElem_cons_zero, List.getElem_cons_succ, List.setIfInBounds_toArray, List.set_cons_zero, List.set_cons_succ]
        refine wpAnyH_take (i := 20) (v := undef) rfl (by kernel_rfl) (by kernel_rfl) (by kernel_rfl) (fun _ _ _ h => h) (Or.inr ⟨by rfl, rfl⟩) hS ?_
        simp only [Act.put, List.getElem_toArray, List.getElem_cons_zero, List.getElem_cons_succ, List.setIfInBounds_toArray, List.set_cons_zero, List.set_cons_succ]
        refine wpAnyH_take (i := 21) (v := undef) rfl (by kernel_rfl) (by kernel_rfl) (by kernel_rfl) (fun _ _ _ h => h) (Or.inr ⟨by rfl, rfl⟩) hS ?_
        simp only [Act.put, List.getElem_toArray, List.getElem_cons_zero, List.getElem_cons_succ, List.setIfInBounds_toArray, List.set_cons_zero, List.set_cons_succ]
        refine wpAnyH_take (i := 22) (v := undef) rfl (by kernel_rfl) (by kernel_rfl) (by kernel_rfl) (fun _ _ _ h => h) (Or.inr ⟨by rfl, rfl⟩) hS ?_
        simp only [Act.put, List.getElem_toArray, List.getElem_cons_zero, List.getElem_cons_succ, List.setIfInBounds_toArray, List.set_cons_zero, List.set_cons_succ]
        refine wpAnyH_take (i := 23) (v := undef) rfl (by kernel_rfl) (by kernel_rfl) (by kernel_rfl) (fun _ _ _ h => h) (Or.inr ⟨by rfl, rfl⟩) hS ?_
        simp only [Act.put, List.getElem_toArray, List.getElem_cons_zero, List.getElem_cons_succ, List.setIfInBounds_toArray, List.set_cons_zero, List.set_cons_succ]
        refine wpAnyH_take (i := 24) (v := undef) rfl (by kernel_rfl) (by kernel_rfl) (by kernel_rfl) (fun _ _ _ h => h) (Or.inr ⟨by rfl, rfl⟩) hS ?_
        simp only [Act.put, List.getElem_toArray, List.getElem_cons_zero, List.getElem_cons_succ, List.setIfInBounds_toArray, List.set_cons_zero, List.set_cons_succ]
        refine wpAnyH_take (i := 25) (v := undef) rfl (by kernel_rfl) (by kernel_rfl) (by kernel_rfl) (fun _ _ _ h => h) (Or.inr ⟨by rfl, rfl⟩) hS ?_
        simp only [Act.put, List.getElem_toArray, List.getElem_cons_zero, List.getElem_cons_succ, List.setIfInBounds_toArray, List.set_cons_zero, List.set_cons_succ]
        refine wpAnyH_take (i := 26) (v := undef) rfl (by kernel_rfl) (by kernel_rfl) (by kernel_rfl) (fun _ _ _ h => h) (Or.inr ⟨by rfl, rfl⟩) hS ?_
        simp only [Act.put, List.getElem_toArray, List.getElem_cons_zero, List.getElem_cons_succ, List.setIfInBounds_toArray, List.set_cons_zero, List.set_cons_succ]
        refine wpAnyH_take (i := 27) (v := undef) rfl (by kernel_rfl) (by kernel_rfl) (by kernel_rfl) (fun _ _ _ h => h) (Or.inr ⟨by rfl, rfl⟩) hS ?_
        simp only [Act.put, List.getElem_toArray, List.getElem_cons_zero, List.getElem_cons_succ, List.setIfInBounds_toArray, List.set_cons_zero, List.set_cons_succ]
        refine wpAnyH_take (i := 28) (v := undef) rfl (by kernel_rfl) (by kernel_rfl) (by kernel_rfl) (fun _ _ _ h => h) (Or.inr ⟨by rfl, rfl⟩) hS ?_
        simp only [Act.put, List.getElem_toArray, List.getElem_cons_zero, List.getElem_cons_succ, List.setIfInBounds_toArray, List.set_cons_zero, List.set_cons_succ]
        refine wpAnyH_take (i := 29) (v := undef) rfl (by kernel_rfl) (by kernel_rfl) (by kernel_rfl) (fun _ _ _ h => h) (Or.inr ⟨by rfl, rfl⟩) hS ?_
        simp only [Act.put, List.getElem_toArray, List.getElem_cons_zero, List.getElem_cons_succ, List.setIfInBounds_toArray, List.set_cons_zero, List.set_cons_succ]
        refine wpAnyH_take (i := 30) (v := undef) rfl (by kernel_rfl) (by kernel_rfl) (by kernel_rfl) (fun _ _ _ h => h) (Or.inr ⟨by rfl, rfl⟩) hS ?_
        simp only [Act.put, List.getElem_toArray, List.getElem_cons_zero, List.getElem_cons_succ, List.setIfInBounds_toArray, List.set_cons_zero, List.set_cons_succ]
        refine wpAnyH_take (i := 31) (v := undef) rfl (by kernel_rfl) (by kernel_rfl) (by kernel_rfl) (fun _ _ _ h => h) (Or.inr ⟨by rfl, rfl⟩) hS ?_
        simp only [Act.put, List.getElem_toArray, List.getElem_cons_zero, List.getElem_cons_succ, List.setIfInBounds_toArray, List.set_cons_zero, List.set_cons_succ]
        refine wpAnyH_take (i := 32) (v := undef) rfl (by kernel_rfl) (by kernel_rfl) (by kernel_rfl) (fun _ _ _ h => h) (Or.inr ⟨by rfl, rfl⟩) hS ?_
        simp only [Act.put, List.getElem_toArray, List.getElem_cons_zero, List.getElem_cons_succ, List.setIfInBounds_toArray, List.set_cons_zero, List.set_cons_succ]
        refine wpAnyH_take (i := 33) (v := undef) rfl (by kernel_rfl) (by kernel_rfl) (by kernel_rfl) (fun _ _ _ h => h) (Or.inr ⟨by rfl, rfl⟩) hS ?_
        simp only [Act.put, List.getElem_toArray, List.getElem_cons_zero, List.getElem_cons_succ, List.setIfInBounds_toArray, List.set_cons_zero, List.set_cons_succ]
        refine wpAnyH_take (i := 34) (v := undef) rfl (by kernel_rfl) (by kernel_rfl) (by kernel_rfl) (fun _ _ _ h => h) (Or.inr ⟨by rfl, rfl⟩) hS ?_
        simp only [Act.put, List.getElem_toArray, List.getElem_cons_zero, List.getElem_cons_succ, List.setIfInBounds_toArray, List.set_cons_zero, List.set_cons_succ]
        refine wpAnyH_take (i := 35) (v := undef) rfl (by kernel_rfl) (by kernel_rfl) (by kernel_rfl) (fun _ _ _ h => h) (Or.inr ⟨by rfl, rfl⟩) hS ?_
        simp only [Act.put, List.getElem_toArray, List.getElem_cons_zero, List.getElem_cons_succ, List.setIfInBounds_toArray, List.set_cons_zero, List.set_cons_succ]
        refine wpAnyH_take (i := 36) (v := undef) rfl (by kernel_rfl) (by kernel_rfl) (by kernel_rfl) (fun _ _ _ h => h) (Or.inr ⟨by rfl, rfl⟩) hS ?_
        simp only [Act.put, List.getElem_toArray, List.getElem_cons_zero, List.getElem_cons_succ, List.setIfInBounds_toArray, List.set_cons_zero, List.set_cons_succ]
        refine wpAnyH_take (i := 37) (v := undef) rfl (by kernel_rfl) (by kernel_rfl) (by kernel_rfl) (fun _ _ _ h => h) (Or.inr ⟨by rfl, rfl⟩) hS ?_
        simp only [Act.put, List.getElem_toArray, List.getElem_cons_zero, List.getElem_cons_succ, List.setIfInBounds_toArray, List.set_cons_zero, List.set_cons_succ]
        refine wpAnyH_take (i := 38) (v := undef) rfl (by kernel_rfl) (by kernel_rfl) (by kernel_rfl) (fun _ _ _ h => h) (Or.inr ⟨by rfl, rfl⟩) hS ?_
        simp only [Act.put, List.getElem_toArray, List.getElem_cons_zero, List.getElem_cons_succ, List.setIfInBounds_toArray, List.set_cons_zero, List.set_cons_succ]
        refine wpAnyH_take (i := 39) (v := (.bool false)) rfl (by kernel_rfl) (by kernel_rfl) (by kernel_rfl) (fun _ _ _ h => h) (Or.inl ⟨by rfl, ?_⟩) hS ?_
        · intro w hSw; (try dsimp only at hSw); go_simp
        simp only [Act.put, List.getElem_toArray, List.getElem_cons_zero, List.getElem_cons_succ, List.setIfInBounds_toArray, List.set_cons_zero, List.set_cons_succ]
        refine wpAnyH_take (i := 40) (v := (.bool false)) rfl (by kernel_rfl) (by kernel_rfl) (by kernel_rfl) (fun _ _ _ h => h) (Or.inl ⟨by rfl, ?_⟩) hS ?_
        · intro w hSw; (try dsimp only at hSw); go_simp
        simp only [Act.put, List.getElem_toArray, List.getElem_cons_zero, List.getElem_cons_succ, List.setIfInBounds_toArray, List.set_cons_zero, List.set_cons_succ]
        refine wpAnyH_done (by kernel_rfl) ?_ _
        have b23' := b23 1
        have ho3 : Own .u8 5 w3 w.heap.size (.slice ay ys.length cy) ys.length ys := (ho2.below b23').below hb3
        have hb03 : Below w.heap.size w w3 := (hb02.trans (b23'.mono hb02.size)).trans (hb3.mono (Nat.le_trans hb02.size b23'.size))
        clear hS c30 hb3 b23' b23 HSP ho2 hb02 hfd
        go_wp2_with fail
        refine (DrawEncodeChar_any a n ca xs _ (ha.below hb03) hB hn).mono ?_
        rintro e w4 ⟨c, rfl, hb4⟩
        have ho4 := ho3.below hb4
        have hb04 := hb03.trans (hb4.mono hb03.size)
        clear hb4 ho3 hb03
        go_wp2_with fail
        have EC := implEncodeChar_any c w4
        have EL := encBytes_len c
        by_cases hch : isCh c = true
        · have e1 : encBytes c = enc c := by rw [encBytes, if_pos hch]
          have e2 : encCode c = 0 := by rw [encCode, if_pos hch]
          rw [e1, e2] at EC
          rw [e1] at EL
          have EL1 := (enc_len c).1
          have hcb := isCh_yes hch
          have hde := dec_enc c hch ys
          have heb := enc_bytes hcb.1 hcb.2
          have HEC : Hid _ := EC
          have HDE : Hid _ := hde
          clear EC e1 e2 hde
          generalize enc c = es at *
          refine Calls.mono HEC.out ?_
          rintro e w5 ⟨v5, rfl, ho5, hb5⟩
          obtain ⟨g5, cap5, hv5, hcells5⟩ := ho5.addr (by omega)
          subst hv5
          have ho45 := ho4.below hb5
          have hb05 := hb04.trans (hb5.mono hb04.size)
          obtain ⟨gy, capy, hvy, hcellsy⟩ := ho45.addr (by omega)
          obtain ⟨rfl, rfl⟩ : ay = some ⟨gy, 0, none⟩ ∧ cy = capy := by simpa using hvy
          clear hvy hb5 hb04 ho4
          have hz5 := hb05.size
          obtain ⟨O5, hO5⟩ : ∃ O5, O5 = Obj.cells #[.int .i64 0, .slice (some ⟨g5, 0, none⟩) es.length cap5] 31 := ⟨_, rfl⟩
          have gr5 : w5.grownBy ((w5.alloc O5).alloc (.cells #[] 5)) none := grown_trans (World.grownBy_alloc _ _ _) (World.grownBy_alloc _ _ _)
          have hcells5' : ∀ j u, (es.map (Value.int .u8))[j]? = some u → ((w5.alloc O5).alloc (.cells #[] 5)).cell? ((⟨g5, 0, none⟩ : Addr).add j) = some u := fun j u hu => grown_cell gr5 (hcells5 j u hu) (by simp)
          have hcellsy' : ∀ j u, (ys.map (Value.int .u8))[j]? = some u → ((w5.alloc O5).alloc (.cells #[] 5)).cell? ((⟨gy, 0, none⟩ : Addr).add j) = some u := fun j u hu => grown_cell gr5 (hcellsy j u hu) (by simp)
          have lit := own_lit (k := .u8) (e := 5) (w5.alloc O5) #[] 0 (w5.heap.size + 1) [] rfl rfl (by simp) (by simp [maxLen])
          rw [show (w5.alloc O5).heap.size = w5.heap.size + 1 by simp] at lit
          subst hO5
          have y5 := World.block_lt_of_cell? _ _ (hcellsy 0 (.int .u8 (ys.getD 0 0)) (by rw [List.getElem?_map, List.getElem?_eq_getElem (show 0 < ys.length by omega), List.getD_eq_getElem?_getD, List.getElem?_eq_getElem (show 0 < ys.length by omega)]; rfl))
          simp [Addr.add] at y5
          clear hcells5 hcellsy
          go_wp2_with (at_builtin; refine wpList_append_own _ rfl _ _ 22 rfl (w5.heap.size + 1) 5 i0 (.int .u8 0) 1 1 Try.underlying22 hi hz0 hz1 hz2 rfl (by decide) _ _ _ rfl lit ⟨g5, 0, none⟩ es.length cap5 (es.map (Value.int .u8)) rfl (by simp) hcells5' (ints_oneCell .u8 _) (by unfold maxLen; simp; omega) (by simp; omega) (by simp) ?_)
          intro v6 w6 ho6 hg6 _
          have hk6 : Own .u8 5 w6 (w5.heap.size + 1) v6 es.length es := by simpa [Own] using ho6
          have hcy6 : ∀ j u, (ys.map (Value.int .u8))[j]? = some u → w6.cell? ((⟨gy, 0, none⟩ : Addr).add j) = some u := fun j u hu => grown_cell hg6 (hcellsy' j u hu) (fun k hk => by rw [Addr.add_lit]; simp [Value.ownBlock] at hk; simp; omega)
          have b6 : Below (w5.heap.size + 1) (w5.alloc (.cells #[.int .i64 0, .slice (some ⟨g5, 0, none⟩) es.length cap5] 31)) w6 := ((Below.refl _ _).alloc (by simp) _).grown hg6 (by simp) (fun k hk => by simp [Value.ownBlock] at hk; omega)
          have l6 := hk6.lt
          obtain ⟨av6, cap6, hv6, _⟩ := hk6.rd
          subst hv6
          have hz6 : w5.heap.size + 1 ≤ w6.heap.size := by have := b6.size; simpa using this
          clear ho6 hg6 hcellsy' hcells5' lit gr5
          go_wp2_with (at_builtin; refine wpList_append_own _ rfl _ _ 22 rfl (w5.heap.size + 1) 5 i0 (.int .u8 0) 1 1 Try.underlying22 hi hz0 hz1 hz2 rfl (by decide) _ _ _ rfl hk6 ⟨gy, 0, none⟩ ys.length cy (ys.map (Value.int .u8)) rfl (by simp) hcy6 (ints_oneCell .u8 _) (by unfold maxLen; omega) (by omega) (by omega) ?_)
          intro v7 w7 ho7 hg7 _
          have hk7 : Own .u8 5 w7 (w5.heap.size + 1) v7 (es ++ ys).length (es ++ ys) := by
            unfold Own
            rw [List.map_append, List.length_append]
            exact ho7
          have b7 := b6.grown hg7 hz6 (fun k hk => (l6 k hk).1)
          have hz7 : w5.heap.size + 1 ≤ w7.heap.size := by have := b7.size; simpa using this
          have hb07 : Below w.heap.size w w7 := (hb05.alloc hb05.size _).trans (b7.mono (by omega))
          have hbb : Bytes (es ++ ys) := heb.append hyb
          have hll : (es ++ ys).length ≤ 19 := by rw [List.length_append]; omega
          obtain ⟨a7, cap7, hv7, hr7, hc7, hm7⟩ := hk7.rdc
          subst hv7
          have D := implDecodeAt_any a7 (es ++ ys).length cap7 0 (es ++ ys) _ hr7 hbb (by omega) hc7 hm7
          have hin : (0 : Int) ≤ 0 ∧ (0 : Int) < (es ++ ys).length := ⟨by omega, by rw [List.length_append]; omega⟩
          have dv : decVal (es ++ ys) 0 = .agg #[.int .i64 0, .int .i64 c, .int .i64 es.length] := by
            unfold decVal decCode decChar decUsed
            rw [if_pos hin, if_pos hin, if_pos hin, show (0 : Int).toNat = 0 from rfl, HDE.out]
            simp only
            rw [if_neg (by omega)]
          rw [dv] at D
          have HD : Hid _ := D
          have s0 : w7.cell? ⟨w5.heap.size, 0, none⟩ = some (.int .i64 0) := (b7.cell (p := ⟨w5.heap.size, 0, none⟩) (by simp)).trans (by simp)
          have s1 : w7.cell? ⟨w5.heap.size, 1, none⟩ = some (.slice (some ⟨g5, 0, none⟩) es.length cap5) := (b7.cell (p := ⟨w5.heap.size, 1, none⟩) (by simp)).trans (by simp)
          clear D dv hin hc7 hm7 hr7 ho7 hg7 hk6 hcy6 l6 b6 b7 hk7 HDE HEC
          rw [List.length_append] at *
          go_wp2_with fail
          refine Calls.mono HD.out ?_
          rintro e w8 ⟨rfl, hb8⟩
          have t0 := cell_later hb8 s0
          have t1 := cell_later hb8 s1
          have z8 : w5.heap.size < w8.heap.size := by have := hb8.size; omega
          have hb08 : Below w.heap.size w w8 := hb07.trans (hb8.mono hb07.size)
          clear hb8 s0 s1 hb07 HD
          go_wp2
          go_ret
          exact ⟨ret_bool (by simp; omega), hb08.alloc hb08.size _⟩
        · have e1 : encBytes c = [] := by rw [encBytes, if_neg hch]
          have e2 : encCode c = 3 := by rw [encCode, if_neg hch]
          have SE := fun w' => specEncodeChar_any c w'
          rw [e1, e2] at EC
          rw [e2] at SE
          have HEC : Hid _ := EC
          have HSE : Hid _ := SE
          clear EC SE e1 e2 EL hch
          refine Calls.mono HEC.out ?_
          rintro e w5 ⟨v5, rfl, ho5, hb5⟩
          obtain ⟨av5, cap5, hv5, _⟩ := ho5.rd
          subst hv5
          have hb05 := hb04.trans (hb5.mono hb04.size)
          have hfb := fun v w' => fldB0 (.int .i64 3) v w'
          clear hb5 hb04 ho4 ho5 HEC
          have k5 : ∀ o, (w5.alloc o).drew.heap.size = w5.heap.size + 1 := fun o => by simp
          go_wp2_with fail
          go_region_with (go_at_call 18; refine Calls.mono (HSE.out _) ?_; rintro e w6 ⟨v6, rfl, ho6, hb6⟩; have c60 : w6.cell? ⟨w5.heap.size, 0, none⟩ = some (.int .i64 3) := (hb6.cell (p := ⟨w5.heap.size, 0, none⟩) (by simp)).trans (by simp))
          all_goals
            go_wp2
            go_ret
            exact ⟨ret_bool (by simp), (hb05.alloc hb05.size _).drew.trans (hb6.mono (by have := hb05.size; simp; omega))⟩
  · go_enter Try.func3, Try.ntmps3
    go_wp2
    go_ret
    exact ⟨rfl, Below.refl _ _⟩
end Go.Proofs.Ytjnbegemdhkciaa.fnChars
