/-
  For every file and data, FnExactAppendFile returns true: the program's AppendFile answers as the model, writes into no argument, and its answer owns its memory; no condition.
-/
import Derived.Test.YtjhlmhehojjgfaaFiles2
import Derived.Test.YtjhlmhehojjgfaaArgs
import Derived.Test.YtjhlmhehojjgfaaArgsF
import Derived.Test.YtjhlmhehojjgfaaHlpF
import Derived.ProofKit
import Derived.OpenShut
import Derived.ChangeOld
import Derived.Below
import Derived.Carry
import Derived.Deep.RegionWith
import Derived.Deep.RegionHeld3
namespace Go.Proofs.Ytjhlmhehojjgfaa.fnExactAppendFile
open Go.ChangeShapes Go.WideShapes Go.ChangeAt Go.RowKit
set_option linter.unusedVariables false
set_option linter.unusedSimpArgs false

set_option maxRecDepth 10000 in
set_option maxHeartbeats 3200000 in
theorem walk (a0 : Option Addr) (n0 ca0 : Nat) (xs0 : List Int) (a1 : Option Addr) (n1 ca1 : Nat) (xs1 : List Int) (w : World) (hr0 : Rd .u8 w a0 n0 xs0) (hB0 : Bytes xs0) (hm0 : n0 ≤ maxLen) (hr1 : Rd .u8 w a1 n1 xs1) (hB1 : Bytes xs1) (hm1 : n1 ≤ maxLen) :
    Calls Try.prog 6 #[.agg #[.slice a0 n0 ca0], .slice a1 n1 ca1] w fun e w' => e = .returned (.bool true) ∧ Below w.heap.size w w' := by
  unfold maxLen at hm1
  by_cases hn1 : n1 ≤ 1048576
  · skip
    by_cases hn0 : n0 ≤ 1048576
    · skip
      unfold maxLen at hm0
      have SC := fun (A0 : Option Addr) (C0 : Nat) (A1 : Option Addr) (C1 : Nat) (W' : World) (H0 : Rd .u8 W' A0 n0 xs0) (J0 : n0 ≤ C0) (M0 : C0 ≤ maxLen) (H1 : Rd .u8 W' A1 n1 xs1) (J1 : n1 ≤ C1) (M1 : C1 ≤ maxLen) => specAppendFile_any A0 A1 n0 n1 C0 C1 xs0 xs1 W' H0 H1 (by omega) (by omega)
      have IC := fun (A0 : Option Addr) (C0 : Nat) (A1 : Option Addr) (C1 : Nat) (W' : World) (H0 : Rd .u8 W' A0 n0 xs0) (J0 : n0 ≤ C0) (M0 : C0 ≤ maxLen) (H1 : Rd .u8 W' A1 n1 xs1) (J1 : n1 ≤ C1) (M1 : C1 ≤ maxLen) => implAppendFile_any A0 A1 n0 n1 C0 C1 xs0 xs1 W' H0 H1 (by omega) (by omega)
      have hrl := apRes_len xs0 xs1
      generalize apCode xs0 xs1 = cd at *
      generalize apRes xs0 xs1 = rs at *
      generalize hml : rs.length = m at *
      clear hml
      have HSC : Hid _ := SC
      have HIC : Hid _ := IC
      clear SC IC
      go_enter Try.func6, Try.ntmps6
      have hb : Below w.heap.size w w := Below.refl _ _
      go_wp2_with fail
      have bp : ∀ o0, Below w.heap.size w (w.alloc o0) := fun o0 => (Below.refl _ _).alloc (Nat.le_refl _) o0
      have hbt : ∀ o0, Below w.heap.size w (w.alloc o0) := fun o0 => hb.trans ((bp o0).mono hb.size)
      refine Calls.mono (szFile_yes a0 n0 ca0 1048576 _ (by omega) (by omega)) ?_
      rintro e w1 ⟨rfl, hc⟩
      have s1 : w.heap.size + 1 ≤ w1.heap.size := by have := hc.size; simp at this; omega
      have bq : Below w.heap.size w w1 := (bp _).trans (hc.mono (bp _).size)
      have caF0 : w1.cell? ⟨w.heap.size, 0, none⟩ = some (.slice a0 n0 ca0) := cell_later hc (by simp [go_sem])
      have zaF : w.heap.size < w1.heap.size := by omega
      replace hb := hb.trans (bq.mono hb.size)
      clear hc bq bp hbt
      have hleft : ¬ (1048576 - (n0 : Int) < 0) := by omega
      go_wp2_with fail
      refine Calls.mono (toFile_any a0 n0 ca0 xs0 _ (hr0.below hb) (by omega)) ?_
      rintro e w2 ⟨vt2, rfl, rt2, hc⟩
      obtain ⟨at2, kt2, rfl, q1, q2⟩ := rt2.shape
      have Kt2 : Hid _ := And.intro q1 q2
      clear q1 q2
      have s2 : w1.heap.size ≤ w2.heap.size := hc.size
      have bq := hc
      replace caF0 := cell_later bq caF0
      replace zaF := Nat.lt_of_lt_of_le zaF bq.size
      replace hb := hb.trans (bq.mono hb.size)
      clear hc bq
      go_wp2_with fail
      refine Calls.mono (toByteS_row a1 n1 ca1 xs1 _ (hr1.below hb) (by omega)) ?_
      rintro e w3 ⟨vt3, rfl, rt3, hc⟩
      obtain ⟨at3, kt3, rfl, q1, q2⟩ := rt3.shape
      have Kt3 : Hid _ := And.intro q1 q2
      clear q1 q2
      have s3 : w2.heap.size ≤ w3.heap.size := hc.size
      have bq := hc
      replace caF0 := cell_later bq caF0
      replace zaF := Nat.lt_of_lt_of_le zaF bq.size
      replace rt2 := rt2.below bq
      replace hb := hb.trans (bq.mono hb.size)
      clear hc bq
      go_wp2_with fail
      refine Calls.mono (HSC.out at2 kt2 at3 kt3 _ rt2.read Kt2.out.1 Kt2.out.2 rt3.read Kt3.out.1 Kt3.out.2) ?_
      rintro e w4 ⟨vg4, rfl, rg4, hc⟩
      obtain ⟨ag4, kg4, rfl, _⟩ := rg4.shape
      have s4 : w3.heap.size ≤ w4.heap.size := hc.size
      have bq := hc
      replace caF0 := cell_later bq caF0
      replace zaF := Nat.lt_of_lt_of_le zaF bq.size
      replace rt2 := rt2.below bq
      replace rt3 := rt3.below bq
      replace hb := hb.trans (bq.mono hb.size)
      clear hc bq
      clear rt2
      clear Kt2
      clear rt3
      clear Kt3
      go_wp2_with fail
      have bp : ∀ o0, Below w4.heap.size w4 (w4.alloc o0) := fun o0 => (Below.refl _ _).alloc (Nat.le_refl _) o0
      have hbt : ∀ o0, Below w.heap.size w (w4.alloc o0) := fun o0 => hb.trans ((bp o0).mono hb.size)
      refine Calls.mono (toFile_any a0 n0 ca0 xs0 _ (hr0.below (hbt _)) (by omega)) ?_
      rintro e w5 ⟨vt5, rfl, rt5, hc⟩
      obtain ⟨at5, kt5, rfl, q1, q2⟩ := rt5.shape
      have Kt5 : Hid _ := And.intro q1 q2
      clear q1 q2
      replace rt5 := RowI.mono (lo' := w4.heap.size + 1) rt5 (by simp) (Nat.le_refl _)
      have s5 : w4.heap.size + 1 ≤ w5.heap.size := by have := hc.size; simp at this; omega
      have bq : Below w4.heap.size w4 w5 := (bp _).trans (hc.mono (bp _).size)
      replace caF0 := cell_later bq caF0
      replace zaF := Nat.lt_of_lt_of_le zaF bq.size
      have cw00 : w5.cell? ⟨w4.heap.size, 0, none⟩ = some (.int .i64 cd) := cell_later hc (by simp [go_sem])
      have cw01 : w5.cell? ⟨w4.heap.size, 1, none⟩ = some (.slice ag4 m kg4) := cell_later hc (by simp [go_sem])
      have zw0 : w4.heap.size < w5.heap.size := by omega
      replace rg4 := rg4.below bq
      replace hb := hb.trans (bq.mono hb.size)
      clear hc bq bp hbt
      go_wp2_with fail
      have bp : ∀ o0, Below w5.heap.size w5 (w5.alloc o0) := fun o0 => (Below.refl _ _).alloc (Nat.le_refl _) o0
      have hbt : ∀ o0, Below w.heap.size w (w5.alloc o0) := fun o0 => hb.trans ((bp o0).mono hb.size)
      refine Calls.mono (toByteS_row a1 n1 ca1 xs1 _ (hr1.below (hbt _)) (by omega)) ?_
      rintro e w6 ⟨vt6, rfl, rt6, hc⟩
      obtain ⟨at6, kt6, rfl, q1, q2⟩ := rt6.shape
      have Kt6 : Hid _ := And.intro q1 q2
      clear q1 q2
      replace rt6 := RowI.mono (lo' := w5.heap.size + 1) rt6 (by simp) (Nat.le_refl _)
      have s6 : w5.heap.size + 1 ≤ w6.heap.size := by have := hc.size; simp at this; omega
      have bq : Below w5.heap.size w5 w6 := (bp _).trans (hc.mono (bp _).size)
      replace caF0 := cell_later bq caF0
      replace zaF := Nat.lt_of_lt_of_le zaF bq.size
      replace cw00 := cell_later bq cw00
      replace cw01 := cell_later bq cw01
      replace zw0 := Nat.lt_of_lt_of_le zw0 bq.size
      have cx00 : w6.cell? ⟨w5.heap.size, 0, none⟩ = some (.slice at5 n0 kt5) := cell_later hc (by simp [go_sem])
      have zx0 : w5.heap.size < w6.heap.size := by omega
      replace rg4 := rg4.below bq
      replace rt5 := rt5.below bq
      replace hb := hb.trans (bq.mono hb.size)
      clear hc bq bp hbt
      go_wp2_with fail
      refine Calls.mono (HIC.out at5 kt5 at6 kt6 _ rt5.read Kt5.out.1 Kt5.out.2 rt6.read Kt6.out.1 Kt6.out.2) ?_
      rintro e w7 ⟨vg7, rfl, rg7, hc⟩
      obtain ⟨ag7, kg7, rfl, _⟩ := rg7.shape
      have s7 : w6.heap.size ≤ w7.heap.size := hc.size
      have bq := hc
      replace caF0 := cell_later bq caF0
      replace zaF := Nat.lt_of_lt_of_le zaF bq.size
      replace cw00 := cell_later bq cw00
      replace cw01 := cell_later bq cw01
      replace zw0 := Nat.lt_of_lt_of_le zw0 bq.size
      replace cx00 := cell_later bq cx00
      replace zx0 := Nat.lt_of_lt_of_le zx0 bq.size
      replace rg4 := rg4.below bq
      replace rt5 := rt5.below bq
      replace rt6 := rt6.below bq
      replace hb := hb.trans (bq.mono hb.size)
      clear hc bq
      go_wp2_with fail
      have bp : ∀ o0, Below w7.heap.size w7 (w7.alloc o0) := fun o0 => (Below.refl _ _).alloc (Nat.le_refl _) o0
      have hbt : ∀ o0, Below w.heap.size w (w7.alloc o0) := fun o0 => hb.trans ((bp o0).mono hb.size)
      refine Calls.mono (eqFileResult_yes cd ag7 ag4 m kg7 kg4 rs _ (rg7.below (bp _)).read (rg4.below (bp _)).read (by unfold maxLen; omega)) ?_
      rintro e w8 ⟨rfl, hc⟩
      have s8 : w7.heap.size + 1 ≤ w8.heap.size := by have := hc.size; simp at this; omega
      have bq : Below w7.heap.size w7 w8 := (bp _).trans (hc.mono (bp _).size)
      replace caF0 := cell_later bq caF0
      replace zaF := Nat.lt_of_lt_of_le zaF bq.size
      replace cw00 := cell_later bq cw00
      replace cw01 := cell_later bq cw01
      replace zw0 := Nat.lt_of_lt_of_le zw0 bq.size
      replace cx00 := cell_later bq cx00
      replace zx0 := Nat.lt_of_lt_of_le zx0 bq.size
      have cg00 : w8.cell? ⟨w7.heap.size, 0, none⟩ = some (.int .i64 cd) := cell_later hc (by simp [go_sem])
      have cg01 : w8.cell? ⟨w7.heap.size, 1, none⟩ = some (.slice ag7 m kg7) := cell_later hc (by simp [go_sem])
      have zg0 : w7.heap.size < w8.heap.size := by omega
      replace rg4 := rg4.below bq
      replace rt5 := rt5.below bq
      replace rt6 := rt6.below bq
      replace rg7 := rg7.below bq
      replace hb := hb.trans (bq.mono hb.size)
      clear hc bq bp hbt
      go_wp2_with fail
      have bd : Below w8.heap.size w8 w8.drew := (Below.refl _ _).drew
      refine wp_region_held_drew (S := fun w' => w'.cell? ⟨w5.heap.size, 0, none⟩ = some (.slice at5 n0 kt5) ∧ w'.cell? ⟨w.heap.size, 0, none⟩ = some (.slice a0 n0 ca0)) (by kernel_rfl) (by exact ⟨cx00, caF0⟩) (fun hS => ?_)
      refine wpAnyH_take (i := 0) (v := (.agg #[.slice at5 n0 kt5])) rfl (by kernel_rfl) (by kernel_rfl) (by kernel_rfl) (fun _ _ _ h => h) (Or.inl ⟨by rfl, ?_⟩) hS ?_
      · intro w hSw; (try dsimp only at hSw); go_simp
      simp only [Act.put, List.getElem_toArray, List.getElem_cons_zero, List.getElem_cons_succ, List.setIfInBounds_toArray, List.set_cons_zero, List.set_cons_succ]
      refine wpAnyH_take (i := 1) (v := (.agg #[.slice a0 n0 ca0])) rfl (by kernel_rfl) (by kernel_rfl) (by kernel_rfl) (fun _ _ _ h => h) (Or.inl ⟨by rfl, ?_⟩) hS ?_
      · intro w hSw; (try dsimp only at hSw); go_simp
      simp only [Act.put, List.getElem_toArray, List.getElem_cons_zero, List.getElem_cons_succ, List.setIfInBounds_toArray, List.set_cons_zero, List.set_cons_succ]
      refine wpAnyH_ready (rs := [2]) (by kernel_rfl) (by simp) ?_
      refine AllReadyH.cons rfl (fun K hK => ?_) AllReadyH.nil
      go_simp
      refine Calls.mono (toFile_any a0 n0 ca0 xs0 _ (hr0.below hb.drew) (by omega)) ?_
      rintro e w9 ⟨vt9, rfl, rt9, hc0⟩
      obtain ⟨at9, kt9, rfl, _⟩ := rt9.shape
      replace rt9 := RowI.mono (lo' := w8.heap.size) rt9 (Nat.le_refl _) (Nat.le_refl _)
      refine hK.out _ _ ⟨cell_later hc0 hS.1, cell_later hc0 hS.2⟩ (fun hS => ?_)
      clear hK K
      have hc : Below w8.heap.size w8 w9 := bd.trans (hc0.mono (Nat.le_refl _))
      clear hc0 bd
      have s9 : w8.heap.size ≤ w9.heap.size := hc.size
      have bq := hc
      replace caF0 := cell_later bq caF0
      replace zaF := Nat.lt_of_lt_of_le zaF bq.size
      replace cw00 := cell_later bq cw00
      replace cw01 := cell_later bq cw01
      replace zw0 := Nat.lt_of_lt_of_le zw0 bq.size
      replace cx00 := cell_later bq cx00
      replace zx0 := Nat.lt_of_lt_of_le zx0 bq.size
      replace cg00 := cell_later bq cg00
      replace cg01 := cell_later bq cg01
      replace zg0 := Nat.lt_of_lt_of_le zg0 bq.size
      replace rg4 := rg4.below bq
      replace rt5 := rt5.below bq
      replace rt6 := rt6.below bq
      replace rg7 := rg7.below bq
      replace hb := hb.trans (bq.mono hb.size)
      clear hc bq
      refine wpAnyH_ready (rs := [3]) (by kernel_rfl) (by simp) ?_
      refine AllReadyH.cons rfl (fun K hK => ?_) AllReadyH.nil
      go_simp
      refine Calls.mono (eqFile_yes at5 at9 n0 kt5 kt9 xs0 _ rt5.read rt9.read (by unfold maxLen; omega)) ?_
      rintro e w10 ⟨rfl, hc⟩
      refine hK.out _ _ ⟨cell_later hc hS.1, cell_later hc hS.2⟩ (fun hS => ?_)
      clear hK K
      have s10 : w9.heap.size ≤ w10.heap.size := hc.size
      have bq := hc
      replace caF0 := cell_later bq caF0
      replace zaF := Nat.lt_of_lt_of_le zaF bq.size
      replace cw00 := cell_later bq cw00
      replace cw01 := cell_later bq cw01
      replace zw0 := Nat.lt_of_lt_of_le zw0 bq.size
      replace cx00 := cell_later bq cx00
      replace zx0 := Nat.lt_of_lt_of_le zx0 bq.size
      replace cg00 := cell_later bq cg00
      replace cg01 := cell_later bq cg01
      replace zg0 := Nat.lt_of_lt_of_le zg0 bq.size
      replace rg4 := rg4.below bq
      replace rt5 := rt5.below bq
      replace rt6 := rt6.below bq
      replace rg7 := rg7.below bq
      replace rt9 := rt9.below bq
      replace hb := hb.trans (bq.mono hb.size)
      clear hc bq
      clear rt9
      refine wpAnyH_take (i := 4) (v := (.bool false)) rfl (by kernel_rfl) (by kernel_rfl) (by kernel_rfl) (fun _ _ _ h => h) (Or.inl ⟨by rfl, ?_⟩) hS ?_
      · intro w hSw; (try dsimp only at hSw); go_simp
      simp only [Act.put, List.getElem_toArray, List.getElem_cons_zero, List.getElem_cons_succ, List.setIfInBounds_toArray, List.set_cons_zero, List.set_cons_succ]
      refine wpAnyH_done (by kernel_rfl) ?_ _
      clear hS
      go_wp2_with fail
      refine Calls.mono (toByteS_row a1 n1 ca1 xs1 _ (hr1.below hb) (by omega)) ?_
      rintro e w11 ⟨vt11, rfl, rt11, hc⟩
      obtain ⟨at11, kt11, rfl, q1, q2⟩ := rt11.shape
      have Kt11 : Hid _ := And.intro q1 q2
      clear q1 q2
      have s11 : w10.heap.size ≤ w11.heap.size := hc.size
      have bq := hc
      replace caF0 := cell_later bq caF0
      replace zaF := Nat.lt_of_lt_of_le zaF bq.size
      replace cw00 := cell_later bq cw00
      replace cw01 := cell_later bq cw01
      replace zw0 := Nat.lt_of_lt_of_le zw0 bq.size
      replace cx00 := cell_later bq cx00
      replace zx0 := Nat.lt_of_lt_of_le zx0 bq.size
      replace cg00 := cell_later bq cg00
      replace cg01 := cell_later bq cg01
      replace zg0 := Nat.lt_of_lt_of_le zg0 bq.size
      replace rg4 := rg4.below bq
      replace rt5 := rt5.below bq
      replace rt6 := rt6.below bq
      replace rg7 := rg7.below bq
      replace hb := hb.trans (bq.mono hb.size)
      clear hc bq
      go_wp2_with fail
      refine Calls.mono (eqByteS_yes at6 at11 n1 kt6 kt11 xs1 _ rt6.read rt11.read (by unfold maxLen; omega)) ?_
      rintro e w12 ⟨rfl, hc⟩
      have s12 : w11.heap.size ≤ w12.heap.size := hc.size
      have bq := hc
      replace caF0 := cell_later bq caF0
      replace zaF := Nat.lt_of_lt_of_le zaF bq.size
      replace cw00 := cell_later bq cw00
      replace cw01 := cell_later bq cw01
      replace zw0 := Nat.lt_of_lt_of_le zw0 bq.size
      replace cx00 := cell_later bq cx00
      replace zx0 := Nat.lt_of_lt_of_le zx0 bq.size
      replace cg00 := cell_later bq cg00
      replace cg01 := cell_later bq cg01
      replace zg0 := Nat.lt_of_lt_of_le zg0 bq.size
      replace rg4 := rg4.below bq
      replace rt5 := rt5.below bq
      replace rt6 := rt6.below bq
      replace rg7 := rg7.below bq
      replace rt11 := rt11.below bq
      replace hb := hb.trans (bq.mono hb.size)
      clear hc bq
      clear rt11
      go_wp2_with fail
      refine Calls.mono (markFile_row 1 _ n0 _ _ xs0 _ rt5 (by omega) (by omega) (by omega)) ?_
      clear rt5
      rintro e w13 ⟨rfl, rt5, hc⟩
      have s13 : w12.heap.size ≤ w13.heap.size := hc.size
      have cq := hc
      replace caF0 := cq.at caF0 zaF (by omega)
      replace zaF := Nat.lt_of_lt_of_le zaF cq.size
      replace cw00 := cq.at cw00 zw0 (by omega)
      replace cw01 := cq.at cw01 zw0 (by omega)
      replace zw0 := Nat.lt_of_lt_of_le zw0 cq.size
      replace cx00 := cq.at cx00 zx0 (by omega)
      replace zx0 := Nat.lt_of_lt_of_le zx0 cq.size
      replace cg00 := cq.at cg00 zg0 (by omega)
      replace cg01 := cq.at cg01 zg0 (by omega)
      replace zg0 := Nat.lt_of_lt_of_le zg0 cq.size
      replace rg4 := rg4.chg cq (by omega)
      replace rt6 := rt6.chg cq (by omega)
      replace rg7 := rg7.chg cq (by omega)
      replace hb := below_chg hb cq hb.size (by omega)
      clear hc cq
      have hk13 : ¬ (1 + (n0 : Int)) < 0 := by omega
      go_wp2_with fail
      refine Calls.mono (markByteS_row _ n1 _ _ xs1 (1 + (n0 : Int)) _ rt6 (by omega) (by omega) (by omega)) ?_
      clear rt6
      rintro e w14 ⟨rfl, rt6, hc⟩
      have s14 : w13.heap.size ≤ w14.heap.size := hc.size
      have cq := hc
      replace caF0 := cq.at caF0 zaF (by omega)
      replace zaF := Nat.lt_of_lt_of_le zaF cq.size
      replace cw00 := cq.at cw00 zw0 (by omega)
      replace cw01 := cq.at cw01 zw0 (by omega)
      replace zw0 := Nat.lt_of_lt_of_le zw0 cq.size
      replace cx00 := cq.at cx00 zx0 (by omega)
      replace zx0 := Nat.lt_of_lt_of_le zx0 cq.size
      replace cg00 := cq.at cg00 zg0 (by omega)
      replace cg01 := cq.at cg01 zg0 (by omega)
      replace zg0 := Nat.lt_of_lt_of_le zg0 cq.size
      replace rg4 := rg4.chg cq (by omega)
      replace rt5 := rt5.chg cq (by omega)
      replace rg7 := rg7.chg cq (by omega)
      replace hb := below_chg hb cq hb.size (by omega)
      clear hc cq
      have hk14 : ¬ ((1 + (n0 : Int)) + (n1 : Int)) < 0 := by omega
      go_wp2_with fail
      refine Calls.mono (eqFileResult_yes cd ag7 ag4 m kg7 kg4 rs _ rg7.read rg4.read (by unfold maxLen; omega)) ?_
      rintro e w15 ⟨rfl, hc⟩
      have s15 : w14.heap.size ≤ w15.heap.size := hc.size
      have bq := hc
      replace caF0 := cell_later bq caF0
      replace zaF := Nat.lt_of_lt_of_le zaF bq.size
      replace cw00 := cell_later bq cw00
      replace cw01 := cell_later bq cw01
      replace zw0 := Nat.lt_of_lt_of_le zw0 bq.size
      replace cx00 := cell_later bq cx00
      replace zx0 := Nat.lt_of_lt_of_le zx0 bq.size
      replace cg00 := cell_later bq cg00
      replace cg01 := cell_later bq cg01
      replace zg0 := Nat.lt_of_lt_of_le zg0 bq.size
      replace rg4 := rg4.below bq
      replace rt5 := rt5.below bq
      replace rt6 := rt6.below bq
      replace rg7 := rg7.below bq
      replace hb := hb.trans (bq.mono hb.size)
      clear hc bq
      go_wp2_with fail
      refine Calls.mono (markFileResult_row cd 1 _ m _ _ rs _ rg7 (by omega) (by omega) (by omega)) ?_
      clear rg7
      rintro e w16 ⟨rfl, rg7, hc⟩
      have s16 : w15.heap.size ≤ w16.heap.size := hc.size
      have cq := hc
      replace caF0 := cq.at caF0 zaF (by omega)
      replace zaF := Nat.lt_of_lt_of_le zaF cq.size
      replace cw00 := cq.at cw00 zw0 (by omega)
      replace cw01 := cq.at cw01 zw0 (by omega)
      replace zw0 := Nat.lt_of_lt_of_le zw0 cq.size
      replace cx00 := cq.at cx00 zx0 (by omega)
      replace zx0 := Nat.lt_of_lt_of_le zx0 cq.size
      replace cg00 := cq.at cg00 zg0 (by omega)
      replace cg01 := cq.at cg01 zg0 (by omega)
      replace zg0 := Nat.lt_of_lt_of_le zg0 cq.size
      replace rg4 := rg4.chg cq (by omega)
      replace rt5 := rt5.chg cq (by omega)
      replace rt6 := rt6.chg cq (by omega)
      replace hb := below_chg hb cq hb.size (by omega)
      clear hc cq
      have hk16 : ¬ (1 + (m : Int)) < 0 := by omega
      go_wp2_with fail
      refine Calls.mono (heldFileResult_yes cd 1 ag7 m kg7 _ rg7.read (by omega) (by omega) (by omega)) ?_
      rintro e w17 ⟨rfl, hc⟩
      have s17 : w16.heap.size ≤ w17.heap.size := hc.size
      have bq := hc
      replace caF0 := cell_later bq caF0
      replace zaF := Nat.lt_of_lt_of_le zaF bq.size
      replace cw00 := cell_later bq cw00
      replace cw01 := cell_later bq cw01
      replace zw0 := Nat.lt_of_lt_of_le zw0 bq.size
      replace cx00 := cell_later bq cx00
      replace zx0 := Nat.lt_of_lt_of_le zx0 bq.size
      replace cg00 := cell_later bq cg00
      replace cg01 := cell_later bq cg01
      replace zg0 := Nat.lt_of_lt_of_le zg0 bq.size
      replace rg4 := rg4.below bq
      replace rt5 := rt5.below bq
      replace rt6 := rt6.below bq
      replace rg7 := rg7.below bq
      replace hb := hb.trans (bq.mono hb.size)
      clear hc bq
      go_wp2_with fail
      refine Calls.mono (toFile_any a0 n0 ca0 xs0 _ (hr0.below hb) (by omega)) ?_
      rintro e w18 ⟨vt18, rfl, rt18, hc⟩
      obtain ⟨at18, kt18, rfl, q1, q2⟩ := rt18.shape
      have Kt18 : Hid _ := And.intro q1 q2
      clear q1 q2
      have s18 : w17.heap.size ≤ w18.heap.size := hc.size
      have bq := hc
      replace caF0 := cell_later bq caF0
      replace zaF := Nat.lt_of_lt_of_le zaF bq.size
      replace cw00 := cell_later bq cw00
      replace cw01 := cell_later bq cw01
      replace zw0 := Nat.lt_of_lt_of_le zw0 bq.size
      replace cx00 := cell_later bq cx00
      replace zx0 := Nat.lt_of_lt_of_le zx0 bq.size
      replace cg00 := cell_later bq cg00
      replace cg01 := cell_later bq cg01
      replace zg0 := Nat.lt_of_lt_of_le zg0 bq.size
      replace rg4 := rg4.below bq
      replace rt5 := rt5.below bq
      replace rt6 := rt6.below bq
      replace rg7 := rg7.below bq
      replace hb := hb.trans (bq.mono hb.size)
      clear hc bq
      go_wp2_with fail
      refine Calls.mono (toByteS_row a1 n1 ca1 xs1 _ (hr1.below hb) (by omega)) ?_
      rintro e w19 ⟨vt19, rfl, rt19, hc⟩
      obtain ⟨at19, kt19, rfl, q1, q2⟩ := rt19.shape
      have Kt19 : Hid _ := And.intro q1 q2
      clear q1 q2
      have s19 : w18.heap.size ≤ w19.heap.size := hc.size
      have bq := hc
      replace caF0 := cell_later bq caF0
      replace zaF := Nat.lt_of_lt_of_le zaF bq.size
      replace cw00 := cell_later bq cw00
      replace cw01 := cell_later bq cw01
      replace zw0 := Nat.lt_of_lt_of_le zw0 bq.size
      replace cx00 := cell_later bq cx00
      replace zx0 := Nat.lt_of_lt_of_le zx0 bq.size
      replace cg00 := cell_later bq cg00
      replace cg01 := cell_later bq cg01
      replace zg0 := Nat.lt_of_lt_of_le zg0 bq.size
      replace rg4 := rg4.below bq
      replace rt5 := rt5.below bq
      replace rt6 := rt6.below bq
      replace rg7 := rg7.below bq
      replace rt18 := rt18.below bq
      replace hb := hb.trans (bq.mono hb.size)
      clear hc bq
      go_wp2_with fail
      refine Calls.mono (HIC.out at18 kt18 at19 kt19 _ rt18.read Kt18.out.1 Kt18.out.2 rt19.read Kt19.out.1 Kt19.out.2) ?_
      rintro e w20 ⟨vg20, rfl, rg20, hc⟩
      obtain ⟨ag20, kg20, rfl, _⟩ := rg20.shape
      have s20 : w19.heap.size ≤ w20.heap.size := hc.size
      have bq := hc
      replace caF0 := cell_later bq caF0
      replace zaF := Nat.lt_of_lt_of_le zaF bq.size
      replace cw00 := cell_later bq cw00
      replace cw01 := cell_later bq cw01
      replace zw0 := Nat.lt_of_lt_of_le zw0 bq.size
      replace cx00 := cell_later bq cx00
      replace zx0 := Nat.lt_of_lt_of_le zx0 bq.size
      replace cg00 := cell_later bq cg00
      replace cg01 := cell_later bq cg01
      replace zg0 := Nat.lt_of_lt_of_le zg0 bq.size
      replace rg4 := rg4.below bq
      replace rt5 := rt5.below bq
      replace rt6 := rt6.below bq
      replace rg7 := rg7.below bq
      replace rt18 := rt18.below bq
      replace rt19 := rt19.below bq
      replace hb := hb.trans (bq.mono hb.size)
      clear hc bq
      clear rt18
      clear Kt18
      clear rt19
      clear Kt19
      go_wp2_with fail
      have bp : ∀ o0, Below w20.heap.size w20 (w20.alloc o0) := fun o0 => (Below.refl _ _).alloc (Nat.le_refl _) o0
      have hbt : ∀ o0, Below w.heap.size w (w20.alloc o0) := fun o0 => hb.trans ((bp o0).mono hb.size)
      refine Calls.mono (eqFileResult_yes cd ag20 ag4 m kg20 kg4 rs _ (rg20.below (bp _)).read (rg4.below (bp _)).read (by unfold maxLen; omega)) ?_
      rintro e w21 ⟨rfl, hc⟩
      have s21 : w20.heap.size + 1 ≤ w21.heap.size := by have := hc.size; simp at this; omega
      have bq : Below w20.heap.size w20 w21 := (bp _).trans (hc.mono (bp _).size)
      replace caF0 := cell_later bq caF0
      replace zaF := Nat.lt_of_lt_of_le zaF bq.size
      replace cw00 := cell_later bq cw00
      replace cw01 := cell_later bq cw01
      replace zw0 := Nat.lt_of_lt_of_le zw0 bq.size
      replace cx00 := cell_later bq cx00
      replace zx0 := Nat.lt_of_lt_of_le zx0 bq.size
      replace cg00 := cell_later bq cg00
      replace cg01 := cell_later bq cg01
      replace zg0 := Nat.lt_of_lt_of_le zg0 bq.size
      have ch00 : w21.cell? ⟨w20.heap.size, 0, none⟩ = some (.int .i64 cd) := cell_later hc (by simp [go_sem])
      have ch01 : w21.cell? ⟨w20.heap.size, 1, none⟩ = some (.slice ag20 m kg20) := cell_later hc (by simp [go_sem])
      have zh0 : w20.heap.size < w21.heap.size := by omega
      replace rg4 := rg4.below bq
      replace rt5 := rt5.below bq
      replace rt6 := rt6.below bq
      replace rg7 := rg7.below bq
      replace rg20 := rg20.below bq
      replace hb := hb.trans (bq.mono hb.size)
      clear hc bq bp hbt
      go_wp2_with fail
      refine Calls.mono (heldFileResult_yes cd 1 ag7 m kg7 _ rg7.read (by omega) (by omega) (by omega)) ?_
      rintro e w22 ⟨rfl, hc⟩
      have s22 : w21.heap.size ≤ w22.heap.size := hc.size
      have bq := hc
      replace caF0 := cell_later bq caF0
      replace zaF := Nat.lt_of_lt_of_le zaF bq.size
      replace cw00 := cell_later bq cw00
      replace cw01 := cell_later bq cw01
      replace zw0 := Nat.lt_of_lt_of_le zw0 bq.size
      replace cx00 := cell_later bq cx00
      replace zx0 := Nat.lt_of_lt_of_le zx0 bq.size
      replace cg00 := cell_later bq cg00
      replace cg01 := cell_later bq cg01
      replace zg0 := Nat.lt_of_lt_of_le zg0 bq.size
      replace ch00 := cell_later bq ch00
      replace ch01 := cell_later bq ch01
      replace zh0 := Nat.lt_of_lt_of_le zh0 bq.size
      replace rg4 := rg4.below bq
      replace rt5 := rt5.below bq
      replace rt6 := rt6.below bq
      replace rg7 := rg7.below bq
      replace rg20 := rg20.below bq
      replace hb := hb.trans (bq.mono hb.size)
      clear hc bq
      go_wp2
      go_ret
      exact ⟨rfl, hb⟩
    · go_enter Try.func6, Try.ntmps6
      go_wp2_with fail
      refine Calls.mono (szFile_no a0 n0 ca0 1048576 _ (by omega) hm0 (by omega) (by omega)) ?_
      rintro e w1 ⟨rfl, hc⟩
      have hb1 := ((Below.refl _ _).alloc (Nat.le_refl _) _ : Below w.heap.size w _).trans (hc.mono (by simp))
      go_wp2
      go_ret
      exact ⟨rfl, hb1⟩
  · go_enter Try.func6, Try.ntmps6
    go_wp2
    go_ret
    exact ⟨rfl, (Below.refl _ _).alloc (Nat.le_refl _) _⟩

theorem own : ownKnob Try.prog.godebug = none := by kernel_rfl
theorem laidOut : laidOutB Try.prog = true := by kernel_rfl

set_option maxRecDepth 100000 in
theorem lifted (os : Os) (started : os.Started) (H : Type) (enc : TypeId × Value → H) :
    ReturnsInHanded {} Try.checked os 6 .any (Rows.fnExactAppendFileSpec.pre6 enc Try.prog Try.f6 Rows.fnExactAppendFileRow.domain false) (Rows.fnExactAppendFileSpec.post enc Try.prog Try.f6 false true false false) := by
  refine returnsInHanded_of_change (C := Try.checked) own started (by kernel_rfl) Try.func6
    (ChangeSpec.witness6 (enc := enc) (C := Try.checked) false ⟨#[], #[.agg #[.slice none 0 0], .slice none 0 0], []⟩ 8 (by kernel_rfl) (by kernel_rfl) (by kernel_rfl) (by kernel_rfl)) ?_
  intro W base args ds gs before hval0 hW hcnd _
  have hval : ∀ (j : Nat) t v, Try.f6.params[j]? = some t → args[j]? = some v → Value.okWide Try.prog W .any base t v := hval0
  have hW' := hW
  obtain ⟨p, q, hA0, hV, rfl, hfz, hnd⟩ := hW
  have hA : DataW.TrodAll enc Try.prog W 0 (fun _ => true) true Try.f6.params.toList args.toList ds p := hA0
  rw [Try.params6] at hA hval
  obtain ⟨v0, v1, d0, d1, p0, p1, rfl, rfl, rfl, h0, h1⟩ := trodAll_two hA
  obtain ⟨rfl, rfl⟩ := trodVars_none hV
  have k0 := h0
  have lt0 : ∀ x ∈ p0, x.block < W.heap.size := by obtain ⟨m, hm⟩ := k0; exact DataW.trod_lt m _ _ _ hm
  obtain ⟨a0, len0, cap0, x0, rfl, hr0, hB0, hm0⟩ := open_file (hval 0 50 v0 rfl rfl) h0
  have k1 := h1
  have lt1 : ∀ x ∈ p1, x.block < W.heap.size := by obtain ⟨m, hm⟩ := k1; exact DataW.trod_lt m _ _ _ hm
  obtain ⟨a1, len1, cap1, rfl⟩ := okWide_slice Try.underlying22 (hval 1 22 v1 rfl rfl)
  obtain ⟨x1, hr1, hB1, hm1⟩ := open_bytes Try.underlying22 Try.underlying5 (by kernel_rfl) h1
  clear hA0 hval0
  refine (walk a0 len0 cap0 x0 a1 len1 cap1 x1 W hr0 hB0 hm0 hr1 hB1 hm1).mono fun e W' ⟨he, bel⟩ => ?_
  subst he
  exact ⟨_, rfl, _, _, _, [], _, [], hW', trodAll_mk1 (shut_bool Try.underlying4 _), trodAll_mk2 (Below.trod laidOut (by kernel_rfl) (of_decide_eq_true (by kernel_rfl)) k0 bel lt0) (Below.trod laidOut (by kernel_rfl) (of_decide_eq_true (by kernel_rfl)) k1 bel lt1), rfl, bel.frame _, fun h => by cases h⟩

theorem proved : Rows.FnExactAppendFileSaid :=
  OpenClaim.holds_of_wide 6 Try.f6 rfl rfl rfl rfl rfl rfl rfl ⟨rfl, rfl, rfl, rfl, rfl⟩ rfl rfl rfl rfl rfl (by kernel_rfl) Try.func6 (by kernel_rfl)
    (of_decide_eq_true (by kernel_rfl)) (by unfold Func.isWrapper; first | (rw [if_pos (by decide +kernel)]; kernel_rfl) | (rw [if_neg (by decide +kernel)]; exact ⟨rfl, rfl⟩))
    (fun os started H enc _ => lifted os started H enc)
end Go.Proofs.Ytjhlmhehojjgfaa.fnExactAppendFile
namespace Go.Proofs.Ytjhlmhehojjgfaa
theorem fnExactAppendFile_proved : Rows.FnExactAppendFileSaid := fnExactAppendFile.proved
end Go.Proofs.Ytjhlmhehojjgfaa
