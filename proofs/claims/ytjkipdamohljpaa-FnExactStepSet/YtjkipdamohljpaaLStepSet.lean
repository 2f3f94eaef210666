/-
  For every list of instructions, every set and byte, FnExactStepSet returns true: the program's StepSet answers as the model, writes into no argument, and its answer owns its memory; no condition.
-/
import Derived.Test.YtjkipdamohljpaaHlpU
import Derived.Test.YtjkipdamohljpaaSet9
import Derived.Test.YtjkipdamohljpaaArgsN
import Derived.ProofKit
import Derived.OpenShut
import Derived.ChangeOld
import Derived.Below
import Derived.Carry
import Derived.Deep.RegionWith
import Derived.Deep.RegionHeld3
namespace Go.Proofs.Ytjkipdamohljpaa.fnExactStepSet
open Go.ChangeShapes Go.WideShapes Go.ChangeAt Go.RowKit
set_option linter.unusedVariables false
set_option linter.unusedSimpArgs false

set_option maxRecDepth 10000 in
set_option maxHeartbeats 3200000 in
theorem walk (a0 : Option Addr) (n0 ca0 : Nat) (xs0 : List In) (a1 : Option Addr) (n1 ca1 : Nat) (xs1 : List Int) (I2 : Int) (w : World) (hr0 : RdR inE 8 w a0 n0 xs0) (hz0 : ∀ y ∈ xs0, y.s.size ≤ maxLen) (hm0 : n0 ≤ maxLen) (hr1 : Rd .i64 w a1 n1 xs1) (hm1 : n1 ≤ maxLen) (hI2 : 0 ≤ I2 ∧ I2 < 256) :
    Calls Try.prog 7 #[.slice a0 n0 ca0, .slice a1 n1 ca1, .int .u8 I2] w fun e w' => e = .returned (.bool true) ∧ Below w.heap.size w w' := by
  have HM1 : Hid (n1 ≤ maxLen) := hm1
  unfold maxLen at hm1
  by_cases hn1 : n1 ≤ 1048576
  case neg =>
    go_enter Try.func7, Try.ntmps7
    go_wp2
    go_ret
    exact ⟨rfl, Below.refl _ _⟩
  have hsz := fun w' ha' => szInstS_any a0 n0 ca0 xs0 1048576 w' ha' hz0 hm0 (by omega) (by omega)
  by_cases hn0 : 1048576 < (n0 : Int) + inSum xs0
  case pos =>
    rw [if_pos hn0] at hsz
    have HZ : Hid _ := hsz
    clear hsz
    go_enter Try.func7, Try.ntmps7
    go_wp2_with fail
    refine Calls.mono (HZ.out _ hr0) ?_
    rintro e w1 ⟨rfl, hb1⟩
    go_wp2
    go_ret
    exact ⟨rfl, hb1⟩
  rw [if_neg hn0] at hsz
  have hN0 : n0 ≤ 1048576 := by omega
  have hS0 : inSum xs0 ≤ 1048576 := by omega
  obtain ⟨left, hleft⟩ : ∃ left, left = (1048576 - (n0 : Int) - inSum xs0) := ⟨_, rfl⟩
  have hl0 : 0 ≤ left := by omega
  rw [← hleft] at hsz
  have HZ : Hid _ := hsz
  have HM0 : Hid (n0 ≤ maxLen) := hm0
  clear hsz hleft hn0 hm0
  have SC := fun (A0 : Option Addr) (C0 : Nat) (A1 : Option Addr) (C1 : Nat) (W' : World) (H0 : RdR inE 8 W' A0 n0 xs0) (J0 : n0 ≤ C0) (M0 : C0 ≤ maxLen) (H1 : Rd .i64 W' A1 n1 xs1) (J1 : n1 ≤ C1) (M1 : C1 ≤ maxLen) => specStepSet_any A0 n0 C0 xs0 A1 n1 C1 xs1 I2 hI2.1 hI2.2 W' H0 H1 hS0 hN0 hn1
  have IC := fun (A0 : Option Addr) (C0 : Nat) (A1 : Option Addr) (C1 : Nat) (W' : World) (H0 : RdR inE 8 W' A0 n0 xs0) (J0 : n0 ≤ C0) (M0 : C0 ≤ maxLen) (H1 : Rd .i64 W' A1 n1 xs1) (J1 : n1 ≤ C1) (M1 : C1 ≤ maxLen) => implStepSet_any A0 n0 C0 xs0 A1 n1 C1 xs1 I2 hI2.1 hI2.2 W' H0 H1 hS0 hN0 hn1
  have hrl : (stRes xs0 xs1 I2).length ≤ 80 := stRes_len xs0 xs1 I2
  generalize setFault xs0 xs1 = cd at *
  generalize stRes xs0 xs1 I2 = rs at *
  generalize hml : rs.length = m at *
  clear hml
  have HSC : Hid _ := SC
  have HIC : Hid _ := IC
  clear SC IC
  go_enter Try.func7, Try.ntmps7
  have hb : Below w.heap.size w w := Below.refl _ _
  go_wp2_with fail
  refine Calls.mono (HZ.out _ (hr0.below hb)) ?_
  rintro e w1 ⟨rfl, hc⟩
  have s1 : w.heap.size ≤ w1.heap.size := hc.size
  have bq := hc
  replace hb := hb.trans (bq.mono hb.size)
  clear hc bq
  have hleft : ¬ left < 0 := by omega
  go_wp2_with fail
  refine Calls.mono (toInstS_row a0 n0 ca0 xs0 _ (hr0.below hb) (by omega)) ?_
  rintro e w2 ⟨vt2, rfl, rt2, hc⟩
  obtain ⟨at2, kt2, rfl, q1, q2⟩ := (RowS.shape inE_len rt2)
  have Kt2 : Hid _ := And.intro q1 q2
  clear q1 q2
  have s2 : w1.heap.size ≤ w2.heap.size := hc.size
  have bq := hc
  replace hb := hb.trans (bq.mono hb.size)
  clear hc bq
  go_wp2_with fail
  refine Calls.mono (toInt64S_row a1 n1 ca1 xs1 _ (hr1.below hb) (by omega)) ?_
  rintro e w3 ⟨vt3, rfl, rt3, hc⟩
  obtain ⟨at3, kt3, rfl, q1, q2⟩ := rt3.shape
  have Kt3 : Hid _ := And.intro q1 q2
  clear q1 q2
  have s3 : w2.heap.size ≤ w3.heap.size := hc.size
  have bq := hc
  replace rt2 := rt2.below bq
  replace hb := hb.trans (bq.mono hb.size)
  clear hc bq
  go_wp2_with fail
  refine Calls.mono (HSC.out at2 kt2 at3 kt3 _ (RowS.read inE_len rt2) Kt2.out.1 Kt2.out.2 rt3.read Kt3.out.1 Kt3.out.2) ?_
  rintro e w4 ⟨vg4, rfl, rg4, hc⟩
  obtain ⟨ag4, kg4, rfl, _⟩ := rg4.shape
  have s4 : w3.heap.size ≤ w4.heap.size := hc.size
  have bq := hc
  replace rt2 := rt2.below bq
  replace rt3 := rt3.below bq
  replace hb := hb.trans (bq.mono hb.size)
  clear hc bq
  clear rt2
  clear Kt2
  clear rt3
  clear Kt3
  go_wp2_with fail
  have bp : ∀ o0, Below w4.heap.size w4 (w4.alloc o0) := fun o0 => (Below.refl _ _).alloc (Nat.le_refl _) o0
  have hbt : ∀ o0, Below w.heap.size w (w4.alloc o0) := fun o0 => hb.trans ((bp o0).mono hb.size)
  refine Calls.mono (toInstS_row a0 n0 ca0 xs0 _ (hr0.below (hbt _)) (by omega)) ?_
  rintro e w5 ⟨vt5, rfl, rt5, hc⟩
  obtain ⟨at5, kt5, rfl, q1, q2⟩ := (RowS.shape inE_len rt5)
  have Kt5 : Hid _ := And.intro q1 q2
  clear q1 q2
  replace rt5 := RowS.mono (lo' := w4.heap.size + 1) rt5 (by simp) (Nat.le_refl _)
  have s5 : w4.heap.size + 1 ≤ w5.heap.size := by have := hc.size; simp at this; omega
  have bq : Below w4.heap.size w4 w5 := (bp _).trans (hc.mono (bp _).size)
  have cw00 : w5.cell? ⟨w4.heap.size, 0, none⟩ = some (.int .i64 cd) := cell_later hc (by simp [go_sem])
  have cw01 : w5.cell? ⟨w4.heap.size, 1, none⟩ = some (.slice ag4 m kg4) := cell_later hc (by simp [go_sem])
  have zw0 : w4.heap.size < w5.heap.size := by omega
  replace rg4 := rg4.below bq
  replace hb := hb.trans (bq.mono hb.size)
  clear hc bq bp hbt
  go_wp2_with fail
  refine Calls.mono (toInt64S_row a1 n1 ca1 xs1 _ (hr1.below hb) (by omega)) ?_
  rintro e w6 ⟨vt6, rfl, rt6, hc⟩
  obtain ⟨at6, kt6, rfl, q1, q2⟩ := rt6.shape
  have Kt6 : Hid _ := And.intro q1 q2
  clear q1 q2
  have s6 : w5.heap.size ≤ w6.heap.size := hc.size
  have bq := hc
  replace cw00 := cell_later bq cw00
  replace cw01 := cell_later bq cw01
  replace zw0 := Nat.lt_of_lt_of_le zw0 bq.size
  replace rg4 := rg4.below bq
  replace rt5 := rt5.below bq
  replace hb := hb.trans (bq.mono hb.size)
  clear hc bq
  go_wp2_with fail
  refine Calls.mono (HIC.out at5 kt5 at6 kt6 _ (RowS.read inE_len rt5) Kt5.out.1 Kt5.out.2 rt6.read Kt6.out.1 Kt6.out.2) ?_
  rintro e w7 ⟨vg7, rfl, rg7, hc⟩
  obtain ⟨ag7, kg7, rfl, _⟩ := rg7.shape
  have s7 : w6.heap.size ≤ w7.heap.size := hc.size
  have bq := hc
  replace cw00 := cell_later bq cw00
  replace cw01 := cell_later bq cw01
  replace zw0 := Nat.lt_of_lt_of_le zw0 bq.size
  replace rg4 := rg4.below bq
  replace rt5 := rt5.below bq
  replace rt6 := rt6.below bq
  replace hb := hb.trans (bq.mono hb.size)
  clear hc bq
  go_wp2_with fail
  have bp : ∀ o0, Below w7.heap.size w7 (w7.alloc o0) := fun o0 => (Below.refl _ _).alloc (Nat.le_refl _) o0
  have hbt : ∀ o0, Below w.heap.size w (w7.alloc o0) := fun o0 => hb.trans ((bp o0).mono hb.size)
  refine Calls.mono (eqIntsResult_yes cd ag7 ag4 m kg7 kg4 rs _ (rg7.below (bp _)).read (rg4.below (bp _)).read (by first | omega | (unfold maxLen; omega))) ?_
  rintro e w8 ⟨rfl, hc⟩
  have s8 : w7.heap.size + 1 ≤ w8.heap.size := by have := hc.size; simp at this; omega
  have bq : Below w7.heap.size w7 w8 := (bp _).trans (hc.mono (bp _).size)
  replace cw00 := cell_later bq cw00
  replace cw01 := cell_later bq cw01
  replace zw0 := Nat.lt_of_lt_of_le zw0 bq.size
  have cg00 : w8.cell? ⟨w7.heap.size, 0, none⟩ = some (.int .i64 cd) := cell_later hc (by simp [go_sem])
  have cg01 : w8.cell? ⟨w7.heap.size, 1, none⟩ = some (.slice ag7 m kg7) := cell_later hc (by simp [go_sem])
  have zg0 : w7.heap.size < w8.heap.size := by omega
  replace rg4 := rg4.below bq
  replace rt5 := rt5.below bq
  replace rt6 := rt6.below bq
  replace rg7 := rg7.below bq
  replace hb := hb.trans (bq.mono hb.size)
  clear hc bq bp hbt
  go_wp2_with fail
  refine Calls.mono (toInstS_row a0 n0 ca0 xs0 _ (hr0.below hb) (by omega)) ?_
  rintro e w9 ⟨vt9, rfl, rt9, hc⟩
  obtain ⟨at9, kt9, rfl, q1, q2⟩ := (RowS.shape inE_len rt9)
  have Kt9 : Hid _ := And.intro q1 q2
  clear q1 q2
  have s9 : w8.heap.size ≤ w9.heap.size := hc.size
  have bq := hc
  replace cw00 := cell_later bq cw00
  replace cw01 := cell_later bq cw01
  replace zw0 := Nat.lt_of_lt_of_le zw0 bq.size
  replace cg00 := cell_later bq cg00
  replace cg01 := cell_later bq cg01
  replace zg0 := Nat.lt_of_lt_of_le zg0 bq.size
  replace rg4 := rg4.below bq
  replace rt5 := rt5.below bq
  replace rt6 := rt6.below bq
  replace rg7 := rg7.below bq
  replace hb := hb.trans (bq.mono hb.size)
  clear hc bq
  go_wp2_with fail
  refine Calls.mono (eqInstS_yes at5 at9 n0 kt5 kt9 xs0 _ (RowS.read inE_len rt5) (RowS.read inE_len rt9) (by first | omega | (unfold maxLen; omega))) ?_
  rintro e w10 ⟨rfl, hc⟩
  have s10 : w9.heap.size ≤ w10.heap.size := hc.size
  have bq := hc
  replace cw00 := cell_later bq cw00
  replace cw01 := cell_later bq cw01
  replace zw0 := Nat.lt_of_lt_of_le zw0 bq.size
  replace cg00 := cell_later bq cg00
  replace cg01 := cell_later bq cg01
  replace zg0 := Nat.lt_of_lt_of_le zg0 bq.size
  replace rg4 := rg4.below bq
  replace rt5 := rt5.below bq
  replace rt6 := rt6.below bq
  replace rg7 := rg7.below bq
  replace rt9 := rt9.below bq
  replace hb := hb.trans (bq.mono hb.size)
  clear hc bq
  clear rt9
  clear Kt9
  go_wp2_with fail
  refine Calls.mono (toInt64S_row a1 n1 ca1 xs1 _ (hr1.below hb) (by omega)) ?_
  rintro e w11 ⟨vt11, rfl, rt11, hc⟩
  obtain ⟨at11, kt11, rfl, q1, q2⟩ := rt11.shape
  have Kt11 : Hid _ := And.intro q1 q2
  clear q1 q2
  have s11 : w10.heap.size ≤ w11.heap.size := hc.size
  have bq := hc
  replace cw00 := cell_later bq cw00
  replace cw01 := cell_later bq cw01
  replace zw0 := Nat.lt_of_lt_of_le zw0 bq.size
  replace cg00 := cell_later bq cg00
  replace cg01 := cell_later bq cg01
  replace zg0 := Nat.lt_of_lt_of_le zg0 bq.size
  replace rg4 := rg4.below bq
  replace rt5 := rt5.below bq
  replace rt6 := rt6.below bq
  replace rg7 := rg7.below bq
  replace hb := hb.trans (bq.mono hb.size)
  clear hc bq
  go_wp2_with fail
  refine Calls.mono (eqInt64S_yes at6 at11 n1 kt6 kt11 xs1 _ rt6.read rt11.read (by first | omega | (unfold maxLen; omega))) ?_
  rintro e w12 ⟨rfl, hc⟩
  have s12 : w11.heap.size ≤ w12.heap.size := hc.size
  have bq := hc
  replace cw00 := cell_later bq cw00
  replace cw01 := cell_later bq cw01
  replace zw0 := Nat.lt_of_lt_of_le zw0 bq.size
  replace cg00 := cell_later bq cg00
  replace cg01 := cell_later bq cg01
  replace zg0 := Nat.lt_of_lt_of_le zg0 bq.size
  replace rg4 := rg4.below bq
  replace rt5 := rt5.below bq
  replace rt6 := rt6.below bq
  replace rg7 := rg7.below bq
  replace rt11 := rt11.below bq
  replace hb := hb.trans (bq.mono hb.size)
  clear hc bq
  clear rt11
  clear Kt11
  go_wp2_with fail
  refine Calls.mono (markInstS_row _ n0 _ _ xs0 1 _ rt5 (by omega) (by omega) (by omega)) ?_
  clear rt5
  rintro e w13 ⟨rfl, rt5, hc⟩
  have s13 : w12.heap.size ≤ w13.heap.size := hc.size
  have cq := hc
  replace cw00 := cq.at cw00 zw0 (by omega)
  replace cw01 := cq.at cw01 zw0 (by omega)
  replace zw0 := Nat.lt_of_lt_of_le zw0 cq.size
  replace cg00 := cq.at cg00 zg0 (by omega)
  replace cg01 := cq.at cg01 zg0 (by omega)
  replace zg0 := Nat.lt_of_lt_of_le zg0 cq.size
  replace rg4 := rg4.chg cq (by omega)
  replace rt6 := rt6.chg cq (by omega)
  replace rg7 := rg7.chg cq (by omega)
  replace hb := below_chg hb cq hb.size (by omega)
  clear hc cq
  have hk13 : ¬ (1 + 8 * (n0 : Int)) < 0 := by omega
  go_wp2_with fail
  refine Calls.mono (markInt64S_row _ n1 _ _ xs1 (1 + 8 * (n0 : Int)) _ rt6 (by omega) (by omega) (by omega)) ?_
  clear rt6
  rintro e w14 ⟨rfl, rt6, hc⟩
  have s14 : w13.heap.size ≤ w14.heap.size := hc.size
  have cq := hc
  replace cw00 := cq.at cw00 zw0 (by omega)
  replace cw01 := cq.at cw01 zw0 (by omega)
  replace zw0 := Nat.lt_of_lt_of_le zw0 cq.size
  replace cg00 := cq.at cg00 zg0 (by omega)
  replace cg01 := cq.at cg01 zg0 (by omega)
  replace zg0 := Nat.lt_of_lt_of_le zg0 cq.size
  replace rg4 := rg4.chg cq (by omega)
  replace rt5 := rt5.chg cq (by omega)
  replace rg7 := rg7.chg cq (by omega)
  replace hb := below_chg hb cq hb.size (by omega)
  clear hc cq
  have hk14 : ¬ ((1 + 8 * (n0 : Int)) + (n1 : Int)) < 0 := by omega
  go_wp2_with fail
  refine Calls.mono (eqIntsResult_yes cd ag7 ag4 m kg7 kg4 rs _ rg7.read rg4.read (by first | omega | (unfold maxLen; omega))) ?_
  rintro e w15 ⟨rfl, hc⟩
  have s15 : w14.heap.size ≤ w15.heap.size := hc.size
  have bq := hc
  replace cw00 := cell_later bq cw00
  replace cw01 := cell_later bq cw01
  replace zw0 := Nat.lt_of_lt_of_le zw0 bq.size
  replace cg00 := cell_later bq cg00
  replace cg01 := cell_later bq cg01
  replace zg0 := Nat.lt_of_lt_of_le zg0 bq.size
  replace rg4 := rg4.below bq
  replace rt5 := rt5.below bq
  replace rt6 := rt6.below bq
  replace rg7 := rg7.below bq
  replace hb := hb.trans (bq.mono hb.size)
  clear hc bq
  go_wp2_with fail
  refine Calls.mono (markIntsResult_row cd 1 _ m _ _ rs _ rg7 (by omega) (by omega) (by omega)) ?_
  clear rg7
  rintro e w16 ⟨rfl, rg7, hc⟩
  have s16 : w15.heap.size ≤ w16.heap.size := hc.size
  have cq := hc
  replace cw00 := cq.at cw00 zw0 (by omega)
  replace cw01 := cq.at cw01 zw0 (by omega)
  replace zw0 := Nat.lt_of_lt_of_le zw0 cq.size
  replace cg00 := cq.at cg00 zg0 (by omega)
  replace cg01 := cq.at cg01 zg0 (by omega)
  replace zg0 := Nat.lt_of_lt_of_le zg0 cq.size
  replace rg4 := rg4.chg cq (by omega)
  replace rt5 := rt5.chg cq (by omega)
  replace rt6 := rt6.chg cq (by omega)
  replace hb := below_chg hb cq hb.size (by omega)
  clear hc cq
  have hk16 : ¬ (1 + (m : Int)) < 0 := by omega
  go_wp2_with fail
  refine Calls.mono (heldIntsResult_yes cd 1 ag7 m kg7 _ rg7.read (by omega) (by omega) (by omega)) ?_
  rintro e w17 ⟨rfl, hc⟩
  have s17 : w16.heap.size ≤ w17.heap.size := hc.size
  have bq := hc
  replace cw00 := cell_later bq cw00
  replace cw01 := cell_later bq cw01
  replace zw0 := Nat.lt_of_lt_of_le zw0 bq.size
  replace cg00 := cell_later bq cg00
  replace cg01 := cell_later bq cg01
  replace zg0 := Nat.lt_of_lt_of_le zg0 bq.size
  replace rg4 := rg4.below bq
  replace rt5 := rt5.below bq
  replace rt6 := rt6.below bq
  replace rg7 := rg7.below bq
  replace hb := hb.trans (bq.mono hb.size)
  clear hc bq
  go_wp2_with fail
  refine Calls.mono (toInstS_row a0 n0 ca0 xs0 _ (hr0.below hb) (by omega)) ?_
  rintro e w18 ⟨vt18, rfl, rt18, hc⟩
  obtain ⟨at18, kt18, rfl, q1, q2⟩ := (RowS.shape inE_len rt18)
  have Kt18 : Hid _ := And.intro q1 q2
  clear q1 q2
  have s18 : w17.heap.size ≤ w18.heap.size := hc.size
  have bq := hc
  replace cw00 := cell_later bq cw00
  replace cw01 := cell_later bq cw01
  replace zw0 := Nat.lt_of_lt_of_le zw0 bq.size
  replace cg00 := cell_later bq cg00
  replace cg01 := cell_later bq cg01
  replace zg0 := Nat.lt_of_lt_of_le zg0 bq.size
  replace rg4 := rg4.below bq
  replace rt5 := rt5.below bq
  replace rt6 := rt6.below bq
  replace rg7 := rg7.below bq
  replace hb := hb.trans (bq.mono hb.size)
  clear hc bq
  go_wp2_with fail
  refine Calls.mono (toInt64S_row a1 n1 ca1 xs1 _ (hr1.below hb) (by omega)) ?_
  rintro e w19 ⟨vt19, rfl, rt19, hc⟩
  obtain ⟨at19, kt19, rfl, q1, q2⟩ := rt19.shape
  have Kt19 : Hid _ := And.intro q1 q2
  clear q1 q2
  have s19 : w18.heap.size ≤ w19.heap.size := hc.size
  have bq := hc
  replace cw00 := cell_later bq cw00
  replace cw01 := cell_later bq cw01
  replace zw0 := Nat.lt_of_lt_of_le zw0 bq.size
  replace cg00 := cell_later bq cg00
  replace cg01 := cell_later bq cg01
  replace zg0 := Nat.lt_of_lt_of_le zg0 bq.size
  replace rg4 := rg4.below bq
  replace rt5 := rt5.below bq
  replace rt6 := rt6.below bq
  replace rg7 := rg7.below bq
  replace rt18 := rt18.below bq
  replace hb := hb.trans (bq.mono hb.size)
  clear hc bq
  go_wp2_with fail
  refine Calls.mono (HIC.out at18 kt18 at19 kt19 _ (RowS.read inE_len rt18) Kt18.out.1 Kt18.out.2 rt19.read Kt19.out.1 Kt19.out.2) ?_
  rintro e w20 ⟨vg20, rfl, rg20, hc⟩
  obtain ⟨ag20, kg20, rfl, _⟩ := rg20.shape
  have s20 : w19.heap.size ≤ w20.heap.size := hc.size
  have bq := hc
  replace cw00 := cell_later bq cw00
  replace cw01 := cell_later bq cw01
  replace zw0 := Nat.lt_of_lt_of_le zw0 bq.size
  replace cg00 := cell_later bq cg00
  replace cg01 := cell_later bq cg01
  replace zg0 := Nat.lt_of_lt_of_le zg0 bq.size
  replace rg4 := rg4.below bq
  replace rt5 := rt5.below bq
  replace rt6 := rt6.below bq
  replace rg7 := rg7.below bq
  replace rt18 := rt18.below bq
  replace rt19 := rt19.below bq
  replace hb := hb.trans (bq.mono hb.size)
  clear hc bq
  clear rt18
  clear Kt18
  clear rt19
  clear Kt19
  go_wp2_with fail
  have bp : ∀ o0, Below w20.heap.size w20 (w20.alloc o0) := fun o0 => (Below.refl _ _).alloc (Nat.le_refl _) o0
  have hbt : ∀ o0, Below w.heap.size w (w20.alloc o0) := fun o0 => hb.trans ((bp o0).mono hb.size)
  refine Calls.mono (eqIntsResult_yes cd ag20 ag4 m kg20 kg4 rs _ (rg20.below (bp _)).read (rg4.below (bp _)).read (by first | omega | (unfold maxLen; omega))) ?_
  rintro e w21 ⟨rfl, hc⟩
  have s21 : w20.heap.size + 1 ≤ w21.heap.size := by have := hc.size; simp at this; omega
  have bq : Below w20.heap.size w20 w21 := (bp _).trans (hc.mono (bp _).size)
  replace cw00 := cell_later bq cw00
  replace cw01 := cell_later bq cw01
  replace zw0 := Nat.lt_of_lt_of_le zw0 bq.size
  replace cg00 := cell_later bq cg00
  replace cg01 := cell_later bq cg01
  replace zg0 := Nat.lt_of_lt_of_le zg0 bq.size
  have ch00 : w21.cell? ⟨w20.heap.size, 0, none⟩ = some (.int .i64 cd) := cell_later hc (by simp [go_sem])
  have ch01 : w21.cell? ⟨w20.heap.size, 1, none⟩ = some (.slice ag20 m kg20) := cell_later hc (by simp [go_sem])
  have zh0 : w20.heap.size < w21.heap.size := by omega
  replace rg4 := rg4.below bq
  replace rt5 := rt5.below bq
  replace rt6 := rt6.below bq
  replace rg7 := rg7.below bq
  replace rg20 := rg20.below bq
  replace hb := hb.trans (bq.mono hb.size)
  clear hc bq bp hbt
  go_wp2_with fail
  refine Calls.mono (heldIntsResult_yes cd 1 ag7 m kg7 _ rg7.read (by omega) (by omega) (by omega)) ?_
  rintro e w22 ⟨rfl, hc⟩
  have s22 : w21.heap.size ≤ w22.heap.size := hc.size
  have bq := hc
  replace cw00 := cell_later bq cw00
  replace cw01 := cell_later bq cw01
  replace zw0 := Nat.lt_of_lt_of_le zw0 bq.size
  replace cg00 := cell_later bq cg00
  replace cg01 := cell_later bq cg01
  replace zg0 := Nat.lt_of_lt_of_le zg0 bq.size
  replace ch00 := cell_later bq ch00
  replace ch01 := cell_later bq ch01
  replace zh0 := Nat.lt_of_lt_of_le zh0 bq.size
  replace rg4 := rg4.below bq
  replace rt5 := rt5.below bq
  replace rt6 := rt6.below bq
  replace rg7 := rg7.below bq
  replace rg20 := rg20.below bq
  replace hb := hb.trans (bq.mono hb.size)
  clear hc bq
  go_wp2
  go_ret
  exact ⟨rfl, hb⟩

theorem own : ownKnob Try.prog.godebug = none := by kernel_rfl
theorem laidOut : laidOutB Try.prog = true := by kernel_rfl

set_option maxRecDepth 100000 in
theorem lifted (os : Os) (started : os.Started) (H : Type) (enc : TypeId × Value → H) :
    ReturnsInHanded {} Try.checked os 7 .any (Rows.fnExactStepSetSpec.pre6 enc Try.prog Try.f7 Rows.fnExactStepSetRow.domain false) (Rows.fnExactStepSetSpec.post enc Try.prog Try.f7 false true false false) := by
  refine returnsInHanded_of_change (C := Try.checked) own started (by kernel_rfl) Try.func7
    (ChangeSpec.witness6 (enc := enc) (C := Try.checked) false ⟨#[], #[.slice none 0 0, .slice none 0 0, .int .u8 0], []⟩ 8 (by kernel_rfl) (by kernel_rfl) (by kernel_rfl) (by kernel_rfl)) ?_
  intro W base args ds gs before hval0 hW hcnd _
  have hval : ∀ (j : Nat) t v, Try.f7.params[j]? = some t → args[j]? = some v → Value.okWide Try.prog W .any base t v := hval0
  have hW' := hW
  obtain ⟨p, q, hA0, hV, rfl, hfz, hnd⟩ := hW
  have hA : DataW.TrodAll enc Try.prog W 0 (fun _ => true) true Try.f7.params.toList args.toList ds p := hA0
  rw [Try.params7] at hA hval
  obtain ⟨v0, v1, v2, d0, d1, d2, p0, p1, p2, rfl, rfl, rfl, h0, h1, h2⟩ := trodAll_three hA
  obtain ⟨rfl, rfl⟩ := trodVars_none hV
  have k0 := h0
  have lt0 : ∀ x ∈ p0, x.block < W.heap.size := by obtain ⟨m, hm⟩ := k0; exact DataW.trod_lt m _ _ _ hm
  obtain ⟨a0, len0, cap0, rfl⟩ := okWide_slice Try.underlying37 (hval 0 37 v0 rfl rfl)
  obtain ⟨x0, hr0, hs0, hl0, hm0⟩ := open_insts h0
  have k1 := h1
  have lt1 : ∀ x ∈ p1, x.block < W.heap.size := by obtain ⟨m, hm⟩ := k1; exact DataW.trod_lt m _ _ _ hm
  obtain ⟨a1, len1, cap1, rfl⟩ := okWide_slice Try.underlying25 (hval 1 25 v1 rfl rfl)
  obtain ⟨x1, hr1, hl1, hm1⟩ := open_int64s h1
  obtain ⟨I2, rfl, rfl, rfl, wI2⟩ := open_int Try.underlying5 (hval 2 5 v2 rfl rfl) h2
  clear hA0 hval0
  refine (walk a0 len0 cap0 x0 a1 len1 cap1 x1 I2 W hr0 hs0 (by omega) hr1 (by omega) (u8_bd wI2)).mono fun e W' ⟨he, bel⟩ => ?_
  subst he
  exact ⟨_, rfl, _, _, _, [], _, [], hW', trodAll_mk1 (shut_bool Try.underlying4 _), trodAll_mk3 (Below.trod laidOut (by kernel_rfl) (of_decide_eq_true (by kernel_rfl)) k0 bel lt0) (Below.trod laidOut (by kernel_rfl) (of_decide_eq_true (by kernel_rfl)) k1 bel lt1) (shut_int Try.underlying5 wI2), rfl, bel.frame _, fun h => by cases h⟩

theorem proved : Rows.FnExactStepSetSaid :=
  OpenClaim.holds_of_wide 7 Try.f7 rfl rfl rfl rfl rfl rfl rfl ⟨rfl, rfl, rfl, rfl, rfl⟩ rfl rfl rfl rfl rfl (by kernel_rfl) Try.func7 (by kernel_rfl)
    (of_decide_eq_true (by kernel_rfl)) (by unfold Func.isWrapper; first | (rw [if_pos (by decide +kernel)]; kernel_rfl) | (rw [if_neg (by decide +kernel)]; exact ⟨rfl, rfl⟩))
    (fun os started H enc _ => lifted os started H enc)
end Go.Proofs.Ytjkipdamohljpaa.fnExactStepSet
namespace Go.Proofs.Ytjkipdamohljpaa
theorem fnExactStepSet_proved : Rows.FnExactStepSetSaid := fnExactStepSet.proved
end Go.Proofs.Ytjkipdamohljpaa
