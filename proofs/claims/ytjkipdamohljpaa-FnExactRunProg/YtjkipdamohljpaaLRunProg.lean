/-
  For every list of instructions, every text and place, FnExactRunProg returns true: the program's RunProg answers as the model and writes into no argument; no condition.
-/
import Derived.Test.YtjkipdamohljpaaHlpN2
import Derived.Test.YtjkipdamohljpaaHlpF
import Derived.Test.YtjkipdamohljpaaRun1
import Derived.Test.YtjkipdamohljpaaRun4
import Derived.Test.YtjkipdamohljpaaArgsN
import Derived.ProofKit
import Derived.OpenShut
import Derived.ChangeOld
import Derived.Below
import Derived.Carry
import Derived.Deep.RegionWith
import Derived.Deep.RegionHeld3
namespace Go.Proofs.Ytjkipdamohljpaa.fnExactRunProg
open Go.ChangeShapes Go.WideShapes Go.ChangeAt Go.RowKit
set_option linter.unusedVariables false
set_option linter.unusedSimpArgs false

set_option maxRecDepth 10000 in
set_option maxHeartbeats 3200000 in
theorem walk (a0 : Option Addr) (n0 ca0 : Nat) (xs0 : List In) (a1 : Option Addr) (n1 ca1 : Nat) (xs1 : List Int) (I2 : Int) (w : World) (hr0 : RdR inE 8 w a0 n0 xs0) (hz0 : ∀ y ∈ xs0, y.s.size ≤ maxLen) (hm0 : n0 ≤ maxLen) (hr1 : Rd .u8 w a1 n1 xs1) (hB1 : Bytes xs1) (hm1 : n1 ≤ maxLen) :
    Calls Try.prog 8 #[.slice a0 n0 ca0, .slice a1 n1 ca1, .int .i64 I2] w fun e w' => e = .returned (.bool true) ∧ Below w.heap.size w w' := by
  have HM1 : Hid (n1 ≤ maxLen) := hm1
  unfold maxLen at hm1
  by_cases hn1 : n1 ≤ 1048576
  case neg =>
    go_enter Try.func8, Try.ntmps8
    go_wp2
    go_ret
    exact ⟨rfl, Below.refl _ _⟩
  have hsz := fun w' ha' => szInstS_any a0 n0 ca0 xs0 1048576 w' ha' hz0 hm0 (by omega) (by omega)
  by_cases hn0 : 1048576 < (n0 : Int) + inSum xs0
  case pos =>
    rw [if_pos hn0] at hsz
    have HZ : Hid _ := hsz
    clear hsz
    go_enter Try.func8, Try.ntmps8
    go_wp2_with fail
    refine Calls.mono (HZ.out _ hr0) ?_
    rintro e w1 ⟨rfl, hb1⟩
    go_wp2
    go_ret
    exact ⟨rfl, hb1⟩
  rw [if_neg hn0] at hsz
  have hN0 : n0 ≤ 1048576 := by omega
  have hS0 : inSum xs0 ≤ 1048576 := by omega
  obtain ⟨left, hleft⟩ : ∃ left, left = (1048576 - (n0 : Int) - inSum xs0) := ⟨_, rfl⟩
  have hl0 : 0 ≤ left := by omega
  rw [← hleft] at hsz
  have HZ : Hid _ := hsz
  have HM0 : Hid (n0 ≤ maxLen) := hm0
  clear hsz hleft hn0 hm0
  have SC := fun (A0 : Option Addr) (C0 : Nat) (A1 : Option Addr) (C1 : Nat) (W' : World) (H0 : RdR inE 8 W' A0 n0 xs0) (J0 : n0 ≤ C0) (M0 : C0 ≤ maxLen) (H1 : Rd .u8 W' A1 n1 xs1) (J1 : n1 ≤ C1) (M1 : C1 ≤ maxLen) => specRunProg_any A0 n0 C0 xs0 A1 n1 C1 xs1 I2 hB1 W' H0 H1 hS0 hN0 hn1
  have IC := fun (A0 : Option Addr) (C0 : Nat) (A1 : Option Addr) (C1 : Nat) (W' : World) (H0 : RdR inE 8 W' A0 n0 xs0) (J0 : n0 ≤ C0) (M0 : C0 ≤ maxLen) (H1 : Rd .u8 W' A1 n1 xs1) (J1 : n1 ≤ C1) (M1 : C1 ≤ maxLen) => implRunProg_any A0 n0 C0 xs0 A1 n1 C1 xs1 I2 hB1 W' H0 H1 hS0 hN0 hn1
  generalize rpCode xs0 xs1 I2 = cd at *
  generalize rpVal xs0 xs1 I2 = vd at *
  have HSC : Hid _ := SC
  have HIC : Hid _ := IC
  clear SC IC
  go_enter Try.func8, Try.ntmps8
  have hb : Below w.heap.size w w := Below.refl _ _
  go_wp2_with fail
  refine Calls.mono (HZ.out _ (hr0.below hb)) ?_
  rintro e w1 ⟨rfl, hc⟩
  have s1 : w.heap.size ≤ w1.heap.size := hc.size
  have bq := hc
  replace hb := hb.trans (bq.mono hb.size)
  clear hc bq
  have hleft : ¬ left < 0 := by omega
  go_wp2_with fail
  refine Calls.mono (toInstS_row a0 n0 ca0 xs0 _ (hr0.below hb) (by omega)) ?_
  rintro e w2 ⟨vt2, rfl, rt2, hc⟩
  obtain ⟨at2, kt2, rfl, q1, q2⟩ := (RowS.shape inE_len rt2)
  have Kt2 : Hid _ := And.intro q1 q2
  clear q1 q2
  have s2 : w1.heap.size ≤ w2.heap.size := hc.size
  have bq := hc
  replace hb := hb.trans (bq.mono hb.size)
  clear hc bq
  go_wp2_with fail
  refine Calls.mono (toByteS_row a1 n1 ca1 xs1 _ (hr1.below hb) (by omega)) ?_
  rintro e w3 ⟨vt3, rfl, rt3, hc⟩
  obtain ⟨at3, kt3, rfl, q1, q2⟩ := rt3.shape
  have Kt3 : Hid _ := And.intro q1 q2
  clear q1 q2
  have s3 : w2.heap.size ≤ w3.heap.size := hc.size
  have bq := hc
  replace rt2 := rt2.below bq
  replace hb := hb.trans (bq.mono hb.size)
  clear hc bq
  go_wp2_with fail
  refine Calls.mono (HSC.out at2 kt2 at3 kt3 _ (RowS.read inE_len rt2) Kt2.out.1 Kt2.out.2 rt3.read Kt3.out.1 Kt3.out.2) ?_
  rintro e w4 ⟨rfl, hc⟩
  have s4 : w3.heap.size ≤ w4.heap.size := hc.size
  have bq := hc
  replace rt2 := rt2.below bq
  replace rt3 := rt3.below bq
  replace hb := hb.trans (bq.mono hb.size)
  clear hc bq
  clear rt2
  clear Kt2
  clear rt3
  clear Kt3
  go_wp2_with fail
  have bp : ∀ o0, Below w4.heap.size w4 (w4.alloc o0) := fun o0 => (Below.refl _ _).alloc (Nat.le_refl _) o0
  have hbt : ∀ o0, Below w.heap.size w (w4.alloc o0) := fun o0 => hb.trans ((bp o0).mono hb.size)
  refine Calls.mono (toInstS_row a0 n0 ca0 xs0 _ (hr0.below (hbt _)) (by omega)) ?_
  rintro e w5 ⟨vt5, rfl, rt5, hc⟩
  obtain ⟨at5, kt5, rfl, q1, q2⟩ := (RowS.shape inE_len rt5)
  have Kt5 : Hid _ := And.intro q1 q2
  clear q1 q2
  replace rt5 := RowS.mono (lo' := w4.heap.size + 1) rt5 (by simp) (Nat.le_refl _)
  have s5 : w4.heap.size + 1 ≤ w5.heap.size := by have := hc.size; simp at this; omega
  have bq : Below w4.heap.size w4 w5 := (bp _).trans (hc.mono (bp _).size)
  have cw00 : w5.cell? ⟨w4.heap.size, 0, none⟩ = some (.int .i64 cd) := cell_later hc (by simp [go_sem])
  have cw01 : w5.cell? ⟨w4.heap.size, 1, none⟩ = some (.int .i64 vd) := cell_later hc (by simp [go_sem])
  have zw0 : w4.heap.size < w5.heap.size := by omega
  replace hb := hb.trans (bq.mono hb.size)
  clear hc bq bp hbt
  go_wp2_with fail
  refine Calls.mono (toByteS_row a1 n1 ca1 xs1 _ (hr1.below hb) (by omega)) ?_
  rintro e w6 ⟨vt6, rfl, rt6, hc⟩
  obtain ⟨at6, kt6, rfl, q1, q2⟩ := rt6.shape
  have Kt6 : Hid _ := And.intro q1 q2
  clear q1 q2
  have s6 : w5.heap.size ≤ w6.heap.size := hc.size
  have bq := hc
  replace cw00 := cell_later bq cw00
  replace cw01 := cell_later bq cw01
  replace zw0 := Nat.lt_of_lt_of_le zw0 bq.size
  replace rt5 := rt5.below bq
  replace hb := hb.trans (bq.mono hb.size)
  clear hc bq
  go_wp2_with fail
  refine Calls.mono (HIC.out at5 kt5 at6 kt6 _ (RowS.read inE_len rt5) Kt5.out.1 Kt5.out.2 rt6.read Kt6.out.1 Kt6.out.2) ?_
  rintro e w7 ⟨rfl, hc⟩
  have s7 : w6.heap.size ≤ w7.heap.size := hc.size
  have bq := hc
  replace cw00 := cell_later bq cw00
  replace cw01 := cell_later bq cw01
  replace zw0 := Nat.lt_of_lt_of_le zw0 bq.size
  replace rt5 := rt5.below bq
  replace rt6 := rt6.below bq
  replace hb := hb.trans (bq.mono hb.size)
  clear hc bq
  go_wp2_with fail
  have bp : ∀ o0, Below w7.heap.size w7 (w7.alloc o0) := fun o0 => (Below.refl _ _).alloc (Nat.le_refl _) o0
  have hbt : ∀ o0, Below w.heap.size w (w7.alloc o0) := fun o0 => hb.trans ((bp o0).mono hb.size)
  refine Calls.mono (eqIntResult_yes cd vd _) ?_
  rintro e w8 ⟨rfl, hc⟩
  have s8 : w7.heap.size + 1 ≤ w8.heap.size := by have := hc.size; simp at this; omega
  have bq : Below w7.heap.size w7 w8 := (bp _).trans (hc.mono (bp _).size)
  replace cw00 := cell_later bq cw00
  replace cw01 := cell_later bq cw01
  replace zw0 := Nat.lt_of_lt_of_le zw0 bq.size
  have cg00 : w8.cell? ⟨w7.heap.size, 0, none⟩ = some (.int .i64 cd) := cell_later hc (by simp [go_sem])
  have cg01 : w8.cell? ⟨w7.heap.size, 1, none⟩ = some (.int .i64 vd) := cell_later hc (by simp [go_sem])
  have zg0 : w7.heap.size < w8.heap.size := by omega
  replace rt5 := rt5.below bq
  replace rt6 := rt6.below bq
  replace hb := hb.trans (bq.mono hb.size)
  clear hc bq bp hbt
  go_wp2_with fail
  refine Calls.mono (toInstS_row a0 n0 ca0 xs0 _ (hr0.below hb) (by omega)) ?_
  rintro e w9 ⟨vt9, rfl, rt9, hc⟩
  obtain ⟨at9, kt9, rfl, q1, q2⟩ := (RowS.shape inE_len rt9)
  have Kt9 : Hid _ := And.intro q1 q2
  clear q1 q2
  have s9 : w8.heap.size ≤ w9.heap.size := hc.size
  have bq := hc
  replace cw00 := cell_later bq cw00
  replace cw01 := cell_later bq cw01
  replace zw0 := Nat.lt_of_lt_of_le zw0 bq.size
  replace cg00 := cell_later bq cg00
  replace cg01 := cell_later bq cg01
  replace zg0 := Nat.lt_of_lt_of_le zg0 bq.size
  replace rt5 := rt5.below bq
  replace rt6 := rt6.below bq
  replace hb := hb.trans (bq.mono hb.size)
  clear hc bq
  go_wp2_with fail
  refine Calls.mono (eqInstS_yes at5 at9 n0 kt5 kt9 xs0 _ (RowS.read inE_len rt5) (RowS.read inE_len rt9) (by first | omega | (unfold maxLen; omega))) ?_
  rintro e w10 ⟨rfl, hc⟩
  have s10 : w9.heap.size ≤ w10.heap.size := hc.size
  have bq := hc
  replace cw00 := cell_later bq cw00
  replace cw01 := cell_later bq cw01
  replace zw0 := Nat.lt_of_lt_of_le zw0 bq.size
  replace cg00 := cell_later bq cg00
  replace cg01 := cell_later bq cg01
  replace zg0 := Nat.lt_of_lt_of_le zg0 bq.size
  replace rt5 := rt5.below bq
  replace rt6 := rt6.below bq
  replace rt9 := rt9.below bq
  replace hb := hb.trans (bq.mono hb.size)
  clear hc bq
  clear rt9
  clear Kt9
  go_wp2_with fail
  refine Calls.mono (toByteS_row a1 n1 ca1 xs1 _ (hr1.below hb) (by omega)) ?_
  rintro e w11 ⟨vt11, rfl, rt11, hc⟩
  obtain ⟨at11, kt11, rfl, q1, q2⟩ := rt11.shape
  have Kt11 : Hid _ := And.intro q1 q2
  clear q1 q2
  have s11 : w10.heap.size ≤ w11.heap.size := hc.size
  have bq := hc
  replace cw00 := cell_later bq cw00
  replace cw01 := cell_later bq cw01
  replace zw0 := Nat.lt_of_lt_of_le zw0 bq.size
  replace cg00 := cell_later bq cg00
  replace cg01 := cell_later bq cg01
  replace zg0 := Nat.lt_of_lt_of_le zg0 bq.size
  replace rt5 := rt5.below bq
  replace rt6 := rt6.below bq
  replace hb := hb.trans (bq.mono hb.size)
  clear hc bq
  go_wp2_with fail
  refine Calls.mono (eqByteS_yes at6 at11 n1 kt6 kt11 xs1 _ rt6.read rt11.read (by first | omega | (unfold maxLen; omega))) ?_
  rintro e w12 ⟨rfl, hc⟩
  have s12 : w11.heap.size ≤ w12.heap.size := hc.size
  have bq := hc
  replace cw00 := cell_later bq cw00
  replace cw01 := cell_later bq cw01
  replace zw0 := Nat.lt_of_lt_of_le zw0 bq.size
  replace cg00 := cell_later bq cg00
  replace cg01 := cell_later bq cg01
  replace zg0 := Nat.lt_of_lt_of_le zg0 bq.size
  replace rt5 := rt5.below bq
  replace rt6 := rt6.below bq
  replace rt11 := rt11.below bq
  replace hb := hb.trans (bq.mono hb.size)
  clear hc bq
  clear rt11
  clear Kt11
  go_wp2
  go_ret
  exact ⟨rfl, hb⟩

theorem own : ownKnob Try.prog.godebug = none := by kernel_rfl
theorem laidOut : laidOutB Try.prog = true := by kernel_rfl

set_option maxRecDepth 100000 in
theorem lifted (os : Os) (started : os.Started) (H : Type) (enc : TypeId × Value → H) :
    ReturnsInHanded {} Try.checked os 8 .any (Rows.fnExactRunProgSpec.pre6 enc Try.prog Try.f8 Rows.fnExactRunProgRow.domain false) (Rows.fnExactRunProgSpec.post enc Try.prog Try.f8 false true false false) := by
  refine returnsInHanded_of_change (C := Try.checked) own started (by kernel_rfl) Try.func8
    (ChangeSpec.witness6 (enc := enc) (C := Try.checked) false ⟨#[], #[.slice none 0 0, .slice none 0 0, .int .i64 0], []⟩ 8 (by kernel_rfl) (by kernel_rfl) (by kernel_rfl) (by kernel_rfl)) ?_
  intro W base args ds gs before hval0 hW hcnd _
  have hval : ∀ (j : Nat) t v, Try.f8.params[j]? = some t → args[j]? = some v → Value.okWide Try.prog W .any base t v := hval0
  have hW' := hW
  obtain ⟨p, q, hA0, hV, rfl, hfz, hnd⟩ := hW
  have hA : DataW.TrodAll enc Try.prog W 0 (fun _ => true) true Try.f8.params.toList args.toList ds p := hA0
  rw [Try.params8] at hA hval
  obtain ⟨v0, v1, v2, d0, d1, d2, p0, p1, p2, rfl, rfl, rfl, h0, h1, h2⟩ := trodAll_three hA
  obtain ⟨rfl, rfl⟩ := trodVars_none hV
  have k0 := h0
  have lt0 : ∀ x ∈ p0, x.block < W.heap.size := by obtain ⟨m, hm⟩ := k0; exact DataW.trod_lt m _ _ _ hm
  obtain ⟨a0, len0, cap0, rfl⟩ := okWide_slice Try.underlying37 (hval 0 37 v0 rfl rfl)
  obtain ⟨x0, hr0, hs0, hl0, hm0⟩ := open_insts h0
  have k1 := h1
  have lt1 : ∀ x ∈ p1, x.block < W.heap.size := by obtain ⟨m, hm⟩ := k1; exact DataW.trod_lt m _ _ _ hm
  obtain ⟨a1, len1, cap1, rfl⟩ := okWide_slice Try.underlying22 (hval 1 22 v1 rfl rfl)
  obtain ⟨x1, hr1, hB1, hm1⟩ := open_bytes Try.underlying22 Try.underlying5 (by kernel_rfl) h1
  obtain ⟨I2, rfl, rfl, rfl, wI2⟩ := open_int Try.underlying2 (hval 2 2 v2 rfl rfl) h2
  clear hA0 hval0
  refine (walk a0 len0 cap0 x0 a1 len1 cap1 x1 I2 W hr0 hs0 (by omega) hr1 hB1 hm1).mono fun e W' ⟨he, bel⟩ => ?_
  subst he
  exact ⟨_, rfl, _, _, _, [], _, [], hW', trodAll_mk1 (shut_bool Try.underlying4 _), trodAll_mk3 (Below.trod laidOut (by kernel_rfl) (of_decide_eq_true (by kernel_rfl)) k0 bel lt0) (Below.trod laidOut (by kernel_rfl) (of_decide_eq_true (by kernel_rfl)) k1 bel lt1) (shut_int Try.underlying2 wI2), rfl, bel.frame _, fun h => by cases h⟩

theorem proved : Rows.FnExactRunProgSaid :=
  OpenClaim.holds_of_wide 8 Try.f8 rfl rfl rfl rfl rfl rfl rfl ⟨rfl, rfl, rfl, rfl, rfl⟩ rfl rfl rfl rfl rfl (by kernel_rfl) Try.func8 (by kernel_rfl)
    (of_decide_eq_true (by kernel_rfl)) (by unfold Func.isWrapper; first | (rw [if_pos (by decide +kernel)]; kernel_rfl) | (rw [if_neg (by decide +kernel)]; exact ⟨rfl, rfl⟩))
    (fun os started H enc _ => lifted os started H enc)
end Go.Proofs.Ytjkipdamohljpaa.fnExactRunProg
namespace Go.Proofs.Ytjkipdamohljpaa
theorem fnExactRunProg_proved : Rows.FnExactRunProgSaid := fnExactRunProg.proved
end Go.Proofs.Ytjkipdamohljpaa
