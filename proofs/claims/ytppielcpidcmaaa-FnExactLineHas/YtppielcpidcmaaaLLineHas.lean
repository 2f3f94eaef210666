/-
  For every list of instructions and every line, FnExactLineHas returns true: the program's LineHas answers as the model and writes into no argument; no condition.
-/
import Derived.Test.YtppielcpidcmaaaHlpN2
import Derived.Test.YtppielcpidcmaaaHlpF
import Derived.Test.YtppielcpidcmaaaHas1
import Derived.Test.YtppielcpidcmaaaHas2
import Derived.Test.YtppielcpidcmaaaArgsN
import Derived.ProofKit
import Derived.OpenShut
import Derived.ChangeOld
import Derived.Below
import Derived.Carry
import Derived.Deep.RegionWith
import Derived.Deep.RegionHeld3
namespace Go.Proofs.Ytppielcpidcmaaa.fnExactLineHas
open Go.ChangeShapes Go.WideShapes Go.ChangeAt Go.RowKit
set_option linter.unusedVariables false
set_option linter.unusedSimpArgs false

set_option maxRecDepth 10000 in
set_option maxHeartbeats 3200000 in
theorem walk (a0 : Option Addr) (n0 ca0 : Nat) (xs0 : List In) (a1 : Option Addr) (n1 ca1 : Nat) (xs1 : List Int) (w : World) (hr0 : RdR inE 8 w a0 n0 xs0) (hz0 : ∀ y ∈ xs0, y.s.size ≤ maxLen) (hm0 : n0 ≤ maxLen) (hr1 : Rd .u8 w a1 n1 xs1) (hB1 : Bytes xs1) (hm1 : n1 ≤ maxLen) :
    Calls Try.prog 6 #[.slice a0 n0 ca0, .slice a1 n1 ca1] w fun e w' => e = .returned (.bool true) ∧ Below w.heap.size w w' := by
  have HM1 : Hid (n1 ≤ maxLen) := hm1
  unfold maxLen at hm1
  by_cases hn1 : n1 ≤ 1048576
  case neg =>
    go_enter Try.func6, Try.ntmps6
    go_wp2
    go_ret
    exact ⟨rfl, Below.refl _ _⟩
  have hsz := fun w' ha' => szInstS_any a0 n0 ca0 xs0 1048576 w' ha' hz0 hm0 (by omega) (by omega)
  by_cases hn0 : 1048576 < (n0 : Int) + inSum xs0
  case pos =>
    rw [if_pos hn0] at hsz
    have HZ : Hid _ := hsz
    clear hsz
    go_enter Try.func6, Try.ntmps6
    go_wp2_with fail
    refine Calls.mono (HZ.out _ hr0) ?_
    rintro e w1 ⟨rfl, hb1⟩
    go_wp2
    go_ret
    exact ⟨rfl, hb1⟩
  rw [if_neg hn0] at hsz
  have hN0 : n0 ≤ 1048576 := by omega
  have hS0 : inSum xs0 ≤ 1048576 := by omega
  obtain ⟨left, hleft⟩ : ∃ left, left = (1048576 - (n0 : Int) - inSum xs0) := ⟨_, rfl⟩
  have hl0 : 0 ≤ left := by omega
  rw [← hleft] at hsz
  have HZ : Hid _ := hsz
  have HM0 : Hid (n0 ≤ maxLen) := hm0
  clear hsz hleft hn0 hm0
  have SC := fun (A0 : Option Addr) (C0 : Nat) (A1 : Option Addr) (C1 : Nat) (W' : World) (H0 : RdR inE 8 W' A0 n0 xs0) (J0 : n0 ≤ C0) (M0 : C0 ≤ maxLen) (H1 : Rd .u8 W' A1 n1 xs1) (J1 : n1 ≤ C1) (M1 : C1 ≤ maxLen) => specLineHas_any A0 n0 C0 xs0 A1 n1 C1 xs1 hB1 W' H0 H1 hS0 hN0 hn1
  have IC := fun (A0 : Option Addr) (C0 : Nat) (A1 : Option Addr) (C1 : Nat) (W' : World) (H0 : RdR inE 8 W' A0 n0 xs0) (J0 : n0 ≤ C0) (M0 : C0 ≤ maxLen) (H1 : Rd .u8 W' A1 n1 xs1) (J1 : n1 ≤ C1) (M1 : C1 ≤ maxLen) => implLineHas_any A0 n0 C0 xs0 A1 n1 C1 xs1 hB1 W' H0 H1 hS0 hN0 hn1
  generalize lineHas xs0 xs1 = cd at *
  have HSC : Hid _ := SC
  have HIC : Hid _ := IC
  clear SC IC
  go_enter Try.func6, Try.ntmps6
  have hb : Below w.heap.size w w := Below.refl _ _
  go_wp2_with fail
  refine Calls.mono (HZ.out _ (hr0.below hb)) ?_
  rintro e w1 ⟨rfl, hc⟩
  have s1 : w.heap.size ≤ w1.heap.size := hc.size
  have bq := hc
  replace hb := hb.trans (bq.mono hb.size)
  clear hc bq
  have hleft : ¬ left < 0 := by omega
  go_wp2_with fail
  refine Calls.mono (toInstS_row a0 n0 ca0 xs0 _ (hr0.below hb) (by omega)) ?_
  rintro e w2 ⟨vt2, rfl, rt2, hc⟩
  obtain ⟨at2, kt2, rfl, q1, q2⟩ := (RowS.shape inE_len rt2)
  have Kt2 : Hid _ := And.intro q1 q2
  clear q1 q2
  have s2 : w1.heap.size ≤ w2.heap.size := hc.size
  have bq := hc
  replace hb := hb.trans (bq.mono hb.size)
  clear hc bq
  go_wp2_with fail
  refine Calls.mono (toByteS_row a1 n1 ca1 xs1 _ (hr1.below hb) (by omega)) ?_
  rintro e w3 ⟨vt3, rfl, rt3, hc⟩
  obtain ⟨at3, kt3, rfl, q1, q2⟩ := rt3.shape
  have Kt3 : Hid _ := And.intro q1 q2
  clear q1 q2
  have s3 : w2.heap.size ≤ w3.heap.size := hc.size
  have bq := hc
  replace rt2 := rt2.below bq
  replace hb := hb.trans (bq.mono hb.size)
  clear hc bq
  go_wp2_with fail
  refine Calls.mono (HSC.out at2 kt2 at3 kt3 _ (RowS.read inE_len rt2) Kt2.out.1 Kt2.out.2 rt3.read Kt3.out.1 Kt3.out.2) ?_
  rintro e w4 ⟨rfl, hc⟩
  have s4 : w3.heap.size ≤ w4.heap.size := hc.size
  have bq := hc
  replace rt2 := rt2.below bq
  replace rt3 := rt3.below bq
  replace hb := hb.trans (bq.mono hb.size)
  clear hc bq
  clear rt2
  clear Kt2
  clear rt3
  clear Kt3
  go_wp2_with fail
  refine Calls.mono (toInstS_row a0 n0 ca0 xs0 _ (hr0.below hb) (by omega)) ?_
  rintro e w5 ⟨vt5, rfl, rt5, hc⟩
  obtain ⟨at5, kt5, rfl, q1, q2⟩ := (RowS.shape inE_len rt5)
  have Kt5 : Hid _ := And.intro q1 q2
  clear q1 q2
  have s5 : w4.heap.size ≤ w5.heap.size := hc.size
  have bq := hc
  replace hb := hb.trans (bq.mono hb.size)
  clear hc bq
  go_wp2_with fail
  refine Calls.mono (toByteS_row a1 n1 ca1 xs1 _ (hr1.below hb) (by omega)) ?_
  rintro e w6 ⟨vt6, rfl, rt6, hc⟩
  obtain ⟨at6, kt6, rfl, q1, q2⟩ := rt6.shape
  have Kt6 : Hid _ := And.intro q1 q2
  clear q1 q2
  have s6 : w5.heap.size ≤ w6.heap.size := hc.size
  have bq := hc
  replace rt5 := rt5.below bq
  replace hb := hb.trans (bq.mono hb.size)
  clear hc bq
  go_wp2_with fail
  refine Calls.mono (HIC.out at5 kt5 at6 kt6 _ (RowS.read inE_len rt5) Kt5.out.1 Kt5.out.2 rt6.read Kt6.out.1 Kt6.out.2) ?_
  rintro e w7 ⟨rfl, hc⟩
  have s7 : w6.heap.size ≤ w7.heap.size := hc.size
  have bq := hc
  replace rt5 := rt5.below bq
  replace rt6 := rt6.below bq
  replace hb := hb.trans (bq.mono hb.size)
  clear hc bq
  go_wp2_with fail
  refine Calls.mono (toInstS_row a0 n0 ca0 xs0 _ (hr0.below hb) (by omega)) ?_
  rintro e w8 ⟨vt8, rfl, rt8, hc⟩
  obtain ⟨at8, kt8, rfl, q1, q2⟩ := (RowS.shape inE_len rt8)
  have Kt8 : Hid _ := And.intro q1 q2
  clear q1 q2
  have s8 : w7.heap.size ≤ w8.heap.size := hc.size
  have bq := hc
  replace rt5 := rt5.below bq
  replace rt6 := rt6.below bq
  replace hb := hb.trans (bq.mono hb.size)
  clear hc bq
  go_wp2_with fail
  refine Calls.mono (eqInstS_yes at5 at8 n0 kt5 kt8 xs0 _ (RowS.read inE_len rt5) (RowS.read inE_len rt8) (by first | omega | (unfold maxLen; omega))) ?_
  rintro e w9 ⟨rfl, hc⟩
  have s9 : w8.heap.size ≤ w9.heap.size := hc.size
  have bq := hc
  replace rt5 := rt5.below bq
  replace rt6 := rt6.below bq
  replace rt8 := rt8.below bq
  replace hb := hb.trans (bq.mono hb.size)
  clear hc bq
  clear rt8
  clear Kt8
  go_wp2_with fail
  refine Calls.mono (toByteS_row a1 n1 ca1 xs1 _ (hr1.below hb) (by omega)) ?_
  rintro e w10 ⟨vt10, rfl, rt10, hc⟩
  obtain ⟨at10, kt10, rfl, q1, q2⟩ := rt10.shape
  have Kt10 : Hid _ := And.intro q1 q2
  clear q1 q2
  have s10 : w9.heap.size ≤ w10.heap.size := hc.size
  have bq := hc
  replace rt5 := rt5.below bq
  replace rt6 := rt6.below bq
  replace hb := hb.trans (bq.mono hb.size)
  clear hc bq
  go_wp2_with fail
  refine Calls.mono (eqByteS_yes at6 at10 n1 kt6 kt10 xs1 _ rt6.read rt10.read (by first | omega | (unfold maxLen; omega))) ?_
  rintro e w11 ⟨rfl, hc⟩
  have s11 : w10.heap.size ≤ w11.heap.size := hc.size
  have bq := hc
  replace rt5 := rt5.below bq
  replace rt6 := rt6.below bq
  replace rt10 := rt10.below bq
  replace hb := hb.trans (bq.mono hb.size)
  clear hc bq
  clear rt10
  clear Kt10
  go_wp2
  go_ret
  exact ⟨rfl, hb⟩

theorem own : ownKnob Try.prog.godebug = none := by kernel_rfl
theorem laidOut : laidOutB Try.prog = true := by kernel_rfl

set_option maxRecDepth 100000 in
theorem lifted (os : Os) (started : os.Started) (H : Type) (enc : TypeId × Value → H) :
    ReturnsInHanded {} Try.checked os 6 .any (Rows.fnExactLineHasSpec.pre6 enc Try.prog Try.f6 Rows.fnExactLineHasRow.domain false) (Rows.fnExactLineHasSpec.post enc Try.prog Try.f6 false true false false) := by
  refine returnsInHanded_of_change (C := Try.checked) own started (by kernel_rfl) Try.func6
    (ChangeSpec.witness6 (enc := enc) (C := Try.checked) false ⟨#[], #[.slice none 0 0, .slice none 0 0], []⟩ 8 (by kernel_rfl) (by kernel_rfl) (by kernel_rfl) (by kernel_rfl)) ?_
  intro W base args ds gs before hval0 hW hcnd _
  have hval : ∀ (j : Nat) t v, Try.f6.params[j]? = some t → args[j]? = some v → Value.okWide Try.prog W .any base t v := hval0
  have hW' := hW
  obtain ⟨p, q, hA0, hV, rfl, hfz, hnd⟩ := hW
  have hA : DataW.TrodAll enc Try.prog W 0 (fun _ => true) true Try.f6.params.toList args.toList ds p := hA0
  rw [Try.params6] at hA hval
  obtain ⟨v0, v1, d0, d1, p0, p1, rfl, rfl, rfl, h0, h1⟩ := trodAll_two hA
  obtain ⟨rfl, rfl⟩ := trodVars_none hV
  have k0 := h0
  have lt0 : ∀ x ∈ p0, x.block < W.heap.size := by obtain ⟨m, hm⟩ := k0; exact DataW.trod_lt m _ _ _ hm
  obtain ⟨a0, len0, cap0, rfl⟩ := okWide_slice Try.underlying55 (hval 0 55 v0 rfl rfl)
  obtain ⟨x0, hr0, hs0, hl0, hm0⟩ := open_insts h0
  have k1 := h1
  have lt1 : ∀ x ∈ p1, x.block < W.heap.size := by obtain ⟨m, hm⟩ := k1; exact DataW.trod_lt m _ _ _ hm
  obtain ⟨a1, len1, cap1, rfl⟩ := okWide_slice Try.underlying22 (hval 1 22 v1 rfl rfl)
  obtain ⟨x1, hr1, hB1, hm1⟩ := open_bytes Try.underlying22 Try.underlying5 (by kernel_rfl) h1
  clear hA0 hval0
  refine (walk a0 len0 cap0 x0 a1 len1 cap1 x1 W hr0 hs0 (by omega) hr1 hB1 hm1).mono fun e W' ⟨he, bel⟩ => ?_
  subst he
  exact ⟨_, rfl, _, _, _, [], _, [], hW', trodAll_mk1 (shut_bool Try.underlying4 _), trodAll_mk2 (Below.trod laidOut (by kernel_rfl) (of_decide_eq_true (by kernel_rfl)) k0 bel lt0) (Below.trod laidOut (by kernel_rfl) (of_decide_eq_true (by kernel_rfl)) k1 bel lt1), rfl, bel.frame _, fun h => by cases h⟩

theorem proved : Rows.FnExactLineHasSaid :=
  OpenClaim.holds_of_wide 6 Try.f6 rfl rfl rfl rfl rfl rfl rfl ⟨rfl, rfl, rfl, rfl, rfl⟩ rfl rfl rfl rfl rfl (by kernel_rfl) Try.func6 (by kernel_rfl)
    (of_decide_eq_true (by kernel_rfl)) (by unfold Func.isWrapper; first | (rw [if_pos (by decide +kernel)]; kernel_rfl) | (rw [if_neg (by decide +kernel)]; exact ⟨rfl, rfl⟩))
    (fun os started H enc _ => lifted os started H enc)
end Go.Proofs.Ytppielcpidcmaaa.fnExactLineHas
namespace Go.Proofs.Ytppielcpidcmaaa
theorem fnExactLineHas_proved : Rows.FnExactLineHasSaid := fnExactLineHas.proved
end Go.Proofs.Ytppielcpidcmaaa
