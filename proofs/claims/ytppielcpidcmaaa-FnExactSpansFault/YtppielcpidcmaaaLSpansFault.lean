/-
  For every list of spans, FnExactSpansFault returns true: the program's SpansFault answers as the model and writes into no argument; no condition.
-/
import Derived.Test.YtppielcpidcmaaaHlpV
import Derived.Test.YtppielcpidcmaaaSpan1
import Derived.Test.YtppielcpidcmaaaSpan2
import Derived.Test.YtppielcpidcmaaaArgsA
import Derived.ProofKit
import Derived.OpenShut
import Derived.ChangeOld
import Derived.Below
import Derived.Carry
import Derived.Deep.RegionWith
import Derived.Deep.RegionHeld3
namespace Go.Proofs.Ytppielcpidcmaaa.fnExactSpansFault
open Go.ChangeShapes Go.WideShapes Go.ChangeAt Go.RowKit
set_option linter.unusedVariables false
set_option linter.unusedSimpArgs false

set_option maxRecDepth 10000 in
set_option maxHeartbeats 3200000 in
theorem walk (a0 : Option Addr) (n0 ca0 : Nat) (xs0 : List L2) (w : World) (hr0 : RdR lineE 2 w a0 n0 xs0) (hz0 : ∀ y ∈ xs0, True) (hm0 : n0 ≤ maxLen) :
    Calls Try.prog 4 #[.slice a0 n0 ca0] w fun e w' => e = .returned (.bool true) ∧ Below w.heap.size w w' := by
  have hsz := fun w' ha' => szSpanS_any a0 n0 ca0 xs0 1048576 w' ha' hz0 hm0 (by omega) (by omega)
  by_cases hn0 : 1048576 < (n0 : Int) + spSum xs0
  case pos =>
    rw [if_pos hn0] at hsz
    have HZ : Hid _ := hsz
    clear hsz
    go_enter Try.func4, Try.ntmps4
    go_wp2_with fail
    refine Calls.mono (HZ.out _ hr0) ?_
    rintro e w1 ⟨rfl, hb1⟩
    go_wp2
    go_ret
    exact ⟨rfl, hb1⟩
  rw [if_neg hn0] at hsz
  have hsp : spSum xs0 = 0 := rfl
  have hN0 : n0 ≤ 1048576 := by omega
  have hS0 : spSum xs0 ≤ 1048576 := by omega
  obtain ⟨left, hleft⟩ : ∃ left, left = (1048576 - (n0 : Int) - spSum xs0) := ⟨_, rfl⟩
  have hl0 : 0 ≤ left := by omega
  rw [← hleft] at hsz
  have HZ : Hid _ := hsz
  have HM0 : Hid (n0 ≤ maxLen) := hm0
  clear hsz hleft hn0 hm0 hsp
  have SC := fun (A0 : Option Addr) (C0 : Nat) (W' : World) (H0 : RdR lineE 2 W' A0 n0 xs0) (J0 : n0 ≤ C0) (M0 : C0 ≤ maxLen) => specSpansFault_any A0 n0 C0 xs0 W' H0 hN0
  have IC := fun (A0 : Option Addr) (C0 : Nat) (W' : World) (H0 : RdR lineE 2 W' A0 n0 xs0) (J0 : n0 ≤ C0) (M0 : C0 ≤ maxLen) => implSpansFault_any A0 n0 C0 xs0 W' H0 hN0
  generalize spFault xs0 = cd at *
  have HSC : Hid _ := SC
  have HIC : Hid _ := IC
  clear SC IC
  go_enter Try.func4, Try.ntmps4
  have hb : Below w.heap.size w w := Below.refl _ _
  go_wp2_with fail
  refine Calls.mono (HZ.out _ (hr0.below hb)) ?_
  rintro e w1 ⟨rfl, hc⟩
  have s1 : w.heap.size ≤ w1.heap.size := hc.size
  have bq := hc
  replace hb := hb.trans (bq.mono hb.size)
  clear hc bq
  have hleft : ¬ left < 0 := by omega
  go_wp2_with fail
  refine Calls.mono (toSpanS_row a0 n0 ca0 xs0 _ (hr0.below hb) (by omega)) ?_
  rintro e w2 ⟨vt2, rfl, rt2, hc⟩
  obtain ⟨at2, kt2, rfl, q1, q2⟩ := (RowS.shape lineE_len rt2)
  have Kt2 : Hid _ := And.intro q1 q2
  clear q1 q2
  have s2 : w1.heap.size ≤ w2.heap.size := hc.size
  have bq := hc
  replace hb := hb.trans (bq.mono hb.size)
  clear hc bq
  go_wp2_with fail
  refine Calls.mono (HSC.out at2 kt2 _ (RowS.read lineE_len rt2) Kt2.out.1 Kt2.out.2) ?_
  rintro e w3 ⟨rfl, hc⟩
  have s3 : w2.heap.size ≤ w3.heap.size := hc.size
  have bq := hc
  replace rt2 := rt2.below bq
  replace hb := hb.trans (bq.mono hb.size)
  clear hc bq
  clear rt2
  clear Kt2
  go_wp2_with fail
  refine Calls.mono (toSpanS_row a0 n0 ca0 xs0 _ (hr0.below hb) (by omega)) ?_
  rintro e w4 ⟨vt4, rfl, rt4, hc⟩
  obtain ⟨at4, kt4, rfl, q1, q2⟩ := (RowS.shape lineE_len rt4)
  have Kt4 : Hid _ := And.intro q1 q2
  clear q1 q2
  have s4 : w3.heap.size ≤ w4.heap.size := hc.size
  have bq := hc
  replace hb := hb.trans (bq.mono hb.size)
  clear hc bq
  go_wp2_with fail
  refine Calls.mono (HIC.out at4 kt4 _ (RowS.read lineE_len rt4) Kt4.out.1 Kt4.out.2) ?_
  rintro e w5 ⟨rfl, hc⟩
  have s5 : w4.heap.size ≤ w5.heap.size := hc.size
  have bq := hc
  replace rt4 := rt4.below bq
  replace hb := hb.trans (bq.mono hb.size)
  clear hc bq
  go_wp2_with fail
  refine Calls.mono (toSpanS_row a0 n0 ca0 xs0 _ (hr0.below hb) (by omega)) ?_
  rintro e w6 ⟨vt6, rfl, rt6, hc⟩
  obtain ⟨at6, kt6, rfl, q1, q2⟩ := (RowS.shape lineE_len rt6)
  have Kt6 : Hid _ := And.intro q1 q2
  clear q1 q2
  have s6 : w5.heap.size ≤ w6.heap.size := hc.size
  have bq := hc
  replace rt4 := rt4.below bq
  replace hb := hb.trans (bq.mono hb.size)
  clear hc bq
  go_wp2_with fail
  refine Calls.mono (eqSpanS_yes at4 at6 n0 kt4 kt6 xs0 _ (RowS.read lineE_len rt4) (RowS.read lineE_len rt6) (by first | omega | (unfold maxLen; omega))) ?_
  rintro e w7 ⟨rfl, hc⟩
  have s7 : w6.heap.size ≤ w7.heap.size := hc.size
  have bq := hc
  replace rt4 := rt4.below bq
  replace rt6 := rt6.below bq
  replace hb := hb.trans (bq.mono hb.size)
  clear hc bq
  clear rt6
  clear Kt6
  go_wp2
  go_ret
  exact ⟨rfl, hb⟩

theorem own : ownKnob Try.prog.godebug = none := by kernel_rfl
theorem laidOut : laidOutB Try.prog = true := by kernel_rfl

set_option maxRecDepth 100000 in
theorem lifted (os : Os) (started : os.Started) (H : Type) (enc : TypeId × Value → H) :
    ReturnsInHanded {} Try.checked os 4 .any (Rows.fnExactSpansFaultSpec.pre6 enc Try.prog Try.f4 Rows.fnExactSpansFaultRow.domain false) (Rows.fnExactSpansFaultSpec.post enc Try.prog Try.f4 false true false false) := by
  refine returnsInHanded_of_change (C := Try.checked) own started (by kernel_rfl) Try.func4
    (ChangeSpec.witness6 (enc := enc) (C := Try.checked) false ⟨#[], #[.slice none 0 0], []⟩ 8 (by kernel_rfl) (by kernel_rfl) (by kernel_rfl) (by kernel_rfl)) ?_
  intro W base args ds gs before hval0 hW hcnd _
  have hval : ∀ (j : Nat) t v, Try.f4.params[j]? = some t → args[j]? = some v → Value.okWide Try.prog W .any base t v := hval0
  have hW' := hW
  obtain ⟨p, q, hA0, hV, rfl, hfz, hnd⟩ := hW
  have hA : DataW.TrodAll enc Try.prog W 0 (fun _ => true) true Try.f4.params.toList args.toList ds p := hA0
  rw [Try.params4] at hA hval
  obtain ⟨v0, d0, rfl, rfl, h0⟩ := trodAll_one hA
  obtain ⟨rfl, rfl⟩ := trodVars_none hV
  have k0 := h0
  have lt0 : ∀ x ∈ p, x.block < W.heap.size := by obtain ⟨m, hm⟩ := k0; exact DataW.trod_lt m _ _ _ hm
  obtain ⟨a0, len0, cap0, rfl⟩ := okWide_slice Try.underlying40 (hval 0 40 v0 rfl rfl)
  obtain ⟨x0, hr0, hs0, hl0, hm0⟩ := open_spans h0
  clear hA0 hval0
  refine (walk a0 len0 cap0 x0 W hr0 hs0 (by omega)).mono fun e W' ⟨he, bel⟩ => ?_
  subst he
  exact ⟨_, rfl, _, _, _, [], _, [], hW', trodAll_mk1 (shut_bool Try.underlying4 _), trodAll_mk1 (Below.trod laidOut (by kernel_rfl) (of_decide_eq_true (by kernel_rfl)) k0 bel lt0), rfl, bel.frame _, fun h => by cases h⟩

theorem proved : Rows.FnExactSpansFaultSaid :=
  OpenClaim.holds_of_wide 4 Try.f4 rfl rfl rfl rfl rfl rfl rfl ⟨rfl, rfl, rfl, rfl, rfl⟩ rfl rfl rfl rfl rfl (by kernel_rfl) Try.func4 (by kernel_rfl)
    (of_decide_eq_true (by kernel_rfl)) (by unfold Func.isWrapper; first | (rw [if_pos (by decide +kernel)]; kernel_rfl) | (rw [if_neg (by decide +kernel)]; exact ⟨rfl, rfl⟩))
    (fun os started H enc _ => lifted os started H enc)
end Go.Proofs.Ytppielcpidcmaaa.fnExactSpansFault
namespace Go.Proofs.Ytppielcpidcmaaa
theorem fnExactSpansFault_proved : Rows.FnExactSpansFaultSaid := fnExactSpansFault.proved
end Go.Proofs.Ytppielcpidcmaaa
