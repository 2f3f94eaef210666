/-
  For every list of spans and every number, FnExactMarkBytes returns true: the program's MarkBytes answers as the model, writes into no argument, and its answer owns its memory; no condition.
-/
import Derived.Test.YtppielcpidcmaaaHlpV
import Derived.Test.YtppielcpidcmaaaHlpR
import Derived.Test.YtppielcpidcmaaaSpan3
import Derived.Test.YtppielcpidcmaaaSpan4
import Derived.Test.YtppielcpidcmaaaArgsA
import Derived.ProofKit
import Derived.OpenShut
import Derived.ChangeOld
import Derived.Below
import Derived.Carry
import Derived.Deep.RegionWith
import Derived.Deep.RegionHeld3
namespace Go.Proofs.Ytppielcpidcmaaa.fnExactMarkBytes
open Go.ChangeShapes Go.WideShapes Go.ChangeAt Go.RowKit
set_option linter.unusedVariables false
set_option linter.unusedSimpArgs false

set_option maxRecDepth 10000 in
set_option maxHeartbeats 3200000 in
theorem walk (a0 : Option Addr) (n0 ca0 : Nat) (xs0 : List L2) (I1 : Int) (w : World) (hr0 : RdR lineE 2 w a0 n0 xs0) (hz0 : ∀ y ∈ xs0, True) (hm0 : n0 ≤ maxLen) :
    Calls Try.prog 5 #[.slice a0 n0 ca0, .int .i64 I1] w fun e w' => e = .returned (.bool true) ∧ Below w.heap.size w w' := by
  have hsz := fun w' ha' => szSpanS_any a0 n0 ca0 xs0 1048576 w' ha' hz0 hm0 (by omega) (by omega)
  by_cases hn0 : 1048576 < (n0 : Int) + spSum xs0
  case pos =>
    rw [if_pos hn0] at hsz
    have HZ : Hid _ := hsz
    clear hsz
    go_enter Try.func5, Try.ntmps5
    go_wp2_with fail
    refine Calls.mono (HZ.out _ hr0) ?_
    rintro e w1 ⟨rfl, hb1⟩
    go_wp2
    go_ret
    exact ⟨rfl, hb1⟩
  rw [if_neg hn0] at hsz
  have hsp : spSum xs0 = 0 := rfl
  have hN0 : n0 ≤ 1048576 := by omega
  have hS0 : spSum xs0 ≤ 1048576 := by omega
  obtain ⟨left, hleft⟩ : ∃ left, left = (1048576 - (n0 : Int) - spSum xs0) := ⟨_, rfl⟩
  have hl0 : 0 ≤ left := by omega
  rw [← hleft] at hsz
  have HZ : Hid _ := hsz
  have HM0 : Hid (n0 ≤ maxLen) := hm0
  clear hsz hleft hn0 hm0 hsp
  have SC := fun (A0 : Option Addr) (C0 : Nat) (W' : World) (H0 : RdR lineE 2 W' A0 n0 xs0) (J0 : n0 ≤ C0) (M0 : C0 ≤ maxLen) => specMarkBytes_any A0 n0 C0 xs0 I1 W' H0 hN0
  have IC := fun (A0 : Option Addr) (C0 : Nat) (W' : World) (H0 : RdR lineE 2 W' A0 n0 xs0) (J0 : n0 ≤ C0) (M0 : C0 ≤ maxLen) => implMarkBytes_any A0 n0 C0 xs0 I1 W' H0 hN0
  have hrl : (mbRes xs0 I1).length ≤ 400 := mbRes_len xs0 I1
  generalize mbCode xs0 I1 = cd at *
  generalize mbRes xs0 I1 = rs at *
  generalize hml : rs.length = m at *
  clear hml
  have HSC : Hid _ := SC
  have HIC : Hid _ := IC
  clear SC IC
  go_enter Try.func5, Try.ntmps5
  have hb : Below w.heap.size w w := Below.refl _ _
  go_wp2_with fail
  refine Calls.mono (HZ.out _ (hr0.below hb)) ?_
  rintro e w1 ⟨rfl, hc⟩
  have s1 : w.heap.size ≤ w1.heap.size := hc.size
  have bq := hc
  replace hb := hb.trans (bq.mono hb.size)
  clear hc bq
  have hleft : ¬ left < 0 := by omega
  go_wp2_with fail
  refine Calls.mono (toSpanS_row a0 n0 ca0 xs0 _ (hr0.below hb) (by omega)) ?_
  rintro e w2 ⟨vt2, rfl, rt2, hc⟩
  obtain ⟨at2, kt2, rfl, q1, q2⟩ := (RowS.shape lineE_len rt2)
  have Kt2 : Hid _ := And.intro q1 q2
  clear q1 q2
  have s2 : w1.heap.size ≤ w2.heap.size := hc.size
  have bq := hc
  replace hb := hb.trans (bq.mono hb.size)
  clear hc bq
  go_wp2_with fail
  refine Calls.mono (HSC.out at2 kt2 _ (RowS.read lineE_len rt2) Kt2.out.1 Kt2.out.2) ?_
  rintro e w3 ⟨vg3, rfl, rg3, hc⟩
  obtain ⟨ag3, kg3, rfl, _⟩ := rg3.shape
  have s3 : w2.heap.size ≤ w3.heap.size := hc.size
  have bq := hc
  replace rt2 := rt2.below bq
  replace hb := hb.trans (bq.mono hb.size)
  clear hc bq
  clear rt2
  clear Kt2
  go_wp2_with fail
  have bp : ∀ o0, Below w3.heap.size w3 (w3.alloc o0) := fun o0 => (Below.refl _ _).alloc (Nat.le_refl _) o0
  have hbt : ∀ o0, Below w.heap.size w (w3.alloc o0) := fun o0 => hb.trans ((bp o0).mono hb.size)
  refine Calls.mono (toSpanS_row a0 n0 ca0 xs0 _ (hr0.below (hbt _)) (by omega)) ?_
  rintro e w4 ⟨vt4, rfl, rt4, hc⟩
  obtain ⟨at4, kt4, rfl, q1, q2⟩ := (RowS.shape lineE_len rt4)
  have Kt4 : Hid _ := And.intro q1 q2
  clear q1 q2
  replace rt4 := RowS.mono (lo' := w3.heap.size + 1) rt4 (by simp) (Nat.le_refl _)
  have s4 : w3.heap.size + 1 ≤ w4.heap.size := by have := hc.size; simp at this; omega
  have bq : Below w3.heap.size w3 w4 := (bp _).trans (hc.mono (bp _).size)
  have cw00 : w4.cell? ⟨w3.heap.size, 0, none⟩ = some (.int .i64 cd) := cell_later hc (by simp [go_sem])
  have cw01 : w4.cell? ⟨w3.heap.size, 1, none⟩ = some (.slice ag3 m kg3) := cell_later hc (by simp [go_sem])
  have zw0 : w3.heap.size < w4.heap.size := by omega
  replace rg3 := rg3.below bq
  replace hb := hb.trans (bq.mono hb.size)
  clear hc bq bp hbt
  go_wp2_with fail
  refine Calls.mono (HIC.out at4 kt4 _ (RowS.read lineE_len rt4) Kt4.out.1 Kt4.out.2) ?_
  rintro e w5 ⟨vg5, rfl, rg5, hc⟩
  obtain ⟨ag5, kg5, rfl, _⟩ := rg5.shape
  have s5 : w4.heap.size ≤ w5.heap.size := hc.size
  have bq := hc
  replace cw00 := cell_later bq cw00
  replace cw01 := cell_later bq cw01
  replace zw0 := Nat.lt_of_lt_of_le zw0 bq.size
  replace rg3 := rg3.below bq
  replace rt4 := rt4.below bq
  replace hb := hb.trans (bq.mono hb.size)
  clear hc bq
  go_wp2_with fail
  have bp : ∀ o0, Below w5.heap.size w5 (w5.alloc o0) := fun o0 => (Below.refl _ _).alloc (Nat.le_refl _) o0
  have hbt : ∀ o0, Below w.heap.size w (w5.alloc o0) := fun o0 => hb.trans ((bp o0).mono hb.size)
  refine Calls.mono (eqIntsResult_yes cd ag5 ag3 m kg5 kg3 rs _ (rg5.below (bp _)).read (rg3.below (bp _)).read (by first | omega | (unfold maxLen; omega))) ?_
  rintro e w6 ⟨rfl, hc⟩
  have s6 : w5.heap.size + 1 ≤ w6.heap.size := by have := hc.size; simp at this; omega
  have bq : Below w5.heap.size w5 w6 := (bp _).trans (hc.mono (bp _).size)
  replace cw00 := cell_later bq cw00
  replace cw01 := cell_later bq cw01
  replace zw0 := Nat.lt_of_lt_of_le zw0 bq.size
  have cg00 : w6.cell? ⟨w5.heap.size, 0, none⟩ = some (.int .i64 cd) := cell_later hc (by simp [go_sem])
  have cg01 : w6.cell? ⟨w5.heap.size, 1, none⟩ = some (.slice ag5 m kg5) := cell_later hc (by simp [go_sem])
  have zg0 : w5.heap.size < w6.heap.size := by omega
  replace rg3 := rg3.below bq
  replace rt4 := rt4.below bq
  replace rg5 := rg5.below bq
  replace hb := hb.trans (bq.mono hb.size)
  clear hc bq bp hbt
  go_wp2_with fail
  refine Calls.mono (toSpanS_row a0 n0 ca0 xs0 _ (hr0.below hb) (by omega)) ?_
  rintro e w7 ⟨vt7, rfl, rt7, hc⟩
  obtain ⟨at7, kt7, rfl, q1, q2⟩ := (RowS.shape lineE_len rt7)
  have Kt7 : Hid _ := And.intro q1 q2
  clear q1 q2
  have s7 : w6.heap.size ≤ w7.heap.size := hc.size
  have bq := hc
  replace cw00 := cell_later bq cw00
  replace cw01 := cell_later bq cw01
  replace zw0 := Nat.lt_of_lt_of_le zw0 bq.size
  replace cg00 := cell_later bq cg00
  replace cg01 := cell_later bq cg01
  replace zg0 := Nat.lt_of_lt_of_le zg0 bq.size
  replace rg3 := rg3.below bq
  replace rt4 := rt4.below bq
  replace rg5 := rg5.below bq
  replace hb := hb.trans (bq.mono hb.size)
  clear hc bq
  go_wp2_with fail
  refine Calls.mono (eqSpanS_yes at4 at7 n0 kt4 kt7 xs0 _ (RowS.read lineE_len rt4) (RowS.read lineE_len rt7) (by first | omega | (unfold maxLen; omega))) ?_
  rintro e w8 ⟨rfl, hc⟩
  have s8 : w7.heap.size ≤ w8.heap.size := hc.size
  have bq := hc
  replace cw00 := cell_later bq cw00
  replace cw01 := cell_later bq cw01
  replace zw0 := Nat.lt_of_lt_of_le zw0 bq.size
  replace cg00 := cell_later bq cg00
  replace cg01 := cell_later bq cg01
  replace zg0 := Nat.lt_of_lt_of_le zg0 bq.size
  replace rg3 := rg3.below bq
  replace rt4 := rt4.below bq
  replace rg5 := rg5.below bq
  replace rt7 := rt7.below bq
  replace hb := hb.trans (bq.mono hb.size)
  clear hc bq
  clear rt7
  clear Kt7
  go_wp2_with fail
  refine Calls.mono (markSpanS_row 1 _ n0 _ _ xs0 _ rt4 (by omega) (by omega) (by omega)) ?_
  clear rt4
  rintro e w9 ⟨rfl, rt4, hc⟩
  have s9 : w8.heap.size ≤ w9.heap.size := hc.size
  have cq := hc
  replace cw00 := cq.at cw00 zw0 (by omega)
  replace cw01 := cq.at cw01 zw0 (by omega)
  replace zw0 := Nat.lt_of_lt_of_le zw0 cq.size
  replace cg00 := cq.at cg00 zg0 (by omega)
  replace cg01 := cq.at cg01 zg0 (by omega)
  replace zg0 := Nat.lt_of_lt_of_le zg0 cq.size
  replace rg3 := rg3.chg cq (by omega)
  replace rg5 := rg5.chg cq (by omega)
  replace hb := below_chg hb cq hb.size (by omega)
  clear hc cq
  have hk9 : ¬ (1 + 2 * (n0 : Int)) < 0 := by omega
  go_wp2_with fail
  refine Calls.mono (eqIntsResult_yes cd ag5 ag3 m kg5 kg3 rs _ rg5.read rg3.read (by first | omega | (unfold maxLen; omega))) ?_
  rintro e w10 ⟨rfl, hc⟩
  have s10 : w9.heap.size ≤ w10.heap.size := hc.size
  have bq := hc
  replace cw00 := cell_later bq cw00
  replace cw01 := cell_later bq cw01
  replace zw0 := Nat.lt_of_lt_of_le zw0 bq.size
  replace cg00 := cell_later bq cg00
  replace cg01 := cell_later bq cg01
  replace zg0 := Nat.lt_of_lt_of_le zg0 bq.size
  replace rg3 := rg3.below bq
  replace rt4 := rt4.below bq
  replace rg5 := rg5.below bq
  replace hb := hb.trans (bq.mono hb.size)
  clear hc bq
  go_wp2_with fail
  refine Calls.mono (markIntsResult_row cd 1 _ m _ _ rs _ rg5 (by omega) (by omega) (by omega)) ?_
  clear rg5
  rintro e w11 ⟨rfl, rg5, hc⟩
  have s11 : w10.heap.size ≤ w11.heap.size := hc.size
  have cq := hc
  replace cw00 := cq.at cw00 zw0 (by omega)
  replace cw01 := cq.at cw01 zw0 (by omega)
  replace zw0 := Nat.lt_of_lt_of_le zw0 cq.size
  replace cg00 := cq.at cg00 zg0 (by omega)
  replace cg01 := cq.at cg01 zg0 (by omega)
  replace zg0 := Nat.lt_of_lt_of_le zg0 cq.size
  replace rg3 := rg3.chg cq (by omega)
  replace rt4 := rt4.chg cq (by omega)
  replace hb := below_chg hb cq hb.size (by omega)
  clear hc cq
  have hk11 : ¬ (1 + (m : Int)) < 0 := by omega
  go_wp2_with fail
  refine Calls.mono (heldIntsResult_yes cd 1 ag5 m kg5 _ rg5.read (by omega) (by omega) (by omega)) ?_
  rintro e w12 ⟨rfl, hc⟩
  have s12 : w11.heap.size ≤ w12.heap.size := hc.size
  have bq := hc
  replace cw00 := cell_later bq cw00
  replace cw01 := cell_later bq cw01
  replace zw0 := Nat.lt_of_lt_of_le zw0 bq.size
  replace cg00 := cell_later bq cg00
  replace cg01 := cell_later bq cg01
  replace zg0 := Nat.lt_of_lt_of_le zg0 bq.size
  replace rg3 := rg3.below bq
  replace rt4 := rt4.below bq
  replace rg5 := rg5.below bq
  replace hb := hb.trans (bq.mono hb.size)
  clear hc bq
  go_wp2_with fail
  refine Calls.mono (toSpanS_row a0 n0 ca0 xs0 _ (hr0.below hb) (by omega)) ?_
  rintro e w13 ⟨vt13, rfl, rt13, hc⟩
  obtain ⟨at13, kt13, rfl, q1, q2⟩ := (RowS.shape lineE_len rt13)
  have Kt13 : Hid _ := And.intro q1 q2
  clear q1 q2
  have s13 : w12.heap.size ≤ w13.heap.size := hc.size
  have bq := hc
  replace cw00 := cell_later bq cw00
  replace cw01 := cell_later bq cw01
  replace zw0 := Nat.lt_of_lt_of_le zw0 bq.size
  replace cg00 := cell_later bq cg00
  replace cg01 := cell_later bq cg01
  replace zg0 := Nat.lt_of_lt_of_le zg0 bq.size
  replace rg3 := rg3.below bq
  replace rt4 := rt4.below bq
  replace rg5 := rg5.below bq
  replace hb := hb.trans (bq.mono hb.size)
  clear hc bq
  go_wp2_with fail
  refine Calls.mono (HIC.out at13 kt13 _ (RowS.read lineE_len rt13) Kt13.out.1 Kt13.out.2) ?_
  rintro e w14 ⟨vg14, rfl, rg14, hc⟩
  obtain ⟨ag14, kg14, rfl, _⟩ := rg14.shape
  have s14 : w13.heap.size ≤ w14.heap.size := hc.size
  have bq := hc
  replace cw00 := cell_later bq cw00
  replace cw01 := cell_later bq cw01
  replace zw0 := Nat.lt_of_lt_of_le zw0 bq.size
  replace cg00 := cell_later bq cg00
  replace cg01 := cell_later bq cg01
  replace zg0 := Nat.lt_of_lt_of_le zg0 bq.size
  replace rg3 := rg3.below bq
  replace rt4 := rt4.below bq
  replace rg5 := rg5.below bq
  replace rt13 := rt13.below bq
  replace hb := hb.trans (bq.mono hb.size)
  clear hc bq
  clear rt13
  clear Kt13
  go_wp2_with fail
  have bp : ∀ o0, Below w14.heap.size w14 (w14.alloc o0) := fun o0 => (Below.refl _ _).alloc (Nat.le_refl _) o0
  have hbt : ∀ o0, Below w.heap.size w (w14.alloc o0) := fun o0 => hb.trans ((bp o0).mono hb.size)
  refine Calls.mono (eqIntsResult_yes cd ag14 ag3 m kg14 kg3 rs _ (rg14.below (bp _)).read (rg3.below (bp _)).read (by first | omega | (unfold maxLen; omega))) ?_
  rintro e w15 ⟨rfl, hc⟩
  have s15 : w14.heap.size + 1 ≤ w15.heap.size := by have := hc.size; simp at this; omega
  have bq : Below w14.heap.size w14 w15 := (bp _).trans (hc.mono (bp _).size)
  replace cw00 := cell_later bq cw00
  replace cw01 := cell_later bq cw01
  replace zw0 := Nat.lt_of_lt_of_le zw0 bq.size
  replace cg00 := cell_later bq cg00
  replace cg01 := cell_later bq cg01
  replace zg0 := Nat.lt_of_lt_of_le zg0 bq.size
  have ch00 : w15.cell? ⟨w14.heap.size, 0, none⟩ = some (.int .i64 cd) := cell_later hc (by simp [go_sem])
  have ch01 : w15.cell? ⟨w14.heap.size, 1, none⟩ = some (.slice ag14 m kg14) := cell_later hc (by simp [go_sem])
  have zh0 : w14.heap.size < w15.heap.size := by omega
  replace rg3 := rg3.below bq
  replace rt4 := rt4.below bq
  replace rg5 := rg5.below bq
  replace rg14 := rg14.below bq
  replace hb := hb.trans (bq.mono hb.size)
  clear hc bq bp hbt
  go_wp2_with fail
  refine Calls.mono (heldIntsResult_yes cd 1 ag5 m kg5 _ rg5.read (by omega) (by omega) (by omega)) ?_
  rintro e w16 ⟨rfl, hc⟩
  have s16 : w15.heap.size ≤ w16.heap.size := hc.size
  have bq := hc
  replace cw00 := cell_later bq cw00
  replace cw01 := cell_later bq cw01
  replace zw0 := Nat.lt_of_lt_of_le zw0 bq.size
  replace cg00 := cell_later bq cg00
  replace cg01 := cell_later bq cg01
  replace zg0 := Nat.lt_of_lt_of_le zg0 bq.size
  replace ch00 := cell_later bq ch00
  replace ch01 := cell_later bq ch01
  replace zh0 := Nat.lt_of_lt_of_le zh0 bq.size
  replace rg3 := rg3.below bq
  replace rt4 := rt4.below bq
  replace rg5 := rg5.below bq
  replace rg14 := rg14.below bq
  replace hb := hb.trans (bq.mono hb.size)
  clear hc bq
  go_wp2
  go_ret
  exact ⟨rfl, hb⟩

theorem own : ownKnob Try.prog.godebug = none := by kernel_rfl
theorem laidOut : laidOutB Try.prog = true := by kernel_rfl

set_option maxRecDepth 100000 in
theorem lifted (os : Os) (started : os.Started) (H : Type) (enc : TypeId × Value → H) :
    ReturnsInHanded {} Try.checked os 5 .any (Rows.fnExactMarkBytesSpec.pre6 enc Try.prog Try.f5 Rows.fnExactMarkBytesRow.domain false) (Rows.fnExactMarkBytesSpec.post enc Try.prog Try.f5 false true false false) := by
  refine returnsInHanded_of_change (C := Try.checked) own started (by kernel_rfl) Try.func5
    (ChangeSpec.witness6 (enc := enc) (C := Try.checked) false ⟨#[], #[.slice none 0 0, .int .i64 0], []⟩ 8 (by kernel_rfl) (by kernel_rfl) (by kernel_rfl) (by kernel_rfl)) ?_
  intro W base args ds gs before hval0 hW hcnd _
  have hval : ∀ (j : Nat) t v, Try.f5.params[j]? = some t → args[j]? = some v → Value.okWide Try.prog W .any base t v := hval0
  have hW' := hW
  obtain ⟨p, q, hA0, hV, rfl, hfz, hnd⟩ := hW
  have hA : DataW.TrodAll enc Try.prog W 0 (fun _ => true) true Try.f5.params.toList args.toList ds p := hA0
  rw [Try.params5] at hA hval
  obtain ⟨v0, v1, d0, d1, p0, p1, rfl, rfl, rfl, h0, h1⟩ := trodAll_two hA
  obtain ⟨rfl, rfl⟩ := trodVars_none hV
  have k0 := h0
  have lt0 : ∀ x ∈ p0, x.block < W.heap.size := by obtain ⟨m, hm⟩ := k0; exact DataW.trod_lt m _ _ _ hm
  obtain ⟨a0, len0, cap0, rfl⟩ := okWide_slice Try.underlying40 (hval 0 40 v0 rfl rfl)
  obtain ⟨x0, hr0, hs0, hl0, hm0⟩ := open_spans h0
  obtain ⟨I1, rfl, rfl, rfl, wI1⟩ := open_int Try.underlying2 (hval 1 2 v1 rfl rfl) h1
  clear hA0 hval0
  refine (walk a0 len0 cap0 x0 I1 W hr0 hs0 (by omega)).mono fun e W' ⟨he, bel⟩ => ?_
  subst he
  exact ⟨_, rfl, _, _, _, [], _, [], hW', trodAll_mk1 (shut_bool Try.underlying4 _), trodAll_mk2 (Below.trod laidOut (by kernel_rfl) (of_decide_eq_true (by kernel_rfl)) k0 bel lt0) (shut_int Try.underlying2 wI1), rfl, bel.frame _, fun h => by cases h⟩

theorem proved : Rows.FnExactMarkBytesSaid :=
  OpenClaim.holds_of_wide 5 Try.f5 rfl rfl rfl rfl rfl rfl rfl ⟨rfl, rfl, rfl, rfl, rfl⟩ rfl rfl rfl rfl rfl (by kernel_rfl) Try.func5 (by kernel_rfl)
    (of_decide_eq_true (by kernel_rfl)) (by unfold Func.isWrapper; first | (rw [if_pos (by decide +kernel)]; kernel_rfl) | (rw [if_neg (by decide +kernel)]; exact ⟨rfl, rfl⟩))
    (fun os started H enc _ => lifted os started H enc)
end Go.Proofs.Ytppielcpidcmaaa.fnExactMarkBytes
namespace Go.Proofs.Ytppielcpidcmaaa
theorem fnExactMarkBytes_proved : Rows.FnExactMarkBytesSaid := fnExactMarkBytes.proved
end Go.Proofs.Ytppielcpidcmaaa
