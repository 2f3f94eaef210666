/-
  For every two lists of nodes, FnExactSameNodes returns true: the program's SameNodes answers as the model and writes into no argument; no condition.
-/
import Derived.Test.YtjjapnggdfiinaaNode2
import Derived.Test.YtjjapnggdfiinaaNode4
import Derived.Test.YtjjapnggdfiinaaNodeA
import Derived.ProofKit
import Derived.OpenShut
namespace Go.Proofs.Ytjjapnggdfiinaa.fnExactSameNodes
open Go.ChangeShapes Go.WideShapes Go.ChangeAt Go.RowKit
set_option linter.unusedVariables false

theorem own : ownKnob Try.prog.godebug = none := by kernel_rfl
theorem laidOut : laidOutB Try.prog = true := by kernel_rfl

set_option maxHeartbeats 1600000 in
theorem walk (a0 : Option Addr) (n0 ca0 : Nat) (cs0 : List Nd) (a1 : Option Addr) (n1 ca1 : Nat) (cs1 : List Nd) (w : World) (ha0 : RdR ndE 5 w a0 n0 cs0) (hz0 : ∀ y ∈ cs0, y.s.size ≤ maxLen) (hm0 : n0 ≤ maxLen) (ha1 : RdR ndE 5 w a1 n1 cs1) (hz1 : ∀ y ∈ cs1, y.s.size ≤ maxLen) (hm1 : n1 ≤ maxLen) :
    Calls Try.prog 7 #[.slice a0 n0 ca0, .slice a1 n1 ca1] w fun e w' => e = .returned (.bool true) ∧ Below w.heap.size w w' := by
  have hsz0 := fun w' ha' => szNodeS_any a0 n0 ca0 cs0 1048576 w' ha' hz0 hm0 (by omega) (by omega)
  by_cases hn0 : 1048576 < (n0 : Int) + ndSum cs0
  · rw [if_pos hn0] at hsz0
    have HZ0 : Hid _ := hsz0
    clear hsz0
    go_enter Try.func7, Try.ntmps7
    go_wp2_with fail
    refine Calls.mono (HZ0.out _ ha0) ?_
    rintro e w1 ⟨rfl, hb1⟩
    go_wp2
    go_ret
    exact ⟨rfl, hb1⟩
  rw [if_neg hn0] at hsz0
  have HZ0 : Hid _ := hsz0
  clear hsz0
  have hsz1 := fun w' ha' => szNodeS_any a1 n1 ca1 cs1 (1048576 - (n0 : Int) - ndSum cs0) w' ha' hz1 hm1 (by omega) (by omega)
  by_cases hn1 : (1048576 - (n0 : Int) - ndSum cs0) < (n1 : Int) + ndSum cs1
  · rw [if_pos hn1] at hsz1
    have HZ1 : Hid _ := hsz1
    clear hsz1
    go_enter Try.func7, Try.ntmps7
    go_wp2_with fail
    refine Calls.mono (HZ0.out _ ha0) ?_
    rintro e w1 ⟨rfl, hb1⟩
    generalize hleft : 1048576 - (n0 : Int) - ndSum cs0 = left at *
    go_wp2_with fail
    refine Calls.mono (HZ1.out _ (ha1.below hb1)) ?_
    rintro e w2 ⟨rfl, hb2⟩
    go_wp2
    go_ret
    exact ⟨rfl, hb1.trans (hb2.mono hb1.size)⟩
  rw [if_neg hn1] at hsz1
  have HZ1 : Hid _ := hsz1
  clear hsz1
  have l0 : n0 ≤ 1048576 := by omega
  have m0 : ndSum cs0 ≤ 1048576 := by omega
  have HM0 : Hid (n0 ≤ maxLen) := hm0
  clear hm0
  have l1 : n1 ≤ 1048576 := by omega
  have m1 : ndSum cs1 ≤ 1048576 := by omega
  have HM1 : Hid (n1 ≤ maxLen) := hm1
  clear hm1
  obtain ⟨left, hleft⟩ : ∃ left, left = (1048576 - (n0 : Int) - ndSum cs0) - n1 - ndSum cs1 := ⟨_, rfl⟩
  have hl0 : 0 ≤ left := by omega
  obtain ⟨lf, hlf⟩ : ∃ lf, lf = (1048576 - (n0 : Int) - ndSum cs0) := ⟨_, rfl⟩
  have hlf0 : 0 ≤ lf := by omega
  have HL : Hid (left = (1048576 - (n0 : Int) - ndSum cs0) - n1 - ndSum cs1) := hleft
  have HF : Hid (lf = (1048576 - (n0 : Int) - ndSum cs0)) := hlf
  rw [← hlf] at HZ0
  rw [← hleft, ← hlf] at HZ1
  clear hleft hlf hn0 hn1
  have hsp := fun w' b0 c0 b1 c1 h0' h1' => specSameNodes_any b0 b1 n0 n1 c0 c1 cs0 cs1 w' h0' h1' (by omega) (by omega)
  have him := fun w' b0 c0 b1 c1 h0' h1' => implSameNodes_any b0 b1 n0 n1 c0 c1 cs0 cs1 w' h0' h1' (by omega) (by omega)
  generalize decide (cs0 = cs1) = R at hsp him
  have HP : Hid _ := hsp
  have HI : Hid _ := him
  clear hsp him
  go_enter Try.func7, Try.ntmps7
  go_wp2_with fail
  refine Calls.mono (HZ0.out _ ha0) ?_
  rintro e u0 ⟨rfl, hb⟩
  have hw0 : Below w.heap.size w u0 := hb
  clear hb
  go_wp2_with fail
  refine Calls.mono (HZ1.out _ (ha1.below hw0)) ?_
  rintro e u1 ⟨rfl, hb⟩
  have hw1 : Below w.heap.size w u1 := hw0.trans (hb.mono hw0.size)
  clear hb
  go_wp2_with fail
  refine (toNodeS_any a0 n0 ca0 cs0 _ (ha0.below hw1) (by omega)).mono ?_
  rintro e u2 ⟨vs0, rfl, hos0, hb⟩
  obtain ⟨ps0, qs0, hv, -, -, -⟩ := hos0.rd ndE_len
  subst hv
  have hw2 : Below w.heap.size w u2 := hw1.trans (hb.mono hw1.size)
  clear hb
  go_wp2_with fail
  refine (toNodeS_any a1 n1 ca1 cs1 _ (ha1.below hw2) (by omega)).mono ?_
  rintro e u3 ⟨vs1, rfl, hos1, hb⟩
  obtain ⟨ps1, qs1, hv, -, -, -⟩ := hos1.rd ndE_len
  subst hv
  have hw3 : Below w.heap.size w u3 := hw2.trans (hb.mono hw2.size)
  replace hos0 := hos0.below hb
  clear hb
  go_wp2_with fail
  refine Calls.mono (HP.out _ _ _ _ _ (hos0.read ndE_len) (hos1.read ndE_len)) ?_
  rintro e u4 ⟨rfl, hb⟩
  have hw4 : Below w.heap.size w u4 := hw3.trans (hb.mono hw3.size)
  clear hb hos0 hos1
  go_wp2_with fail
  refine (toNodeS_any a0 n0 ca0 cs0 _ (ha0.below hw4) (by omega)).mono ?_
  rintro e u5 ⟨vx0, rfl, hox0, hb⟩
  obtain ⟨px0, qx0, hv, -, -, -⟩ := hox0.rd ndE_len
  subst hv
  have hw5 : Below w.heap.size w u5 := hw4.trans (hb.mono hw4.size)
  clear hb
  go_wp2_with fail
  refine (toNodeS_any a1 n1 ca1 cs1 _ (ha1.below hw5) (by omega)).mono ?_
  rintro e u6 ⟨vx1, rfl, hox1, hb⟩
  obtain ⟨px1, qx1, hv, -, -, -⟩ := hox1.rd ndE_len
  subst hv
  have hw6 : Below w.heap.size w u6 := hw5.trans (hb.mono hw5.size)
  replace hox0 := hox0.below hb
  clear hb
  go_wp2_with fail
  refine Calls.mono (HI.out _ _ _ _ _ (hox0.read ndE_len) (hox1.read ndE_len)) ?_
  rintro e u7 ⟨rfl, hb⟩
  have hw7 : Below w.heap.size w u7 := hw6.trans (hb.mono hw6.size)
  replace hox0 := hox0.below hb
  replace hox1 := hox1.below hb
  clear hb
  go_wp2_with fail
  refine (toNodeS_any a0 n0 ca0 cs0 _ (ha0.below hw7) (by omega)).mono ?_
  rintro e u8 ⟨vy0, rfl, hoy0, hb⟩
  obtain ⟨py0, qy0, hv, -, -, -⟩ := hoy0.rd ndE_len
  subst hv
  have hw8 : Below w.heap.size w u8 := hw7.trans (hb.mono hw7.size)
  replace hox0 := hox0.below hb
  replace hox1 := hox1.below hb
  clear hb
  go_wp2_with fail
  refine (eqNodeS_yes _ _ n0 _ _ cs0 _ (hox0.read ndE_len) (hoy0.read ndE_len) (by omega)).mono ?_
  rintro e u9 ⟨rfl, hb⟩
  have hw9 : Below w.heap.size w u9 := hw8.trans (hb.mono hw8.size)
  replace hox0 := hox0.below hb
  replace hox1 := hox1.below hb
  clear hb hoy0
  go_wp2_with fail
  refine (toNodeS_any a1 n1 ca1 cs1 _ (ha1.below hw9) (by omega)).mono ?_
  rintro e u10 ⟨vy1, rfl, hoy1, hb⟩
  obtain ⟨py1, qy1, hv, -, -, -⟩ := hoy1.rd ndE_len
  subst hv
  have hw10 : Below w.heap.size w u10 := hw9.trans (hb.mono hw9.size)
  replace hox0 := hox0.below hb
  replace hox1 := hox1.below hb
  clear hb
  go_wp2_with fail
  refine (eqNodeS_yes _ _ n1 _ _ cs1 _ (hox1.read ndE_len) (hoy1.read ndE_len) (by omega)).mono ?_
  rintro e u11 ⟨rfl, hb⟩
  have hw11 : Below w.heap.size w u11 := hw10.trans (hb.mono hw10.size)
  replace hox0 := hox0.below hb
  replace hox1 := hox1.below hb
  clear hb hoy1
  go_wp2
  go_ret
  exact ⟨rfl, hw11⟩

set_option maxRecDepth 100000 in
theorem lifted (os : Os) (started : os.Started) (H : Type) (enc : TypeId × Value → H) :
    ReturnsInHanded {} Try.checked os 7 .any (Rows.fnExactSameNodesSpec.pre6 enc Try.prog Try.f7 Rows.fnExactSameNodesRow.domain false) (Rows.fnExactSameNodesSpec.post enc Try.prog Try.f7 false true false false) := by
  refine returnsInHanded_of_change (C := Try.checked) own started (by kernel_rfl) Try.func7
    (ChangeSpec.witness6 (enc := enc) (C := Try.checked) false ⟨#[], #[.slice none 0 0, .slice none 0 0], []⟩ 8 (by kernel_rfl) (by kernel_rfl) (by kernel_rfl) (by kernel_rfl)) ?_
  intro W base args ds gs before hval0 hW hcnd _
  have hval : ∀ (j : Nat) t v, Try.f7.params[j]? = some t → args[j]? = some v → Value.okWide Try.prog W .any base t v := hval0
  have hW' := hW
  obtain ⟨p, q, hA0, hV, rfl, hfz, hnd⟩ := hW
  have hA : DataW.TrodAll enc Try.prog W 0 (fun _ => true) true Try.f7.params.toList args.toList ds p := hA0
  rw [Try.params7] at hA hval
  obtain ⟨v0, v1, d0, d1, p0, p1, rfl, rfl, rfl, h0, h1⟩ := trodAll_two hA
  obtain ⟨rfl, rfl⟩ := trodVars_none hV
  obtain ⟨a0, len0, cap0, rfl⟩ := okWide_slice Try.underlying35 (hval 0 35 v0 rfl rfl)
  have k0 := h0
  have lt0 : ∀ x ∈ p0, x.block < W.heap.size := by obtain ⟨m, hm⟩ := k0; exact DataW.trod_lt m _ _ _ hm
  obtain ⟨x0, hr0, hs0, hl0, hm0⟩ := open_nodes h0
  obtain ⟨a1, len1, cap1, rfl⟩ := okWide_slice Try.underlying35 (hval 1 35 v1 rfl rfl)
  have k1 := h1
  have lt1 : ∀ x ∈ p1, x.block < W.heap.size := by obtain ⟨m, hm⟩ := k1; exact DataW.trod_lt m _ _ _ hm
  obtain ⟨x1, hr1, hs1, hl1, hm1⟩ := open_nodes h1
  clear hA0 hval0
  refine (walk a0 len0 cap0 x0 a1 len1 cap1 x1 W hr0 hs0 (by omega) hr1 hs1 (by omega)).mono fun e W' ⟨he, bel⟩ => ?_
  subst he
  exact ⟨_, rfl, _, _, _, [], _, [], hW', trodAll_mk1 (shut_bool Try.underlying4 _), trodAll_mk2 (Below.trod laidOut (by kernel_rfl) (of_decide_eq_true (by kernel_rfl)) k0 bel lt0) (Below.trod laidOut (by kernel_rfl) (of_decide_eq_true (by kernel_rfl)) k1 bel lt1), rfl, bel.frame _, fun h => by cases h⟩

theorem proved : Rows.FnExactSameNodesSaid :=
  OpenClaim.holds_of_wide 7 Try.f7 rfl rfl rfl rfl rfl rfl rfl ⟨rfl, rfl, rfl, rfl, rfl⟩ rfl rfl rfl rfl rfl (by kernel_rfl) Try.func7 (by kernel_rfl)
    (of_decide_eq_true (by kernel_rfl)) (by unfold Func.isWrapper; first | (rw [if_pos (by decide +kernel)]; kernel_rfl) | (rw [if_neg (by decide +kernel)]; exact ⟨rfl, rfl⟩))
    (fun os started H enc _ => lifted os started H enc)
end Go.Proofs.Ytjjapnggdfiinaa.fnExactSameNodes
namespace Go.Proofs.Ytjjapnggdfiinaa
theorem fnExactSameNodes_proved : Rows.FnExactSameNodesSaid := fnExactSameNodes.proved
end Go.Proofs.Ytjjapnggdfiinaa
