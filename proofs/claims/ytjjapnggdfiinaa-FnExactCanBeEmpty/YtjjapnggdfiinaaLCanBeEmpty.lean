/-
  For every list of nodes, FnExactCanBeEmpty returns true: the program's CanBeEmpty answers as the model and writes into no argument; no condition.
-/
import Derived.Test.YtjjapnggdfiinaaNode2
import Derived.Test.YtjjapnggdfiinaaNode7
import Derived.Test.YtjjapnggdfiinaaNodeA
import Derived.ProofKit
import Derived.OpenShut
namespace Go.Proofs.Ytjjapnggdfiinaa.fnExactCanBeEmpty
open Go.ChangeShapes Go.WideShapes Go.ChangeAt Go.RowKit
set_option linter.unusedVariables false

theorem own : ownKnob Try.prog.godebug = none := by kernel_rfl
theorem laidOut : laidOutB Try.prog = true := by kernel_rfl

set_option maxHeartbeats 1600000 in
theorem walk (a0 : Option Addr) (n0 ca0 : Nat) (cs0 : List Nd) (w : World) (ha0 : RdR ndE 5 w a0 n0 cs0) (hz0 : ∀ y ∈ cs0, y.s.size ≤ maxLen) (hm0 : n0 ≤ maxLen) :
    Calls Try.prog 9 #[.slice a0 n0 ca0] w fun e w' => e = .returned (.bool true) ∧ Below w.heap.size w w' := by
  have hsz0 := fun w' ha' => szNodeS_any a0 n0 ca0 cs0 1048576 w' ha' hz0 hm0 (by omega) (by omega)
  by_cases hn0 : 1048576 < (n0 : Int) + ndSum cs0
  · rw [if_pos hn0] at hsz0
    have HZ0 : Hid _ := hsz0
    clear hsz0
    go_enter Try.func9, Try.ntmps9
    go_wp2_with fail
    refine Calls.mono (HZ0.out _ ha0) ?_
    rintro e w1 ⟨rfl, hb1⟩
    go_wp2
    go_ret
    exact ⟨rfl, hb1⟩
  rw [if_neg hn0] at hsz0
  have HZ0 : Hid _ := hsz0
  clear hsz0
  have l0 : n0 ≤ 1048576 := by omega
  have m0 : ndSum cs0 ≤ 1048576 := by omega
  have HM0 : Hid (n0 ≤ maxLen) := hm0
  clear hm0
  obtain ⟨left, hleft⟩ : ∃ left, left = (1048576 - (n0 : Int) - ndSum cs0) := ⟨_, rfl⟩
  have hl0 : 0 ≤ left := by omega
  rw [← hleft] at HZ0
  clear hleft hn0
  have hsp := fun w' b0 c0 h0' => specCanBeEmpty_any b0 n0 c0 cs0 w' h0' m0 l0
  have him := fun w' b0 c0 h0' => implCanBeEmpty_any b0 n0 c0 cs0 w' h0' m0 l0
  generalize canEmpty cs0 = R at hsp him
  have HP : Hid _ := hsp
  have HI : Hid _ := him
  clear hsp him
  go_enter Try.func9, Try.ntmps9
  go_wp2_with fail
  refine Calls.mono (HZ0.out _ ha0) ?_
  rintro e u0 ⟨rfl, hb⟩
  have hw0 : Below w.heap.size w u0 := hb
  clear hb
  go_wp2_with fail
  refine (toNodeS_any a0 n0 ca0 cs0 _ (ha0.below hw0) (by omega)).mono ?_
  rintro e u1 ⟨vs0, rfl, hos0, hb⟩
  obtain ⟨ps0, qs0, hv, -, -, -⟩ := hos0.rd ndE_len
  subst hv
  have hw1 : Below w.heap.size w u1 := hw0.trans (hb.mono hw0.size)
  clear hb
  go_wp2_with fail
  refine Calls.mono (HP.out _ _ _ (hos0.read ndE_len)) ?_
  rintro e u2 ⟨rfl, hb⟩
  have hw2 : Below w.heap.size w u2 := hw1.trans (hb.mono hw1.size)
  clear hb hos0
  go_wp2_with fail
  refine (toNodeS_any a0 n0 ca0 cs0 _ (ha0.below hw2) (by omega)).mono ?_
  rintro e u3 ⟨vx0, rfl, hox0, hb⟩
  obtain ⟨px0, qx0, hv, -, -, -⟩ := hox0.rd ndE_len
  subst hv
  have hw3 : Below w.heap.size w u3 := hw2.trans (hb.mono hw2.size)
  clear hb
  go_wp2_with fail
  refine Calls.mono (HI.out _ _ _ (hox0.read ndE_len)) ?_
  rintro e u4 ⟨rfl, hb⟩
  have hw4 : Below w.heap.size w u4 := hw3.trans (hb.mono hw3.size)
  replace hox0 := hox0.below hb
  clear hb
  go_wp2_with fail
  refine (toNodeS_any a0 n0 ca0 cs0 _ (ha0.below hw4) (by omega)).mono ?_
  rintro e u5 ⟨vy0, rfl, hoy0, hb⟩
  obtain ⟨py0, qy0, hv, -, -, -⟩ := hoy0.rd ndE_len
  subst hv
  have hw5 : Below w.heap.size w u5 := hw4.trans (hb.mono hw4.size)
  replace hox0 := hox0.below hb
  clear hb
  go_wp2_with fail
  refine (eqNodeS_yes _ _ n0 _ _ cs0 _ (hox0.read ndE_len) (hoy0.read ndE_len) (by omega)).mono ?_
  rintro e u6 ⟨rfl, hb⟩
  have hw6 : Below w.heap.size w u6 := hw5.trans (hb.mono hw5.size)
  replace hox0 := hox0.below hb
  clear hb hoy0
  go_wp2
  go_ret
  exact ⟨rfl, hw6⟩

set_option maxRecDepth 100000 in
theorem lifted (os : Os) (started : os.Started) (H : Type) (enc : TypeId × Value → H) :
    ReturnsInHanded {} Try.checked os 9 .any (Rows.fnExactCanBeEmptySpec.pre6 enc Try.prog Try.f9 Rows.fnExactCanBeEmptyRow.domain false) (Rows.fnExactCanBeEmptySpec.post enc Try.prog Try.f9 false true false false) := by
  refine returnsInHanded_of_change (C := Try.checked) own started (by kernel_rfl) Try.func9
    (ChangeSpec.witness6 (enc := enc) (C := Try.checked) false ⟨#[], #[.slice none 0 0], []⟩ 8 (by kernel_rfl) (by kernel_rfl) (by kernel_rfl) (by kernel_rfl)) ?_
  intro W base args ds gs before hval0 hW hcnd _
  have hval : ∀ (j : Nat) t v, Try.f9.params[j]? = some t → args[j]? = some v → Value.okWide Try.prog W .any base t v := hval0
  have hW' := hW
  obtain ⟨p, q, hA0, hV, rfl, hfz, hnd⟩ := hW
  have hA : DataW.TrodAll enc Try.prog W 0 (fun _ => true) true Try.f9.params.toList args.toList ds p := hA0
  rw [Try.params9] at hA hval
  obtain ⟨v0, d0, rfl, rfl, h0⟩ := trodAll_one hA
  obtain ⟨rfl, rfl⟩ := trodVars_none hV
  obtain ⟨a0, len0, cap0, rfl⟩ := okWide_slice Try.underlying35 (hval 0 35 v0 rfl rfl)
  have k0 := h0
  have lt0 : ∀ x ∈ p, x.block < W.heap.size := by obtain ⟨m, hm⟩ := k0; exact DataW.trod_lt m _ _ _ hm
  obtain ⟨x0, hr0, hs0, hl0, hm0⟩ := open_nodes h0
  clear hA0 hval0
  refine (walk a0 len0 cap0 x0 W hr0 hs0 (by omega)).mono fun e W' ⟨he, bel⟩ => ?_
  subst he
  exact ⟨_, rfl, _, _, _, [], _, [], hW', trodAll_mk1 (shut_bool Try.underlying4 _), trodAll_mk1 (Below.trod laidOut (by kernel_rfl) (of_decide_eq_true (by kernel_rfl)) k0 bel lt0), rfl, bel.frame _, fun h => by cases h⟩

theorem proved : Rows.FnExactCanBeEmptySaid :=
  OpenClaim.holds_of_wide 9 Try.f9 rfl rfl rfl rfl rfl rfl rfl ⟨rfl, rfl, rfl, rfl, rfl⟩ rfl rfl rfl rfl rfl (by kernel_rfl) Try.func9 (by kernel_rfl)
    (of_decide_eq_true (by kernel_rfl)) (by unfold Func.isWrapper; first | (rw [if_pos (by decide +kernel)]; kernel_rfl) | (rw [if_neg (by decide +kernel)]; exact ⟨rfl, rfl⟩))
    (fun os started H enc _ => lifted os started H enc)
end Go.Proofs.Ytjjapnggdfiinaa.fnExactCanBeEmpty
namespace Go.Proofs.Ytjjapnggdfiinaa
theorem fnExactCanBeEmpty_proved : Rows.FnExactCanBeEmptySaid := fnExactCanBeEmpty.proved
end Go.Proofs.Ytjjapnggdfiinaa
