/-
  For every layout, FnExactLayoutFault returns true: the program's LayoutFault answers as the model; no condition.
-/
import Derived.Test.YthkgplpdoaebiaaRow1
import Derived.Test.YthkgplpdoaebiaaArgsL
import Derived.Test.YthkgplpdoaebiaaHlpO
import Derived.Test.YthkgplpdoaebiaaHlpF
import Derived.Test.YthkgplpdoaebiaaJoin
import Derived.ProofKit
import Derived.OpenShut
import Derived.ChangeOld
import Derived.Below
import Derived.Carry
import Derived.Deep.RegionWith
import Derived.Deep.RegionHeld3
namespace Go.Proofs.Ythkgplpdoaebiaa.fnExactLayoutFault
open Go.ChangeShapes Go.WideShapes Go.ChangeAt Go.RowKit
set_option linter.unusedVariables false
set_option linter.unusedSimpArgs false

set_option maxRecDepth 10000 in
set_option maxHeartbeats 6400000 in
theorem walk (W0 : Int) (C0 : Bool) (S0 : Int) (w : World)  :
    Calls Try.prog 5 #[.agg #[.int .i64 W0, .bool C0, .int .i64 S0]] w fun e w' => e = .returned (.bool true) ∧ Below w.heap.size w w' := by
  have SC := fun  (W' : World)  => specLayoutFault_any W0 S0 C0 W'
  have IC := fun  (W' : World)  => implLayoutFault_any W0 S0 C0 W'
  generalize lyF W0 C0 S0 = p0 at *
  have HSC : Hid _ := SC
  have HIC : Hid _ := IC
  clear SC IC
  go_enter Try.func5, Try.ntmps5
  have hb : Below w.heap.size w w := Below.refl _ _
  go_wp2_with fail
  have bp : ∀ o0, Below w.heap.size w (w.alloc o0) := fun o0 => (Below.refl _ _).alloc (Nat.le_refl _) o0
  have hbt : ∀ o0, Below w.heap.size w (w.alloc o0) := fun o0 => hb.trans ((bp o0).mono hb.size)
  refine Calls.mono (toLayout_any W0 S0 C0 _) ?_
  rintro e w1 ⟨rfl, hc⟩
  have s1 : w.heap.size + 1 ≤ w1.heap.size := by have := hc.size; simp at this; omega
  have bq : Below w.heap.size w w1 := (bp _).trans (hc.mono (bp _).size)
  have cb10 : w1.cell? ⟨w.heap.size, 0, none⟩ = some (.int .i64 W0) := cell_later hc (by simp [go_sem])
  have cb11 : w1.cell? ⟨w.heap.size, 1, none⟩ = some (.bool C0) := cell_later hc (by simp [go_sem])
  have cb12 : w1.cell? ⟨w.heap.size, 2, none⟩ = some (.int .i64 S0) := cell_later hc (by simp [go_sem])
  have zb1 : w.heap.size < w1.heap.size := by omega
  replace hb := hb.trans (bq.mono hb.size)
  clear hc bq bp hbt
  go_wp2_with fail
  refine Calls.mono (HSC.out  _ ) ?_
  rintro e w2 ⟨rfl, hc⟩
  have s2 : w1.heap.size ≤ w2.heap.size := hc.size
  have bq := hc
  replace cb10 := cell_later bq cb10
  replace cb11 := cell_later bq cb11
  replace cb12 := cell_later bq cb12
  replace zb1 := Nat.lt_of_lt_of_le zb1 bq.size
  replace hb := hb.trans (bq.mono hb.size)
  clear hc bq
  go_wp2_with fail
  refine Calls.mono (toLayout_any W0 S0 C0 _) ?_
  rintro e w3 ⟨rfl, hc⟩
  have s3 : w2.heap.size ≤ w3.heap.size := hc.size
  have bq := hc
  replace cb10 := cell_later bq cb10
  replace cb11 := cell_later bq cb11
  replace cb12 := cell_later bq cb12
  replace zb1 := Nat.lt_of_lt_of_le zb1 bq.size
  replace hb := hb.trans (bq.mono hb.size)
  clear hc bq
  go_wp2_with fail
  refine Calls.mono (HIC.out  _ ) ?_
  rintro e w4 ⟨rfl, hc⟩
  have s4 : w3.heap.size ≤ w4.heap.size := hc.size
  have bq := hc
  replace cb10 := cell_later bq cb10
  replace cb11 := cell_later bq cb11
  replace cb12 := cell_later bq cb12
  replace zb1 := Nat.lt_of_lt_of_le zb1 bq.size
  replace hb := hb.trans (bq.mono hb.size)
  clear hc bq
  go_wp2
  go_ret
  exact ⟨rfl, hb⟩

theorem own : ownKnob Try.prog.godebug = none := by kernel_rfl
theorem laidOut : laidOutB Try.prog = true := by kernel_rfl

set_option maxRecDepth 100000 in
theorem lifted (os : Os) (started : os.Started) (H : Type) (enc : TypeId × Value → H) :
    ReturnsInHanded {} Try.checked os 5 .any (Rows.fnExactLayoutFaultSpec.pre6 enc Try.prog Try.f5 Rows.fnExactLayoutFaultRow.domain false) (Rows.fnExactLayoutFaultSpec.post enc Try.prog Try.f5 false true false false) := by
  refine returnsInHanded_of_change (C := Try.checked) own started (by kernel_rfl) Try.func5
    (ChangeSpec.witness6 (enc := enc) (C := Try.checked) false ⟨#[], #[.agg #[.int .i64 0, .bool false, .int .i64 0]], []⟩ 8 (by kernel_rfl) (by kernel_rfl) (by kernel_rfl) (by kernel_rfl)) ?_
  intro W base args ds gs before hval0 hW hcnd _
  have hval : ∀ (j : Nat) t v, Try.f5.params[j]? = some t → args[j]? = some v → Value.okWide Try.prog W .any base t v := hval0
  have hW' := hW
  obtain ⟨p, q, hA0, hV, rfl, hfz, hnd⟩ := hW
  have hA : DataW.TrodAll enc Try.prog W 0 (fun _ => true) true Try.f5.params.toList args.toList ds p := hA0
  rw [Try.params5] at hA hval
  obtain ⟨v0, d0, rfl, rfl, h0⟩ := trodAll_one hA
  obtain ⟨rfl, rfl⟩ := trodVars_none hV
  have k0 := h0
  have lt0 : ∀ x ∈ p, x.block < W.heap.size := by obtain ⟨m, hm⟩ := k0; exact DataW.trod_lt m _ _ _ hm
  obtain ⟨W0, C0, S0, rfl, hIW0, hIS0⟩ := open_layout (hval 0 50 v0 rfl rfl) h0
  clear hA0 hval0
  refine (walk W0 C0 S0 W ).mono fun e W' ⟨he, bel⟩ => ?_
  subst he
  exact ⟨_, rfl, _, _, _, [], _, [], hW', trodAll_mk1 (shut_bool Try.underlying4 _), trodAll_mk1 (Below.trod laidOut (by kernel_rfl) (of_decide_eq_true (by kernel_rfl)) k0 bel lt0), rfl, bel.frame _, fun h => by cases h⟩

theorem proved : Rows.FnExactLayoutFaultSaid :=
  OpenClaim.holds_of_wide 5 Try.f5 rfl rfl rfl rfl rfl rfl rfl ⟨rfl, rfl, rfl, rfl, rfl⟩ rfl rfl rfl rfl rfl (by kernel_rfl) Try.func5 (by kernel_rfl)
    (of_decide_eq_true (by kernel_rfl)) (by unfold Func.isWrapper; first | (rw [if_pos (by decide +kernel)]; kernel_rfl) | (rw [if_neg (by decide +kernel)]; exact ⟨rfl, rfl⟩))
    (fun os started H enc _ => lifted os started H enc)
end Go.Proofs.Ythkgplpdoaebiaa.fnExactLayoutFault
namespace Go.Proofs.Ythkgplpdoaebiaa
theorem fnExactLayoutFault_proved : Rows.FnExactLayoutFaultSaid := fnExactLayoutFault.proved
end Go.Proofs.Ythkgplpdoaebiaa
