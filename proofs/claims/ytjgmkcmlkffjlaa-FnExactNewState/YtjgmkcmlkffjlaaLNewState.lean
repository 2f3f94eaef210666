/-
  For every height and width, FnExactNewState returns true: the program's NewState answers as the model and its answer owns its memory; no condition.
-/
import Derived.Test.YtjgmkcmlkffjlaaPag4
import Derived.Test.YtjgmkcmlkffjlaaHlpF
import Derived.Test.YtjgmkcmlkffjlaaJoin
import Derived.ProofKit
import Derived.OpenShut
import Derived.ChangeOld
import Derived.Below
import Derived.Carry
import Derived.Deep.RegionWith
import Derived.Deep.RegionHeld3
namespace Go.Proofs.Ytjgmkcmlkffjlaa.fnExactNewState
open Go.ChangeShapes Go.WideShapes Go.ChangeAt Go.RowKit
set_option linter.unusedVariables false
set_option linter.unusedSimpArgs false

set_option maxRecDepth 10000 in
set_option maxHeartbeats 6400000 in
theorem walk (I0 : Int) (I1 : Int) (w : World)  :
    Calls Try.prog 8 #[.int .i64 I0, .int .i64 I1] w fun e w' => e = .returned (.bool true) ∧ Below w.heap.size w w' := by
  have SC := fun  (W' : World)  => specNewState_any I0 I1 W'
  have IC := fun  (W' : World)  => implNewState_any I0 I1 W'
  have hrl : (nsR I0 I1).length ≤ 4 := by unfold nsR; split <;> simp
  generalize nsC I0 I1 = p0 at *
  generalize nsI I0 I1 I0 = p1 at *
  generalize nsI I0 I1 I1 = p2 at *
  generalize nsR I0 I1 = rs at *
  generalize hml : rs.length = m at *
  clear hml
  have HSC : Hid _ := SC
  have HIC : Hid _ := IC
  clear SC IC
  go_enter Try.func8, Try.ntmps8
  have hb : Below w.heap.size w w := Below.refl _ _
  go_wp2_with fail
  refine Calls.mono (HSC.out  _ ) ?_
  rintro e w1 ⟨vg1, rfl, rg1, hc⟩
  obtain ⟨ag1, kg1, rfl⟩ := rg1.shape
  have s1 : w.heap.size ≤ w1.heap.size := hc.size
  have bq := hc
  replace hb := hb.trans (bq.mono hb.size)
  clear hc bq
  go_wp2_with fail
  have bp : ∀ o0, Below w1.heap.size w1 (w1.alloc o0) := fun o0 => (Below.refl _ _).alloc (Nat.le_refl _) o0
  have hbt : ∀ o0, Below w.heap.size w (w1.alloc o0) := fun o0 => hb.trans ((bp o0).mono hb.size)
  refine Calls.mono (HIC.out  _ ) ?_
  rintro e w2 ⟨vg2, rfl, rg2, hc⟩
  obtain ⟨ag2, kg2, rfl⟩ := rg2.shape
  replace rg2 := RowP.mono (lo' := w1.heap.size + 1) rg2 (by simp) (Nat.le_refl _)
  have s2 : w1.heap.size + 1 ≤ w2.heap.size := by have := hc.size; simp at this; omega
  have bq : Below w1.heap.size w1 w2 := (bp _).trans (hc.mono (bp _).size)
  have cb50 : w2.cell? ⟨w1.heap.size, 0, none⟩ = some (.int .i64 p0) := cell_later hc (by simp [go_sem])
  have cb51 : w2.cell? ⟨w1.heap.size, 1, none⟩ = some (.int .i64 p1) := cell_later hc (by simp [go_sem])
  have cb52 : w2.cell? ⟨w1.heap.size, 2, none⟩ = some (.int .i64 p2) := cell_later hc (by simp [go_sem])
  have cb53 : w2.cell? ⟨w1.heap.size, 3, none⟩ = some (.bool false) := cell_later hc (by simp [go_sem])
  have cb54 : w2.cell? ⟨w1.heap.size, 4, none⟩ = some (.int .i64 0) := cell_later hc (by simp [go_sem])
  have cb55 : w2.cell? ⟨w1.heap.size, 5, none⟩ = some (.int .i64 0) := cell_later hc (by simp [go_sem])
  have cb56 : w2.cell? ⟨w1.heap.size, 6, none⟩ = some (.int .i64 0) := cell_later hc (by simp [go_sem])
  have cb57 : w2.cell? ⟨w1.heap.size, 7, none⟩ = some (.string (⟨#[]⟩)) := cell_later hc (by simp [go_sem])
  have cb58 : w2.cell? ⟨w1.heap.size, 8, none⟩ = some (.string (⟨#[]⟩)) := cell_later hc (by simp [go_sem])
  have cb59 : w2.cell? ⟨w1.heap.size, 9, none⟩ = some (.slice ag1 m kg1) := cell_later hc (by simp [go_sem])
  have cb510 : w2.cell? ⟨w1.heap.size, 10, none⟩ = some (.bool false) := cell_later hc (by simp [go_sem])
  have zb5 : w1.heap.size < w2.heap.size := by omega
  replace rg1 := rg1.below bq
  replace hb := hb.trans (bq.mono hb.size)
  clear hc bq bp hbt
  go_wp2_with fail
  have bp : ∀ o0, Below w2.heap.size w2 (w2.alloc o0) := fun o0 => (Below.refl _ _).alloc (Nat.le_refl _) o0
  have hbt : ∀ o0, Below w.heap.size w (w2.alloc o0) := fun o0 => hb.trans ((bp o0).mono hb.size)
  refine Calls.mono (eqStateResult_yes p0 p1 p2 0 0 0 false false (⟨#[]⟩) (⟨#[]⟩) ag2 ag1 m kg2 kg1 rs _ (rg2.below (bp _)).read (rg1.below (bp _)).read (by first | omega | (unfold maxLen; omega))) ?_
  rintro e w3 ⟨rfl, hc⟩
  have s3 : w2.heap.size + 1 ≤ w3.heap.size := by have := hc.size; simp at this; omega
  have bq : Below w2.heap.size w2 w3 := (bp _).trans (hc.mono (bp _).size)
  replace cb50 := cell_later bq cb50
  replace cb51 := cell_later bq cb51
  replace cb52 := cell_later bq cb52
  replace cb53 := cell_later bq cb53
  replace cb54 := cell_later bq cb54
  replace cb55 := cell_later bq cb55
  replace cb56 := cell_later bq cb56
  replace cb57 := cell_later bq cb57
  replace cb58 := cell_later bq cb58
  replace cb59 := cell_later bq cb59
  replace cb510 := cell_later bq cb510
  replace zb5 := Nat.lt_of_lt_of_le zb5 bq.size
  have cb60 : w3.cell? ⟨w2.heap.size, 0, none⟩ = some (.int .i64 p0) := cell_later hc (by simp [go_sem])
  have cb61 : w3.cell? ⟨w2.heap.size, 1, none⟩ = some (.int .i64 p1) := cell_later hc (by simp [go_sem])
  have cb62 : w3.cell? ⟨w2.heap.size, 2, none⟩ = some (.int .i64 p2) := cell_later hc (by simp [go_sem])
  have cb63 : w3.cell? ⟨w2.heap.size, 3, none⟩ = some (.bool false) := cell_later hc (by simp [go_sem])
  have cb64 : w3.cell? ⟨w2.heap.size, 4, none⟩ = some (.int .i64 0) := cell_later hc (by simp [go_sem])
  have cb65 : w3.cell? ⟨w2.heap.size, 5, none⟩ = some (.int .i64 0) := cell_later hc (by simp [go_sem])
  have cb66 : w3.cell? ⟨w2.heap.size, 6, none⟩ = some (.int .i64 0) := cell_later hc (by simp [go_sem])
  have cb67 : w3.cell? ⟨w2.heap.size, 7, none⟩ = some (.string (⟨#[]⟩)) := cell_later hc (by simp [go_sem])
  have cb68 : w3.cell? ⟨w2.heap.size, 8, none⟩ = some (.string (⟨#[]⟩)) := cell_later hc (by simp [go_sem])
  have cb69 : w3.cell? ⟨w2.heap.size, 9, none⟩ = some (.slice ag2 m kg2) := cell_later hc (by simp [go_sem])
  have cb610 : w3.cell? ⟨w2.heap.size, 10, none⟩ = some (.bool false) := cell_later hc (by simp [go_sem])
  have zb6 : w2.heap.size < w3.heap.size := by omega
  replace rg1 := rg1.below bq
  replace rg2 := rg2.below bq
  replace hb := hb.trans (bq.mono hb.size)
  clear hc bq bp hbt
  go_wp2_with fail
  refine Calls.mono (markStateResult_p p0 p1 p2 0 0 0 1 false false (⟨#[]⟩) (⟨#[]⟩) _ m _ _ rs _ rg2 (by omega) (by omega) (by omega)) ?_
  clear rg2
  rintro e w4 ⟨rfl, rg2, hc⟩
  have s4 : w3.heap.size ≤ w4.heap.size := hc.size
  have cq := hc
  replace cb50 := cq.at cb50 zb5 (by omega)
  replace cb51 := cq.at cb51 zb5 (by omega)
  replace cb52 := cq.at cb52 zb5 (by omega)
  replace cb53 := cq.at cb53 zb5 (by omega)
  replace cb54 := cq.at cb54 zb5 (by omega)
  replace cb55 := cq.at cb55 zb5 (by omega)
  replace cb56 := cq.at cb56 zb5 (by omega)
  replace cb57 := cq.at cb57 zb5 (by omega)
  replace cb58 := cq.at cb58 zb5 (by omega)
  replace cb59 := cq.at cb59 zb5 (by omega)
  replace cb510 := cq.at cb510 zb5 (by omega)
  replace zb5 := Nat.lt_of_lt_of_le zb5 cq.size
  replace cb60 := cq.at cb60 zb6 (by omega)
  replace cb61 := cq.at cb61 zb6 (by omega)
  replace cb62 := cq.at cb62 zb6 (by omega)
  replace cb63 := cq.at cb63 zb6 (by omega)
  replace cb64 := cq.at cb64 zb6 (by omega)
  replace cb65 := cq.at cb65 zb6 (by omega)
  replace cb66 := cq.at cb66 zb6 (by omega)
  replace cb67 := cq.at cb67 zb6 (by omega)
  replace cb68 := cq.at cb68 zb6 (by omega)
  replace cb69 := cq.at cb69 zb6 (by omega)
  replace cb610 := cq.at cb610 zb6 (by omega)
  replace zb6 := Nat.lt_of_lt_of_le zb6 cq.size
  replace rg1 := rg1.chg cq (by omega)
  replace hb := below_chg hb cq hb.size (by omega)
  clear hc cq
  have hk4 : ¬ (1 + 2 * (m : Int)) < 0 := by omega
  go_wp2_with fail
  refine Calls.mono (heldStateResult_yes p0 p1 p2 0 0 0 1 false false (⟨#[]⟩) (⟨#[]⟩) ag2 m kg2 _ rg2.read (by omega) (by omega) (by omega)) ?_
  rintro e w5 ⟨rfl, hc⟩
  have s5 : w4.heap.size ≤ w5.heap.size := hc.size
  have bq := hc
  replace cb50 := cell_later bq cb50
  replace cb51 := cell_later bq cb51
  replace cb52 := cell_later bq cb52
  replace cb53 := cell_later bq cb53
  replace cb54 := cell_later bq cb54
  replace cb55 := cell_later bq cb55
  replace cb56 := cell_later bq cb56
  replace cb57 := cell_later bq cb57
  replace cb58 := cell_later bq cb58
  replace cb59 := cell_later bq cb59
  replace cb510 := cell_later bq cb510
  replace zb5 := Nat.lt_of_lt_of_le zb5 bq.size
  replace cb60 := cell_later bq cb60
  replace cb61 := cell_later bq cb61
  replace cb62 := cell_later bq cb62
  replace cb63 := cell_later bq cb63
  replace cb64 := cell_later bq cb64
  replace cb65 := cell_later bq cb65
  replace cb66 := cell_later bq cb66
  replace cb67 := cell_later bq cb67
  replace cb68 := cell_later bq cb68
  replace cb69 := cell_later bq cb69
  replace cb610 := cell_later bq cb610
  replace zb6 := Nat.lt_of_lt_of_le zb6 bq.size
  replace rg1 := rg1.below bq
  replace rg2 := rg2.below bq
  replace hb := hb.trans (bq.mono hb.size)
  clear hc bq
  go_wp2_with fail
  refine Calls.mono (HIC.out  _ ) ?_
  rintro e w6 ⟨vg3, rfl, rg3, hc⟩
  obtain ⟨ag3, kg3, rfl⟩ := rg3.shape
  have s6 : w5.heap.size ≤ w6.heap.size := hc.size
  have bq := hc
  replace cb50 := cell_later bq cb50
  replace cb51 := cell_later bq cb51
  replace cb52 := cell_later bq cb52
  replace cb53 := cell_later bq cb53
  replace cb54 := cell_later bq cb54
  replace cb55 := cell_later bq cb55
  replace cb56 := cell_later bq cb56
  replace cb57 := cell_later bq cb57
  replace cb58 := cell_later bq cb58
  replace cb59 := cell_later bq cb59
  replace cb510 := cell_later bq cb510
  replace zb5 := Nat.lt_of_lt_of_le zb5 bq.size
  replace cb60 := cell_later bq cb60
  replace cb61 := cell_later bq cb61
  replace cb62 := cell_later bq cb62
  replace cb63 := cell_later bq cb63
  replace cb64 := cell_later bq cb64
  replace cb65 := cell_later bq cb65
  replace cb66 := cell_later bq cb66
  replace cb67 := cell_later bq cb67
  replace cb68 := cell_later bq cb68
  replace cb69 := cell_later bq cb69
  replace cb610 := cell_later bq cb610
  replace zb6 := Nat.lt_of_lt_of_le zb6 bq.size
  replace rg1 := rg1.below bq
  replace rg2 := rg2.below bq
  replace hb := hb.trans (bq.mono hb.size)
  clear hc bq
  go_wp2_with fail
  have bp : ∀ o0, Below w6.heap.size w6 (w6.alloc o0) := fun o0 => (Below.refl _ _).alloc (Nat.le_refl _) o0
  have hbt : ∀ o0, Below w.heap.size w (w6.alloc o0) := fun o0 => hb.trans ((bp o0).mono hb.size)
  refine Calls.mono (eqStateResult_yes p0 p1 p2 0 0 0 false false (⟨#[]⟩) (⟨#[]⟩) ag3 ag1 m kg3 kg1 rs _ (rg3.below (bp _)).read (rg1.below (bp _)).read (by first | omega | (unfold maxLen; omega))) ?_
  rintro e w7 ⟨rfl, hc⟩
  have s7 : w6.heap.size + 1 ≤ w7.heap.size := by have := hc.size; simp at this; omega
  have bq : Below w6.heap.size w6 w7 := (bp _).trans (hc.mono (bp _).size)
  replace cb50 := cell_later bq cb50
  replace cb51 := cell_later bq cb51
  replace cb52 := cell_later bq cb52
  replace cb53 := cell_later bq cb53
  replace cb54 := cell_later bq cb54
  replace cb55 := cell_later bq cb55
  replace cb56 := cell_later bq cb56
  replace cb57 := cell_later bq cb57
  replace cb58 := cell_later bq cb58
  replace cb59 := cell_later bq cb59
  replace cb510 := cell_later bq cb510
  replace zb5 := Nat.lt_of_lt_of_le zb5 bq.size
  replace cb60 := cell_later bq cb60
  replace cb61 := cell_later bq cb61
  replace cb62 := cell_later bq cb62
  replace cb63 := cell_later bq cb63
  replace cb64 := cell_later bq cb64
  replace cb65 := cell_later bq cb65
  replace cb66 := cell_later bq cb66
  replace cb67 := cell_later bq cb67
  replace cb68 := cell_later bq cb68
  replace cb69 := cell_later bq cb69
  replace cb610 := cell_later bq cb610
  replace zb6 := Nat.lt_of_lt_of_le zb6 bq.size
  have cb90 : w7.cell? ⟨w6.heap.size, 0, none⟩ = some (.int .i64 p0) := cell_later hc (by simp [go_sem])
  have cb91 : w7.cell? ⟨w6.heap.size, 1, none⟩ = some (.int .i64 p1) := cell_later hc (by simp [go_sem])
  have cb92 : w7.cell? ⟨w6.heap.size, 2, none⟩ = some (.int .i64 p2) := cell_later hc (by simp [go_sem])
  have cb93 : w7.cell? ⟨w6.heap.size, 3, none⟩ = some (.bool false) := cell_later hc (by simp [go_sem])
  have cb94 : w7.cell? ⟨w6.heap.size, 4, none⟩ = some (.int .i64 0) := cell_later hc (by simp [go_sem])
  have cb95 : w7.cell? ⟨w6.heap.size, 5, none⟩ = some (.int .i64 0) := cell_later hc (by simp [go_sem])
  have cb96 : w7.cell? ⟨w6.heap.size, 6, none⟩ = some (.int .i64 0) := cell_later hc (by simp [go_sem])
  have cb97 : w7.cell? ⟨w6.heap.size, 7, none⟩ = some (.string (⟨#[]⟩)) := cell_later hc (by simp [go_sem])
  have cb98 : w7.cell? ⟨w6.heap.size, 8, none⟩ = some (.string (⟨#[]⟩)) := cell_later hc (by simp [go_sem])
  have cb99 : w7.cell? ⟨w6.heap.size, 9, none⟩ = some (.slice ag3 m kg3) := cell_later hc (by simp [go_sem])
  have cb910 : w7.cell? ⟨w6.heap.size, 10, none⟩ = some (.bool false) := cell_later hc (by simp [go_sem])
  have zb9 : w6.heap.size < w7.heap.size := by omega
  replace rg1 := rg1.below bq
  replace rg2 := rg2.below bq
  replace rg3 := rg3.below bq
  replace hb := hb.trans (bq.mono hb.size)
  clear hc bq bp hbt
  go_wp2_with fail
  refine Calls.mono (heldStateResult_yes p0 p1 p2 0 0 0 1 false false (⟨#[]⟩) (⟨#[]⟩) ag2 m kg2 _ rg2.read (by omega) (by omega) (by omega)) ?_
  rintro e w8 ⟨rfl, hc⟩
  have s8 : w7.heap.size ≤ w8.heap.size := hc.size
  have bq := hc
  replace cb50 := cell_later bq cb50
  replace cb51 := cell_later bq cb51
  replace cb52 := cell_later bq cb52
  replace cb53 := cell_later bq cb53
  replace cb54 := cell_later bq cb54
  replace cb55 := cell_later bq cb55
  replace cb56 := cell_later bq cb56
  replace cb57 := cell_later bq cb57
  replace cb58 := cell_later bq cb58
  replace cb59 := cell_later bq cb59
  replace cb510 := cell_later bq cb510
  replace zb5 := Nat.lt_of_lt_of_le zb5 bq.size
  replace cb60 := cell_later bq cb60
  replace cb61 := cell_later bq cb61
  replace cb62 := cell_later bq cb62
  replace cb63 := cell_later bq cb63
  replace cb64 := cell_later bq cb64
  replace cb65 := cell_later bq cb65
  replace cb66 := cell_later bq cb66
  replace cb67 := cell_later bq cb67
  replace cb68 := cell_later bq cb68
  replace cb69 := cell_later bq cb69
  replace cb610 := cell_later bq cb610
  replace zb6 := Nat.lt_of_lt_of_le zb6 bq.size
  replace cb90 := cell_later bq cb90
  replace cb91 := cell_later bq cb91
  replace cb92 := cell_later bq cb92
  replace cb93 := cell_later bq cb93
  replace cb94 := cell_later bq cb94
  replace cb95 := cell_later bq cb95
  replace cb96 := cell_later bq cb96
  replace cb97 := cell_later bq cb97
  replace cb98 := cell_later bq cb98
  replace cb99 := cell_later bq cb99
  replace cb910 := cell_later bq cb910
  replace zb9 := Nat.lt_of_lt_of_le zb9 bq.size
  replace rg1 := rg1.below bq
  replace rg2 := rg2.below bq
  replace rg3 := rg3.below bq
  replace hb := hb.trans (bq.mono hb.size)
  clear hc bq
  go_wp2
  go_ret
  exact ⟨rfl, hb⟩

theorem own : ownKnob Try.prog.godebug = none := by kernel_rfl
theorem laidOut : laidOutB Try.prog = true := by kernel_rfl

set_option maxRecDepth 100000 in
theorem lifted (os : Os) (started : os.Started) (H : Type) (enc : TypeId × Value → H) :
    ReturnsInHanded {} Try.checked os 8 .any (Rows.fnExactNewStateSpec.pre6 enc Try.prog Try.f8 Rows.fnExactNewStateRow.domain false) (Rows.fnExactNewStateSpec.post enc Try.prog Try.f8 false true false false) := by
  refine returnsInHanded_of_change (C := Try.checked) own started (by kernel_rfl) Try.func8
    (ChangeSpec.witness6 (enc := enc) (C := Try.checked) false ⟨#[], #[.int .i64 0, .int .i64 0], []⟩ 8 (by kernel_rfl) (by kernel_rfl) (by kernel_rfl) (by kernel_rfl)) ?_
  intro W base args ds gs before hval0 hW hcnd _
  have hval : ∀ (j : Nat) t v, Try.f8.params[j]? = some t → args[j]? = some v → Value.okWide Try.prog W .any base t v := hval0
  have hW' := hW
  obtain ⟨p, q, hA0, hV, rfl, hfz, hnd⟩ := hW
  have hA : DataW.TrodAll enc Try.prog W 0 (fun _ => true) true Try.f8.params.toList args.toList ds p := hA0
  rw [Try.params8] at hA hval
  obtain ⟨v0, v1, d0, d1, p0, p1, rfl, rfl, rfl, h0, h1⟩ := trodAll_two hA
  obtain ⟨rfl, rfl⟩ := trodVars_none hV
  obtain ⟨I0, rfl, rfl, rfl, wI0⟩ := open_int Try.underlying2 (hval 0 2 v0 rfl rfl) h0
  obtain ⟨I1, rfl, rfl, rfl, wI1⟩ := open_int Try.underlying2 (hval 1 2 v1 rfl rfl) h1
  clear hA0 hval0
  refine (walk I0 I1 W ).mono fun e W' ⟨he, bel⟩ => ?_
  subst he
  exact ⟨_, rfl, _, _, _, [], _, [], hW', trodAll_mk1 (shut_bool Try.underlying4 _), trodAll_mk2 (shut_int Try.underlying2 wI0) (shut_int Try.underlying2 wI1), rfl, bel.frame _, fun h => by cases h⟩

theorem proved : Rows.FnExactNewStateSaid :=
  OpenClaim.holds_of_wide 8 Try.f8 rfl rfl rfl rfl rfl rfl rfl ⟨rfl, rfl, rfl, rfl, rfl⟩ rfl rfl rfl rfl rfl (by kernel_rfl) Try.func8 (by kernel_rfl)
    (of_decide_eq_true (by kernel_rfl)) (by unfold Func.isWrapper; first | (rw [if_pos (by decide +kernel)]; kernel_rfl) | (rw [if_neg (by decide +kernel)]; exact ⟨rfl, rfl⟩))
    (fun os started H enc _ => lifted os started H enc)
end Go.Proofs.Ytjgmkcmlkffjlaa.fnExactNewState
namespace Go.Proofs.Ytjgmkcmlkffjlaa
theorem fnExactNewState_proved : Rows.FnExactNewStateSaid := fnExactNewState.proved
end Go.Proofs.Ytjgmkcmlkffjlaa
