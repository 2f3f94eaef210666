/-
  For every number, FnExactNewTable returns true: the program's NewTable answers as the model, and its answer owns its memory; no condition.
-/
import Derived.Test.YtoggkcgldckekaaTab3
import Derived.Test.YtoggkcgldckekaaArgsT
import Derived.Test.YtoggkcgldckekaaHlpX
import Derived.ProofKit
import Derived.OpenShut
import Derived.ChangeOld
import Derived.Below
import Derived.Carry
import Derived.Deep.RegionWith
import Derived.Deep.RegionHeld3
namespace Go.Proofs.Ytoggkcgldckekaa.fnExactNewTable
open Go.ChangeShapes Go.WideShapes Go.ChangeAt Go.RowKit
set_option linter.unusedVariables false
set_option linter.unusedSimpArgs false

set_option maxRecDepth 10000 in
set_option maxHeartbeats 6400000 in
theorem walk (I0 : Int) (w : World)  :
    Calls Try.prog 7 #[.int .i64 I0] w fun e w' => e = .returned (.bool true) ∧ Below w.heap.size w w' := by
  have SC := fun  (W' : World)  => specNewTable_any I0 W'
  have IC := fun  (W' : World)  => implNewTable_any I0 W'
  have hrl : (ntRows.length : Int) + stN ntRows ≤ 1000000 := by simp [ntRows, stN]
  generalize ntCode I0 = cd at *
  generalize ntVal = vd at *
  generalize ntSize I0 = zd at *
  generalize ntRows = rs at *
  have hcl := stC_le rs
  generalize hml : rs.length = m at *
  clear hml
  have HSC : Hid _ := SC
  have HIC : Hid _ := IC
  clear SC IC
  go_enter Try.func7, Try.ntmps7
  have hb : Below w.heap.size w w := Below.refl _ _
  go_wp2_with fail
  refine Calls.mono (HSC.out  _ ) ?_
  rintro e w1 ⟨vg1, rfl, rg1, hc⟩
  obtain ⟨ag1, kg1, rfl, -⟩ := rg1.shape
  have s1 : w.heap.size ≤ w1.heap.size := hc.size
  have bq := hc
  replace hb := hb.trans (bq.mono hb.size)
  clear hc bq
  go_wp2_with fail
  have bp : ∀ o0, Below w1.heap.size w1 (w1.alloc o0) := fun o0 => (Below.refl _ _).alloc (Nat.le_refl _) o0
  have hbt : ∀ o0, Below w.heap.size w (w1.alloc o0) := fun o0 => hb.trans ((bp o0).mono hb.size)
  refine Calls.mono (HIC.out  _ ) ?_
  rintro e w2 ⟨vg2, rfl, rg2, hc⟩
  obtain ⟨ag2, kg2, rfl, -⟩ := rg2.shape
  replace rg2 := TabR.mono (lo' := w1.heap.size + 1) rg2 (by simp) (Nat.le_refl _)
  have s2 : w1.heap.size + 1 ≤ w2.heap.size := by have := hc.size; simp at this; omega
  have bq : Below w1.heap.size w1 w2 := (bp _).trans (hc.mono (bp _).size)
  have cw00 : w2.cell? ⟨w1.heap.size, 0, none⟩ = some (.int .i64 cd) := cell_later hc (by simp [go_sem])
  have cw01 : w2.cell? ⟨w1.heap.size, 1, none⟩ = some (.int .i64 vd) := cell_later hc (by simp [go_sem])
  have cw02 : w2.cell? ⟨w1.heap.size, 2, none⟩ = some (.int .i64 zd) := cell_later hc (by simp [go_sem])
  have cw03 : w2.cell? ⟨w1.heap.size, 3, none⟩ = some (.slice ag1 m kg1) := cell_later hc (by simp [go_sem])
  have zw0 : w1.heap.size < w2.heap.size := by omega
  replace rg1 := rg1.below bq
  replace hb := hb.trans (bq.mono hb.size)
  clear hc bq bp hbt
  go_wp2_with fail
  have bp : ∀ o0, Below w2.heap.size w2 (w2.alloc o0) := fun o0 => (Below.refl _ _).alloc (Nat.le_refl _) o0
  have hbt : ∀ o0, Below w.heap.size w (w2.alloc o0) := fun o0 => hb.trans ((bp o0).mono hb.size)
  refine Calls.mono (eqTableResult_yes cd vd zd ag2 ag1 m kg2 kg1 rs _ (rg2.below (bp _)).read (rg1.below (bp _)).read (by omega)) ?_
  rintro e w3 ⟨rfl, hc⟩
  have s3 : w2.heap.size + 1 ≤ w3.heap.size := by have := hc.size; simp at this; omega
  have bq : Below w2.heap.size w2 w3 := (bp _).trans (hc.mono (bp _).size)
  replace cw00 := cell_later bq cw00
  replace cw01 := cell_later bq cw01
  replace cw02 := cell_later bq cw02
  replace cw03 := cell_later bq cw03
  replace zw0 := Nat.lt_of_lt_of_le zw0 bq.size
  have cg00 : w3.cell? ⟨w2.heap.size, 0, none⟩ = some (.int .i64 cd) := cell_later hc (by simp [go_sem])
  have cg01 : w3.cell? ⟨w2.heap.size, 1, none⟩ = some (.int .i64 vd) := cell_later hc (by simp [go_sem])
  have cg02 : w3.cell? ⟨w2.heap.size, 2, none⟩ = some (.int .i64 zd) := cell_later hc (by simp [go_sem])
  have cg03 : w3.cell? ⟨w2.heap.size, 3, none⟩ = some (.slice ag2 m kg2) := cell_later hc (by simp [go_sem])
  have zg0 : w2.heap.size < w3.heap.size := by omega
  replace rg1 := rg1.below bq
  replace rg2 := rg2.below bq
  replace hb := hb.trans (bq.mono hb.size)
  clear hc bq bp hbt
  go_wp2_with fail
  refine Calls.mono (markTableResult_tab true cd vd zd 1 _ m _ _ rs _ rg2 (by omega) (by omega) (by omega)) ?_
  clear rg2
  rintro e w4 ⟨rfl, rg2, hc⟩
  have s4 : w3.heap.size ≤ w4.heap.size := hc.size
  have cq := hc
  replace cw00 := cq.at cw00 zw0 (by omega)
  replace cw01 := cq.at cw01 zw0 (by omega)
  replace cw02 := cq.at cw02 zw0 (by omega)
  replace cw03 := cq.at cw03 zw0 (by omega)
  replace zw0 := Nat.lt_of_lt_of_le zw0 cq.size
  replace cg00 := cq.at cg00 zg0 (by omega)
  replace cg01 := cq.at cg01 zg0 (by omega)
  replace cg02 := cq.at cg02 zg0 (by omega)
  replace cg03 := cq.at cg03 zg0 (by omega)
  replace zg0 := Nat.lt_of_lt_of_le zg0 cq.size
  replace rg1 := rg1.chg cq (by omega)
  replace hb := below_chg hb cq hb.size (by omega)
  clear hc cq
  have hk4 : ¬ (1 + (stC rs : Int)) < 0 := by omega
  go_wp2_with fail
  refine Calls.mono (heldTableResult_yes cd vd zd 1 ag2 m kg2 rs _ rg2.read (by omega) (by omega) (by omega)) ?_
  rintro e w5 ⟨rfl, hc⟩
  have s5 : w4.heap.size ≤ w5.heap.size := hc.size
  have bq := hc
  replace cw00 := cell_later bq cw00
  replace cw01 := cell_later bq cw01
  replace cw02 := cell_later bq cw02
  replace cw03 := cell_later bq cw03
  replace zw0 := Nat.lt_of_lt_of_le zw0 bq.size
  replace cg00 := cell_later bq cg00
  replace cg01 := cell_later bq cg01
  replace cg02 := cell_later bq cg02
  replace cg03 := cell_later bq cg03
  replace zg0 := Nat.lt_of_lt_of_le zg0 bq.size
  replace rg1 := rg1.below bq
  replace rg2 := rg2.below bq
  replace hb := hb.trans (bq.mono hb.size)
  clear hc bq
  go_wp2_with fail
  refine Calls.mono (HIC.out  _ ) ?_
  rintro e w6 ⟨vg6, rfl, rg6, hc⟩
  obtain ⟨ag6, kg6, rfl, -⟩ := rg6.shape
  have s6 : w5.heap.size ≤ w6.heap.size := hc.size
  have bq := hc
  replace cw00 := cell_later bq cw00
  replace cw01 := cell_later bq cw01
  replace cw02 := cell_later bq cw02
  replace cw03 := cell_later bq cw03
  replace zw0 := Nat.lt_of_lt_of_le zw0 bq.size
  replace cg00 := cell_later bq cg00
  replace cg01 := cell_later bq cg01
  replace cg02 := cell_later bq cg02
  replace cg03 := cell_later bq cg03
  replace zg0 := Nat.lt_of_lt_of_le zg0 bq.size
  replace rg1 := rg1.below bq
  replace rg2 := rg2.below bq
  replace hb := hb.trans (bq.mono hb.size)
  clear hc bq
  go_wp2_with fail
  have bp : ∀ o0, Below w6.heap.size w6 (w6.alloc o0) := fun o0 => (Below.refl _ _).alloc (Nat.le_refl _) o0
  have hbt : ∀ o0, Below w.heap.size w (w6.alloc o0) := fun o0 => hb.trans ((bp o0).mono hb.size)
  refine Calls.mono (eqTableResult_yes cd vd zd ag6 ag1 m kg6 kg1 rs _ (rg6.below (bp _)).read (rg1.below (bp _)).read (by omega)) ?_
  rintro e w7 ⟨rfl, hc⟩
  have s7 : w6.heap.size + 1 ≤ w7.heap.size := by have := hc.size; simp at this; omega
  have bq : Below w6.heap.size w6 w7 := (bp _).trans (hc.mono (bp _).size)
  replace cw00 := cell_later bq cw00
  replace cw01 := cell_later bq cw01
  replace cw02 := cell_later bq cw02
  replace cw03 := cell_later bq cw03
  replace zw0 := Nat.lt_of_lt_of_le zw0 bq.size
  replace cg00 := cell_later bq cg00
  replace cg01 := cell_later bq cg01
  replace cg02 := cell_later bq cg02
  replace cg03 := cell_later bq cg03
  replace zg0 := Nat.lt_of_lt_of_le zg0 bq.size
  have ch00 : w7.cell? ⟨w6.heap.size, 0, none⟩ = some (.int .i64 cd) := cell_later hc (by simp [go_sem])
  have ch01 : w7.cell? ⟨w6.heap.size, 1, none⟩ = some (.int .i64 vd) := cell_later hc (by simp [go_sem])
  have ch02 : w7.cell? ⟨w6.heap.size, 2, none⟩ = some (.int .i64 zd) := cell_later hc (by simp [go_sem])
  have ch03 : w7.cell? ⟨w6.heap.size, 3, none⟩ = some (.slice ag6 m kg6) := cell_later hc (by simp [go_sem])
  have zh0 : w6.heap.size < w7.heap.size := by omega
  replace rg1 := rg1.below bq
  replace rg2 := rg2.below bq
  replace rg6 := rg6.below bq
  replace hb := hb.trans (bq.mono hb.size)
  clear hc bq bp hbt
  go_wp2_with fail
  refine Calls.mono (heldTableResult_yes cd vd zd 1 ag2 m kg2 rs _ rg2.read (by omega) (by omega) (by omega)) ?_
  rintro e w8 ⟨rfl, hc⟩
  have s8 : w7.heap.size ≤ w8.heap.size := hc.size
  have bq := hc
  replace cw00 := cell_later bq cw00
  replace cw01 := cell_later bq cw01
  replace cw02 := cell_later bq cw02
  replace cw03 := cell_later bq cw03
  replace zw0 := Nat.lt_of_lt_of_le zw0 bq.size
  replace cg00 := cell_later bq cg00
  replace cg01 := cell_later bq cg01
  replace cg02 := cell_later bq cg02
  replace cg03 := cell_later bq cg03
  replace zg0 := Nat.lt_of_lt_of_le zg0 bq.size
  replace ch00 := cell_later bq ch00
  replace ch01 := cell_later bq ch01
  replace ch02 := cell_later bq ch02
  replace ch03 := cell_later bq ch03
  replace zh0 := Nat.lt_of_lt_of_le zh0 bq.size
  replace rg1 := rg1.below bq
  replace rg2 := rg2.below bq
  replace rg6 := rg6.below bq
  replace hb := hb.trans (bq.mono hb.size)
  clear hc bq
  go_wp2
  go_ret
  exact ⟨rfl, hb⟩

theorem own : ownKnob Try.prog.godebug = none := by kernel_rfl
theorem laidOut : laidOutB Try.prog = true := by kernel_rfl

set_option maxRecDepth 100000 in
theorem lifted (os : Os) (started : os.Started) (H : Type) (enc : TypeId × Value → H) :
    ReturnsInHanded {} Try.checked os 7 .any (Rows.fnExactNewTableSpec.pre6 enc Try.prog Try.f7 Rows.fnExactNewTableRow.domain false) (Rows.fnExactNewTableSpec.post enc Try.prog Try.f7 false true false false) := by
  refine returnsInHanded_of_change (C := Try.checked) own started (by kernel_rfl) Try.func7
    (ChangeSpec.witness6 (enc := enc) (C := Try.checked) false ⟨#[], #[.int .i64 0], []⟩ 8 (by kernel_rfl) (by kernel_rfl) (by kernel_rfl) (by kernel_rfl)) ?_
  intro W base args ds gs before hval0 hW hcnd _
  have hval : ∀ (j : Nat) t v, Try.f7.params[j]? = some t → args[j]? = some v → Value.okWide Try.prog W .any base t v := hval0
  have hW' := hW
  obtain ⟨p, q, hA0, hV, rfl, hfz, hnd⟩ := hW
  have hA : DataW.TrodAll enc Try.prog W 0 (fun _ => true) true Try.f7.params.toList args.toList ds p := hA0
  rw [Try.params7] at hA hval
  obtain ⟨v0, d0, rfl, rfl, h0⟩ := trodAll_one hA
  obtain ⟨rfl, rfl⟩ := trodVars_none hV
  obtain ⟨I0, rfl, rfl, rfl, wI0⟩ := open_int Try.underlying2 (hval 0 2 v0 rfl rfl) h0
  clear hA0 hval0
  refine (walk I0 W ).mono fun e W' ⟨he, bel⟩ => ?_
  subst he
  exact ⟨_, rfl, _, _, _, [], _, [], hW', trodAll_mk1 (shut_bool Try.underlying4 _), trodAll_mk1 (shut_int Try.underlying2 wI0), rfl, bel.frame _, fun h => by cases h⟩

theorem proved : Rows.FnExactNewTableSaid :=
  OpenClaim.holds_of_wide 7 Try.f7 rfl rfl rfl rfl rfl rfl rfl ⟨rfl, rfl, rfl, rfl, rfl⟩ rfl rfl rfl rfl rfl (by kernel_rfl) Try.func7 (by kernel_rfl)
    (of_decide_eq_true (by kernel_rfl)) (by unfold Func.isWrapper; first | (rw [if_pos (by decide +kernel)]; kernel_rfl) | (rw [if_neg (by decide +kernel)]; exact ⟨rfl, rfl⟩))
    (fun os started H enc _ => lifted os started H enc)
end Go.Proofs.Ytoggkcgldckekaa.fnExactNewTable
namespace Go.Proofs.Ytoggkcgldckekaa
theorem fnExactNewTable_proved : Rows.FnExactNewTableSaid := fnExactNewTable.proved
end Go.Proofs.Ytoggkcgldckekaa
