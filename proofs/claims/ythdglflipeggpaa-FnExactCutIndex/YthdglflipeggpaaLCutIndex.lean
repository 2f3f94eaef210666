/-
  For every index and size, FnExactCutIndex returns true: the program's CutIndex answers as the model, writes into no argument, and its answer owns its memory; no condition.
-/
import Derived.Test.YthdglflipeggpaaIndex5
import Derived.Test.YthdglflipeggpaaArgs
import Derived.Test.YthdglflipeggpaaArgsF
import Derived.Test.YthdglflipeggpaaArgsI
import Derived.Test.YthdglflipeggpaaHlpF
import Derived.Test.YthdglflipeggpaaHlpI
import Derived.Test.YthdglflipeggpaaJoin
import Derived.ProofKit
import Derived.OpenShut
import Derived.ChangeOld
import Derived.Below
import Derived.Carry
import Derived.Deep.RegionWith
import Derived.Deep.RegionHeld3
namespace Go.Proofs.Ythdglflipeggpaa.fnExactCutIndex
open Go.ChangeShapes Go.WideShapes Go.ChangeAt Go.RowKit
set_option linter.unusedVariables false
set_option linter.unusedSimpArgs false

set_option maxRecDepth 10000 in
set_option maxHeartbeats 6400000 in
theorem walk (e0 : Int) (a0 : Option Addr) (n0 ca0 : Nat) (xs0 : List Int) (l0 : Int) (z0 : Int) (I1 : Int) (w : World) (hr0 : Rd .i64 w a0 n0 xs0) (hm0 : n0 ≤ maxLen) :
    Calls Try.prog 7 #[.agg #[.int .i64 e0, .slice a0 n0 ca0, .int .i64 l0, .int .i64 z0], .int .i64 I1] w fun e w' => e = .returned (.bool true) ∧ Below w.heap.size w w' := by
  by_cases hn0 : (n0 : Int) ≤ 1048576
  rotate_left
  · go_enter Try.func7, Try.ntmps7
    have hb : Below w.heap.size w w := Below.refl _ _
    go_wp2_with fail
    have bp : ∀ o0, Below w.heap.size w (w.alloc o0) := fun o0 => (Below.refl _ _).alloc (Nat.le_refl _) o0
    have hbt : ∀ o0, Below w.heap.size w (w.alloc o0) := fun o0 => hb.trans ((bp o0).mono hb.size)
    refine Calls.mono (szIndex_no e0 a0 n0 ca0 l0 z0 (1048576) _ (by omega) hm0 (by omega) (by omega)) ?_
    rintro e w1 ⟨rfl, hc⟩
    have s1 : w.heap.size + 1 ≤ w1.heap.size := by have := hc.size; simp at this; omega
    have bq : Below w.heap.size w w1 := (bp _).trans (hc.mono (bp _).size)
    have caX0 : w1.cell? ⟨w.heap.size, 0, none⟩ = some (.int .i64 e0) := cell_later hc (by simp [go_sem])
    have caX1 : w1.cell? ⟨w.heap.size, 1, none⟩ = some (.slice a0 n0 ca0) := cell_later hc (by simp [go_sem])
    have caX2 : w1.cell? ⟨w.heap.size, 2, none⟩ = some (.int .i64 l0) := cell_later hc (by simp [go_sem])
    have caX3 : w1.cell? ⟨w.heap.size, 3, none⟩ = some (.int .i64 z0) := cell_later hc (by simp [go_sem])
    have zaX : w.heap.size < w1.heap.size := by omega
    replace hb := hb.trans (bq.mono hb.size)
    clear hc bq bp hbt
    go_wp2
    go_ret
    exact ⟨rfl, hb⟩
  unfold maxLen at hm0
  have SC := fun (A0 : Option Addr) (C0 : Nat) (W' : World) (H0 : Rd .i64 W' A0 n0 xs0) (J0 : n0 ≤ C0) (M0 : C0 ≤ maxLen) => specCutIndex_any e0 A0 n0 C0 xs0 l0 z0 I1 W' H0 (by omega) J0 M0
  have IC := fun (A0 : Option Addr) (C0 : Nat) (W' : World) (H0 : Rd .i64 W' A0 n0 xs0) (J0 : n0 ≤ C0) (M0 : C0 ≤ maxLen) => implCutIndex_any e0 A0 n0 C0 xs0 l0 z0 I1 W' H0 (by omega) J0 M0
  have hrl : (cuM e0 xs0 l0 z0 I1).length ≤ 1000 := cuM_len _ _ _ _ _
  generalize cuCode e0 xs0 l0 z0 I1 = p0 at *
  generalize cuE e0 xs0 l0 z0 I1 = p2 at *
  generalize cuM e0 xs0 l0 z0 I1 = rs at *
  generalize cuL e0 xs0 l0 z0 I1 = p4 at *
  generalize cuZ e0 xs0 l0 z0 I1 = p5 at *
  generalize hml : rs.length = m at *
  clear hml
  have HSC : Hid _ := SC
  have HIC : Hid _ := IC
  clear SC IC
  go_enter Try.func7, Try.ntmps7
  have hb : Below w.heap.size w w := Below.refl _ _
  go_wp2_with fail
  have bp : ∀ o0, Below w.heap.size w (w.alloc o0) := fun o0 => (Below.refl _ _).alloc (Nat.le_refl _) o0
  have hbt : ∀ o0, Below w.heap.size w (w.alloc o0) := fun o0 => hb.trans ((bp o0).mono hb.size)
  refine Calls.mono (szIndex_yes e0 a0 n0 ca0 l0 z0 (1048576) _ (by omega) (by omega)) ?_
  rintro e w1 ⟨rfl, hc⟩
  have s1 : w.heap.size + 1 ≤ w1.heap.size := by have := hc.size; simp at this; omega
  have bq : Below w.heap.size w w1 := (bp _).trans (hc.mono (bp _).size)
  have caX0 : w1.cell? ⟨w.heap.size, 0, none⟩ = some (.int .i64 e0) := cell_later hc (by simp [go_sem])
  have caX1 : w1.cell? ⟨w.heap.size, 1, none⟩ = some (.slice a0 n0 ca0) := cell_later hc (by simp [go_sem])
  have caX2 : w1.cell? ⟨w.heap.size, 2, none⟩ = some (.int .i64 l0) := cell_later hc (by simp [go_sem])
  have caX3 : w1.cell? ⟨w.heap.size, 3, none⟩ = some (.int .i64 z0) := cell_later hc (by simp [go_sem])
  have zaX : w.heap.size < w1.heap.size := by omega
  replace hb := hb.trans (bq.mono hb.size)
  clear hc bq bp hbt
  have hleft0 : ¬ (1048576 - (n0 : Int) < 0) := by omega
  go_wp2_with fail
  refine Calls.mono (toIndex_any e0 a0 n0 ca0 xs0 l0 z0 _ (hr0.below hb) (by omega)) ?_
  rintro e w2 ⟨vt2, rfl, rt2, hc⟩
  obtain ⟨at2, kt2, rfl, q1, q2⟩ := rt2.shape
  have Kt2 : Hid _ := And.intro q1 q2
  clear q1 q2
  have s2 : w1.heap.size ≤ w2.heap.size := hc.size
  have bq := hc
  replace caX0 := cell_later bq caX0
  replace caX1 := cell_later bq caX1
  replace caX2 := cell_later bq caX2
  replace caX3 := cell_later bq caX3
  replace zaX := Nat.lt_of_lt_of_le zaX bq.size
  replace hb := hb.trans (bq.mono hb.size)
  clear hc bq
  go_wp2_with fail
  refine Calls.mono (HSC.out at2 kt2 _ rt2.read Kt2.out.1 Kt2.out.2) ?_
  rintro e w3 ⟨vg3, rfl, rg3, hc⟩
  obtain ⟨ag3, kg3, rfl, -⟩ := rg3.shape
  have s3 : w2.heap.size ≤ w3.heap.size := hc.size
  have bq := hc
  replace caX0 := cell_later bq caX0
  replace caX1 := cell_later bq caX1
  replace caX2 := cell_later bq caX2
  replace caX3 := cell_later bq caX3
  replace zaX := Nat.lt_of_lt_of_le zaX bq.size
  replace rt2 := rt2.below bq
  replace hb := hb.trans (bq.mono hb.size)
  clear hc bq
  clear rt2 Kt2
  go_wp2_with fail
  have bp : ∀ o0, Below w3.heap.size w3 (w3.alloc o0) := fun o0 => (Below.refl _ _).alloc (Nat.le_refl _) o0
  have hbt : ∀ o0, Below w.heap.size w (w3.alloc o0) := fun o0 => hb.trans ((bp o0).mono hb.size)
  refine Calls.mono (toIndex_any e0 a0 n0 ca0 xs0 l0 z0 _ (hr0.below (hbt _)) (by omega)) ?_
  rintro e w4 ⟨vt4, rfl, rt4, hc⟩
  obtain ⟨at4, kt4, rfl, q1, q2⟩ := rt4.shape
  have Kt4 : Hid _ := And.intro q1 q2
  clear q1 q2
  replace rt4 := RowI.mono (lo' := w3.heap.size + 1) rt4 (by simp) (Nat.le_refl _)
  have s4 : w3.heap.size + 1 ≤ w4.heap.size := by have := hc.size; simp at this; omega
  have bq : Below w3.heap.size w3 w4 := (bp _).trans (hc.mono (bp _).size)
  replace caX0 := cell_later bq caX0
  replace caX1 := cell_later bq caX1
  replace caX2 := cell_later bq caX2
  replace caX3 := cell_later bq caX3
  replace zaX := Nat.lt_of_lt_of_le zaX bq.size
  have cw00 : w4.cell? ⟨w3.heap.size, 0, none⟩ = some (.int .i64 p0) := cell_later hc (by simp [go_sem])
  have cw01 : w4.cell? ⟨w3.heap.size, 1, none⟩ = some (.int .i64 0) := cell_later hc (by simp [go_sem])
  have cw02 : w4.cell? ⟨w3.heap.size, 2, none⟩ = some (.int .i64 p2) := cell_later hc (by simp [go_sem])
  have cw03 : w4.cell? ⟨w3.heap.size, 3, none⟩ = some (.slice ag3 m kg3) := cell_later hc (by simp [go_sem])
  have cw04 : w4.cell? ⟨w3.heap.size, 4, none⟩ = some (.int .i64 p4) := cell_later hc (by simp [go_sem])
  have cw05 : w4.cell? ⟨w3.heap.size, 5, none⟩ = some (.int .i64 p5) := cell_later hc (by simp [go_sem])
  have zw0 : w3.heap.size < w4.heap.size := by omega
  replace rg3 := rg3.below bq
  replace hb := hb.trans (bq.mono hb.size)
  clear hc bq bp hbt
  go_wp2_with fail
  have bp : ∀ o0, Below w4.heap.size w4 (w4.alloc o0) := fun o0 => (Below.refl _ _).alloc (Nat.le_refl _) o0
  have hbt : ∀ o0, Below w.heap.size w (w4.alloc o0) := fun o0 => hb.trans ((bp o0).mono hb.size)
  refine Calls.mono (HIC.out at4 kt4 _ (rt4.below (bp _)).read Kt4.out.1 Kt4.out.2) ?_
  rintro e w5 ⟨vg5, rfl, rg5, hc⟩
  obtain ⟨ag5, kg5, rfl, -⟩ := rg5.shape
  replace rg5 := RowI.mono (lo' := w4.heap.size + 1) rg5 (by simp) (Nat.le_refl _)
  have s5 : w4.heap.size + 1 ≤ w5.heap.size := by have := hc.size; simp at this; omega
  have bq : Below w4.heap.size w4 w5 := (bp _).trans (hc.mono (bp _).size)
  replace caX0 := cell_later bq caX0
  replace caX1 := cell_later bq caX1
  replace caX2 := cell_later bq caX2
  replace caX3 := cell_later bq caX3
  replace zaX := Nat.lt_of_lt_of_le zaX bq.size
  replace cw00 := cell_later bq cw00
  replace cw01 := cell_later bq cw01
  replace cw02 := cell_later bq cw02
  replace cw03 := cell_later bq cw03
  replace cw04 := cell_later bq cw04
  replace cw05 := cell_later bq cw05
  replace zw0 := Nat.lt_of_lt_of_le zw0 bq.size
  have cx00 : w5.cell? ⟨w4.heap.size, 0, none⟩ = some (.int .i64 e0) := cell_later hc (by simp [go_sem])
  have cx01 : w5.cell? ⟨w4.heap.size, 1, none⟩ = some (.slice at4 n0 kt4) := cell_later hc (by simp [go_sem])
  have cx02 : w5.cell? ⟨w4.heap.size, 2, none⟩ = some (.int .i64 l0) := cell_later hc (by simp [go_sem])
  have cx03 : w5.cell? ⟨w4.heap.size, 3, none⟩ = some (.int .i64 z0) := cell_later hc (by simp [go_sem])
  have zx0 : w4.heap.size < w5.heap.size := by omega
  replace rg3 := rg3.below bq
  replace rt4 := rt4.below bq
  replace hb := hb.trans (bq.mono hb.size)
  clear hc bq bp hbt
  go_wp2_with fail
  have bp : ∀ o0, Below w5.heap.size w5 (w5.alloc o0) := fun o0 => (Below.refl _ _).alloc (Nat.le_refl _) o0
  have hbt : ∀ o0, Below w.heap.size w (w5.alloc o0) := fun o0 => hb.trans ((bp o0).mono hb.size)
  refine Calls.mono (eqIndexResult_yes p0 0 p2 ag5 ag3 m kg5 kg3 rs p4 p5 _ (rg5.below (bp _)).read (rg3.below (bp _)).read (by first | omega | (unfold maxLen; omega))) ?_
  rintro e w6 ⟨rfl, hc⟩
  have s6 : w5.heap.size + 1 ≤ w6.heap.size := by have := hc.size; simp at this; omega
  have bq : Below w5.heap.size w5 w6 := (bp _).trans (hc.mono (bp _).size)
  replace caX0 := cell_later bq caX0
  replace caX1 := cell_later bq caX1
  replace caX2 := cell_later bq caX2
  replace caX3 := cell_later bq caX3
  replace zaX := Nat.lt_of_lt_of_le zaX bq.size
  replace cw00 := cell_later bq cw00
  replace cw01 := cell_later bq cw01
  replace cw02 := cell_later bq cw02
  replace cw03 := cell_later bq cw03
  replace cw04 := cell_later bq cw04
  replace cw05 := cell_later bq cw05
  replace zw0 := Nat.lt_of_lt_of_le zw0 bq.size
  replace cx00 := cell_later bq cx00
  replace cx01 := cell_later bq cx01
  replace cx02 := cell_later bq cx02
  replace cx03 := cell_later bq cx03
  replace zx0 := Nat.lt_of_lt_of_le zx0 bq.size
  have cg00 : w6.cell? ⟨w5.heap.size, 0, none⟩ = some (.int .i64 p0) := cell_later hc (by simp [go_sem])
  have cg01 : w6.cell? ⟨w5.heap.size, 1, none⟩ = some (.int .i64 0) := cell_later hc (by simp [go_sem])
  have cg02 : w6.cell? ⟨w5.heap.size, 2, none⟩ = some (.int .i64 p2) := cell_later hc (by simp [go_sem])
  have cg03 : w6.cell? ⟨w5.heap.size, 3, none⟩ = some (.slice ag5 m kg5) := cell_later hc (by simp [go_sem])
  have cg04 : w6.cell? ⟨w5.heap.size, 4, none⟩ = some (.int .i64 p4) := cell_later hc (by simp [go_sem])
  have cg05 : w6.cell? ⟨w5.heap.size, 5, none⟩ = some (.int .i64 p5) := cell_later hc (by simp [go_sem])
  have zg0 : w5.heap.size < w6.heap.size := by omega
  replace rg3 := rg3.below bq
  replace rt4 := rt4.below bq
  replace rg5 := rg5.below bq
  replace hb := hb.trans (bq.mono hb.size)
  clear hc bq bp hbt
  go_wp2_with fail
  have bd : Below w6.heap.size w6 w6.drew := (Below.refl _ _).drew
  refine wp_region_held_drew (S := fun w' => w'.cell? ⟨w4.heap.size, 0, none⟩ = some (.int .i64 e0) ∧ w'.cell? ⟨w4.heap.size, 1, none⟩ = some (.slice at4 n0 kt4) ∧ w'.cell? ⟨w4.heap.size, 2, none⟩ = some (.int .i64 l0) ∧ w'.cell? ⟨w4.heap.size, 3, none⟩ = some (.int .i64 z0) ∧ w'.cell? ⟨w.heap.size, 0, none⟩ = some (.int .i64 e0) ∧ w'.cell? ⟨w.heap.size, 1, none⟩ = some (.slice a0 n0 ca0) ∧ w'.cell? ⟨w.heap.size, 2, none⟩ = some (.int .i64 l0) ∧ w'.cell? ⟨w.heap.size, 3, none⟩ = some (.int .i64 z0)) (by kernel_rfl) (by exact ⟨cx00, cx01, cx02, cx03, caX0, caX1, caX2, caX3⟩) (fun hS => ?_)
  refine wpAnyH_take (i := 0) (v := (.agg #[.int .i64 e0, .slice at4 n0 kt4, .int .i64 l0, .int .i64 z0])) rfl (by kernel_rfl) (by kernel_rfl) (by kernel_rfl) (fun _ _ _ h => h) (Or.inl ⟨by kernel_rfl, ?_⟩) hS ?_
  · intro w hSw; (try dsimp only at hSw); go_simp
  simp only [Act.put, List.getElem_toArray, List.getElem_cons_zero, List.getElem_cons_succ, List.setIfInBounds_toArray, List.set_cons_zero, List.set_cons_succ]
  refine wpAnyH_take (i := 1) (v := (.agg #[.int .i64 e0, .slice a0 n0 ca0, .int .i64 l0, .int .i64 z0])) rfl (by kernel_rfl) (by kernel_rfl) (by kernel_rfl) (fun _ _ _ h => h) (Or.inl ⟨by kernel_rfl, ?_⟩) hS ?_
  · intro w hSw; (try dsimp only at hSw); go_simp
  simp only [Act.put, List.getElem_toArray, List.getElem_cons_zero, List.getElem_cons_succ, List.setIfInBounds_toArray, List.set_cons_zero, List.set_cons_succ]
  refine wpAnyH_ready (rs := [2]) (by kernel_rfl) (by simp) ?_
  refine AllReadyH.cons rfl (fun K hK => ?_) AllReadyH.nil
  go_simp
  refine Calls.mono (toIndex_any e0 a0 n0 ca0 xs0 l0 z0 _ (hr0.below hb.drew) (by omega)) ?_
  rintro e w7 ⟨vt7, rfl, rt7, hc0⟩
  obtain ⟨at7, kt7, rfl, q1, q2⟩ := rt7.shape
  have Kt7 : Hid _ := And.intro q1 q2
  clear q1 q2
  replace rt7 := RowI.mono (lo' := w6.heap.size) rt7 (Nat.le_refl _) (Nat.le_refl _)
  refine hK.out _ _ ⟨cell_later hc0 hS.1, cell_later hc0 hS.2.1, cell_later hc0 hS.2.2.1, cell_later hc0 hS.2.2.2.1, cell_later hc0 hS.2.2.2.2.1, cell_later hc0 hS.2.2.2.2.2.1, cell_later hc0 hS.2.2.2.2.2.2.1, cell_later hc0 hS.2.2.2.2.2.2.2⟩ (fun hS => ?_)
  clear hK K
  have hc : Below w6.heap.size w6 w7 := bd.trans (hc0.mono (Nat.le_refl _))
  clear hc0 bd
  have s7 : w6.heap.size ≤ w7.heap.size := hc.size
  have bq := hc
  replace caX0 := cell_later bq caX0
  replace caX1 := cell_later bq caX1
  replace caX2 := cell_later bq caX2
  replace caX3 := cell_later bq caX3
  replace zaX := Nat.lt_of_lt_of_le zaX bq.size
  replace cw00 := cell_later bq cw00
  replace cw01 := cell_later bq cw01
  replace cw02 := cell_later bq cw02
  replace cw03 := cell_later bq cw03
  replace cw04 := cell_later bq cw04
  replace cw05 := cell_later bq cw05
  replace zw0 := Nat.lt_of_lt_of_le zw0 bq.size
  replace cx00 := cell_later bq cx00
  replace cx01 := cell_later bq cx01
  replace cx02 := cell_later bq cx02
  replace cx03 := cell_later bq cx03
  replace zx0 := Nat.lt_of_lt_of_le zx0 bq.size
  replace cg00 := cell_later bq cg00
  replace cg01 := cell_later bq cg01
  replace cg02 := cell_later bq cg02
  replace cg03 := cell_later bq cg03
  replace cg04 := cell_later bq cg04
  replace cg05 := cell_later bq cg05
  replace zg0 := Nat.lt_of_lt_of_le zg0 bq.size
  replace rg3 := rg3.below bq
  replace rt4 := rt4.below bq
  replace rg5 := rg5.below bq
  replace hb := hb.trans (bq.mono hb.size)
  clear hc bq
  refine wpAnyH_ready (rs := [3]) (by kernel_rfl) (by simp) ?_
  refine AllReadyH.cons rfl (fun K hK => ?_) AllReadyH.nil
  go_simp
  refine Calls.mono (eqIndex_yes e0 at4 at7 n0 kt4 kt7 xs0 l0 z0 _ rt4.read rt7.read (by first | omega | (unfold maxLen; omega))) ?_
  rintro e w8 ⟨rfl, hc0⟩
  refine hK.out _ _ ⟨cell_later hc0 hS.1, cell_later hc0 hS.2.1, cell_later hc0 hS.2.2.1, cell_later hc0 hS.2.2.2.1, cell_later hc0 hS.2.2.2.2.1, cell_later hc0 hS.2.2.2.2.2.1, cell_later hc0 hS.2.2.2.2.2.2.1, cell_later hc0 hS.2.2.2.2.2.2.2⟩ (fun hS => ?_)
  clear hK K
  have hc := hc0
  clear hc0
  have s8 : w7.heap.size ≤ w8.heap.size := hc.size
  have bq := hc
  replace caX0 := cell_later bq caX0
  replace caX1 := cell_later bq caX1
  replace caX2 := cell_later bq caX2
  replace caX3 := cell_later bq caX3
  replace zaX := Nat.lt_of_lt_of_le zaX bq.size
  replace cw00 := cell_later bq cw00
  replace cw01 := cell_later bq cw01
  replace cw02 := cell_later bq cw02
  replace cw03 := cell_later bq cw03
  replace cw04 := cell_later bq cw04
  replace cw05 := cell_later bq cw05
  replace zw0 := Nat.lt_of_lt_of_le zw0 bq.size
  replace cx00 := cell_later bq cx00
  replace cx01 := cell_later bq cx01
  replace cx02 := cell_later bq cx02
  replace cx03 := cell_later bq cx03
  replace zx0 := Nat.lt_of_lt_of_le zx0 bq.size
  replace cg00 := cell_later bq cg00
  replace cg01 := cell_later bq cg01
  replace cg02 := cell_later bq cg02
  replace cg03 := cell_later bq cg03
  replace cg04 := cell_later bq cg04
  replace cg05 := cell_later bq cg05
  replace zg0 := Nat.lt_of_lt_of_le zg0 bq.size
  replace rg3 := rg3.below bq
  replace rt4 := rt4.below bq
  replace rg5 := rg5.below bq
  replace rt7 := rt7.below bq
  replace hb := hb.trans (bq.mono hb.size)
  clear hc bq
  clear rt7 Kt7
  refine wpAnyH_take (i := 4) (v := (.bool false)) rfl (by kernel_rfl) (by kernel_rfl) (by kernel_rfl) (fun _ _ _ h => h) (Or.inl ⟨by kernel_rfl, ?_⟩) hS ?_
  · intro w hSw; (try dsimp only at hSw); go_simp
  simp only [Act.put, List.getElem_toArray, List.getElem_cons_zero, List.getElem_cons_succ, List.setIfInBounds_toArray, List.set_cons_zero, List.set_cons_succ]
  refine wpAnyH_done (by kernel_rfl) ?_ _
  clear hS
  go_wp2_with fail
  refine Calls.mono (markIndex_row e0 l0 z0 1 _ n0 _ _ xs0 _ rt4 (by omega) (by omega) (by omega)) ?_
  clear rt4
  rintro e w9 ⟨rfl, rt4, hc⟩
  have s9 : w8.heap.size ≤ w9.heap.size := hc.size
  have cq := hc
  replace caX0 := cq.at caX0 zaX (by omega)
  replace caX1 := cq.at caX1 zaX (by omega)
  replace caX2 := cq.at caX2 zaX (by omega)
  replace caX3 := cq.at caX3 zaX (by omega)
  replace zaX := Nat.lt_of_lt_of_le zaX cq.size
  replace cw00 := cq.at cw00 zw0 (by omega)
  replace cw01 := cq.at cw01 zw0 (by omega)
  replace cw02 := cq.at cw02 zw0 (by omega)
  replace cw03 := cq.at cw03 zw0 (by omega)
  replace cw04 := cq.at cw04 zw0 (by omega)
  replace cw05 := cq.at cw05 zw0 (by omega)
  replace zw0 := Nat.lt_of_lt_of_le zw0 cq.size
  replace cx00 := cq.at cx00 zx0 (by omega)
  replace cx01 := cq.at cx01 zx0 (by omega)
  replace cx02 := cq.at cx02 zx0 (by omega)
  replace cx03 := cq.at cx03 zx0 (by omega)
  replace zx0 := Nat.lt_of_lt_of_le zx0 cq.size
  replace cg00 := cq.at cg00 zg0 (by omega)
  replace cg01 := cq.at cg01 zg0 (by omega)
  replace cg02 := cq.at cg02 zg0 (by omega)
  replace cg03 := cq.at cg03 zg0 (by omega)
  replace cg04 := cq.at cg04 zg0 (by omega)
  replace cg05 := cq.at cg05 zg0 (by omega)
  replace zg0 := Nat.lt_of_lt_of_le zg0 cq.size
  replace rg3 := rg3.chg cq (by omega)
  replace rg5 := rg5.chg cq (by omega)
  replace hb := below_chg hb cq hb.size (by omega)
  clear hc cq
  have hk9 : ¬ (1 + (n0 : Int)) < 0 := by omega
  go_wp2_with fail
  refine Calls.mono (eqIndexResult_yes p0 0 p2 ag5 ag3 m kg5 kg3 rs p4 p5 _ rg5.read rg3.read (by first | omega | (unfold maxLen; omega))) ?_
  rintro e w10 ⟨rfl, hc⟩
  have s10 : w9.heap.size ≤ w10.heap.size := hc.size
  have bq := hc
  replace caX0 := cell_later bq caX0
  replace caX1 := cell_later bq caX1
  replace caX2 := cell_later bq caX2
  replace caX3 := cell_later bq caX3
  replace zaX := Nat.lt_of_lt_of_le zaX bq.size
  replace cw00 := cell_later bq cw00
  replace cw01 := cell_later bq cw01
  replace cw02 := cell_later bq cw02
  replace cw03 := cell_later bq cw03
  replace cw04 := cell_later bq cw04
  replace cw05 := cell_later bq cw05
  replace zw0 := Nat.lt_of_lt_of_le zw0 bq.size
  replace cx00 := cell_later bq cx00
  replace cx01 := cell_later bq cx01
  replace cx02 := cell_later bq cx02
  replace cx03 := cell_later bq cx03
  replace zx0 := Nat.lt_of_lt_of_le zx0 bq.size
  replace cg00 := cell_later bq cg00
  replace cg01 := cell_later bq cg01
  replace cg02 := cell_later bq cg02
  replace cg03 := cell_later bq cg03
  replace cg04 := cell_later bq cg04
  replace cg05 := cell_later bq cg05
  replace zg0 := Nat.lt_of_lt_of_le zg0 bq.size
  replace rg3 := rg3.below bq
  replace rt4 := rt4.below bq
  replace rg5 := rg5.below bq
  replace hb := hb.trans (bq.mono hb.size)
  clear hc bq
  go_wp2_with fail
  refine Calls.mono (markIndexResult_row p0 0 p2 p4 p5 1 _ m _ _ rs _ rg5 (by omega) (by omega) (by omega)) ?_
  clear rg5
  rintro e w11 ⟨rfl, rg5, hc⟩
  have s11 : w10.heap.size ≤ w11.heap.size := hc.size
  have cq := hc
  replace caX0 := cq.at caX0 zaX (by omega)
  replace caX1 := cq.at caX1 zaX (by omega)
  replace caX2 := cq.at caX2 zaX (by omega)
  replace caX3 := cq.at caX3 zaX (by omega)
  replace zaX := Nat.lt_of_lt_of_le zaX cq.size
  replace cw00 := cq.at cw00 zw0 (by omega)
  replace cw01 := cq.at cw01 zw0 (by omega)
  replace cw02 := cq.at cw02 zw0 (by omega)
  replace cw03 := cq.at cw03 zw0 (by omega)
  replace cw04 := cq.at cw04 zw0 (by omega)
  replace cw05 := cq.at cw05 zw0 (by omega)
  replace zw0 := Nat.lt_of_lt_of_le zw0 cq.size
  replace cx00 := cq.at cx00 zx0 (by omega)
  replace cx01 := cq.at cx01 zx0 (by omega)
  replace cx02 := cq.at cx02 zx0 (by omega)
  replace cx03 := cq.at cx03 zx0 (by omega)
  replace zx0 := Nat.lt_of_lt_of_le zx0 cq.size
  replace cg00 := cq.at cg00 zg0 (by omega)
  replace cg01 := cq.at cg01 zg0 (by omega)
  replace cg02 := cq.at cg02 zg0 (by omega)
  replace cg03 := cq.at cg03 zg0 (by omega)
  replace cg04 := cq.at cg04 zg0 (by omega)
  replace cg05 := cq.at cg05 zg0 (by omega)
  replace zg0 := Nat.lt_of_lt_of_le zg0 cq.size
  replace rg3 := rg3.chg cq (by omega)
  replace rt4 := rt4.chg cq (by omega)
  replace hb := below_chg hb cq hb.size (by omega)
  clear hc cq
  have hk11 : ¬ (1 + (m : Int)) < 0 := by omega
  go_wp2_with fail
  refine Calls.mono (heldIndexResult_yes p0 0 p2 p4 p5 1 ag5 m kg5 _ rg5.read (by omega) (by omega) (by omega)) ?_
  rintro e w12 ⟨rfl, hc⟩
  have s12 : w11.heap.size ≤ w12.heap.size := hc.size
  have bq := hc
  replace caX0 := cell_later bq caX0
  replace caX1 := cell_later bq caX1
  replace caX2 := cell_later bq caX2
  replace caX3 := cell_later bq caX3
  replace zaX := Nat.lt_of_lt_of_le zaX bq.size
  replace cw00 := cell_later bq cw00
  replace cw01 := cell_later bq cw01
  replace cw02 := cell_later bq cw02
  replace cw03 := cell_later bq cw03
  replace cw04 := cell_later bq cw04
  replace cw05 := cell_later bq cw05
  replace zw0 := Nat.lt_of_lt_of_le zw0 bq.size
  replace cx00 := cell_later bq cx00
  replace cx01 := cell_later bq cx01
  replace cx02 := cell_later bq cx02
  replace cx03 := cell_later bq cx03
  replace zx0 := Nat.lt_of_lt_of_le zx0 bq.size
  replace cg00 := cell_later bq cg00
  replace cg01 := cell_later bq cg01
  replace cg02 := cell_later bq cg02
  replace cg03 := cell_later bq cg03
  replace cg04 := cell_later bq cg04
  replace cg05 := cell_later bq cg05
  replace zg0 := Nat.lt_of_lt_of_le zg0 bq.size
  replace rg3 := rg3.below bq
  replace rt4 := rt4.below bq
  replace rg5 := rg5.below bq
  replace hb := hb.trans (bq.mono hb.size)
  clear hc bq
  go_wp2_with fail
  refine Calls.mono (toIndex_any e0 a0 n0 ca0 xs0 l0 z0 _ (hr0.below hb) (by omega)) ?_
  rintro e w13 ⟨vt13, rfl, rt13, hc⟩
  obtain ⟨at13, kt13, rfl, q1, q2⟩ := rt13.shape
  have Kt13 : Hid _ := And.intro q1 q2
  clear q1 q2
  have s13 : w12.heap.size ≤ w13.heap.size := hc.size
  have bq := hc
  replace caX0 := cell_later bq caX0
  replace caX1 := cell_later bq caX1
  replace caX2 := cell_later bq caX2
  replace caX3 := cell_later bq caX3
  replace zaX := Nat.lt_of_lt_of_le zaX bq.size
  replace cw00 := cell_later bq cw00
  replace cw01 := cell_later bq cw01
  replace cw02 := cell_later bq cw02
  replace cw03 := cell_later bq cw03
  replace cw04 := cell_later bq cw04
  replace cw05 := cell_later bq cw05
  replace zw0 := Nat.lt_of_lt_of_le zw0 bq.size
  replace cx00 := cell_later bq cx00
  replace cx01 := cell_later bq cx01
  replace cx02 := cell_later bq cx02
  replace cx03 := cell_later bq cx03
  replace zx0 := Nat.lt_of_lt_of_le zx0 bq.size
  replace cg00 := cell_later bq cg00
  replace cg01 := cell_later bq cg01
  replace cg02 := cell_later bq cg02
  replace cg03 := cell_later bq cg03
  replace cg04 := cell_later bq cg04
  replace cg05 := cell_later bq cg05
  replace zg0 := Nat.lt_of_lt_of_le zg0 bq.size
  replace rg3 := rg3.below bq
  replace rt4 := rt4.below bq
  replace rg5 := rg5.below bq
  replace hb := hb.trans (bq.mono hb.size)
  clear hc bq
  go_wp2_with fail
  refine Calls.mono (HIC.out at13 kt13 _ rt13.read Kt13.out.1 Kt13.out.2) ?_
  rintro e w14 ⟨vg14, rfl, rg14, hc⟩
  obtain ⟨ag14, kg14, rfl, -⟩ := rg14.shape
  have s14 : w13.heap.size ≤ w14.heap.size := hc.size
  have bq := hc
  replace caX0 := cell_later bq caX0
  replace caX1 := cell_later bq caX1
  replace caX2 := cell_later bq caX2
  replace caX3 := cell_later bq caX3
  replace zaX := Nat.lt_of_lt_of_le zaX bq.size
  replace cw00 := cell_later bq cw00
  replace cw01 := cell_later bq cw01
  replace cw02 := cell_later bq cw02
  replace cw03 := cell_later bq cw03
  replace cw04 := cell_later bq cw04
  replace cw05 := cell_later bq cw05
  replace zw0 := Nat.lt_of_lt_of_le zw0 bq.size
  replace cx00 := cell_later bq cx00
  replace cx01 := cell_later bq cx01
  replace cx02 := cell_later bq cx02
  replace cx03 := cell_later bq cx03
  replace zx0 := Nat.lt_of_lt_of_le zx0 bq.size
  replace cg00 := cell_later bq cg00
  replace cg01 := cell_later bq cg01
  replace cg02 := cell_later bq cg02
  replace cg03 := cell_later bq cg03
  replace cg04 := cell_later bq cg04
  replace cg05 := cell_later bq cg05
  replace zg0 := Nat.lt_of_lt_of_le zg0 bq.size
  replace rg3 := rg3.below bq
  replace rt4 := rt4.below bq
  replace rg5 := rg5.below bq
  replace rt13 := rt13.below bq
  replace hb := hb.trans (bq.mono hb.size)
  clear hc bq
  clear rt13 Kt13
  go_wp2_with fail
  have bp : ∀ o0, Below w14.heap.size w14 (w14.alloc o0) := fun o0 => (Below.refl _ _).alloc (Nat.le_refl _) o0
  have hbt : ∀ o0, Below w.heap.size w (w14.alloc o0) := fun o0 => hb.trans ((bp o0).mono hb.size)
  refine Calls.mono (eqIndexResult_yes p0 0 p2 ag14 ag3 m kg14 kg3 rs p4 p5 _ (rg14.below (bp _)).read (rg3.below (bp _)).read (by first | omega | (unfold maxLen; omega))) ?_
  rintro e w15 ⟨rfl, hc⟩
  have s15 : w14.heap.size + 1 ≤ w15.heap.size := by have := hc.size; simp at this; omega
  have bq : Below w14.heap.size w14 w15 := (bp _).trans (hc.mono (bp _).size)
  replace caX0 := cell_later bq caX0
  replace caX1 := cell_later bq caX1
  replace caX2 := cell_later bq caX2
  replace caX3 := cell_later bq caX3
  replace zaX := Nat.lt_of_lt_of_le zaX bq.size
  replace cw00 := cell_later bq cw00
  replace cw01 := cell_later bq cw01
  replace cw02 := cell_later bq cw02
  replace cw03 := cell_later bq cw03
  replace cw04 := cell_later bq cw04
  replace cw05 := cell_later bq cw05
  replace zw0 := Nat.lt_of_lt_of_le zw0 bq.size
  replace cx00 := cell_later bq cx00
  replace cx01 := cell_later bq cx01
  replace cx02 := cell_later bq cx02
  replace cx03 := cell_later bq cx03
  replace zx0 := Nat.lt_of_lt_of_le zx0 bq.size
  replace cg00 := cell_later bq cg00
  replace cg01 := cell_later bq cg01
  replace cg02 := cell_later bq cg02
  replace cg03 := cell_later bq cg03
  replace cg04 := cell_later bq cg04
  replace cg05 := cell_later bq cg05
  replace zg0 := Nat.lt_of_lt_of_le zg0 bq.size
  have ch00 : w15.cell? ⟨w14.heap.size, 0, none⟩ = some (.int .i64 p0) := cell_later hc (by simp [go_sem])
  have ch01 : w15.cell? ⟨w14.heap.size, 1, none⟩ = some (.int .i64 0) := cell_later hc (by simp [go_sem])
  have ch02 : w15.cell? ⟨w14.heap.size, 2, none⟩ = some (.int .i64 p2) := cell_later hc (by simp [go_sem])
  have ch03 : w15.cell? ⟨w14.heap.size, 3, none⟩ = some (.slice ag14 m kg14) := cell_later hc (by simp [go_sem])
  have ch04 : w15.cell? ⟨w14.heap.size, 4, none⟩ = some (.int .i64 p4) := cell_later hc (by simp [go_sem])
  have ch05 : w15.cell? ⟨w14.heap.size, 5, none⟩ = some (.int .i64 p5) := cell_later hc (by simp [go_sem])
  have zh0 : w14.heap.size < w15.heap.size := by omega
  replace rg3 := rg3.below bq
  replace rt4 := rt4.below bq
  replace rg5 := rg5.below bq
  replace rg14 := rg14.below bq
  replace hb := hb.trans (bq.mono hb.size)
  clear hc bq bp hbt
  go_wp2_with fail
  refine Calls.mono (heldIndexResult_yes p0 0 p2 p4 p5 1 ag5 m kg5 _ rg5.read (by omega) (by omega) (by omega)) ?_
  rintro e w16 ⟨rfl, hc⟩
  have s16 : w15.heap.size ≤ w16.heap.size := hc.size
  have bq := hc
  replace caX0 := cell_later bq caX0
  replace caX1 := cell_later bq caX1
  replace caX2 := cell_later bq caX2
  replace caX3 := cell_later bq caX3
  replace zaX := Nat.lt_of_lt_of_le zaX bq.size
  replace cw00 := cell_later bq cw00
  replace cw01 := cell_later bq cw01
  replace cw02 := cell_later bq cw02
  replace cw03 := cell_later bq cw03
  replace cw04 := cell_later bq cw04
  replace cw05 := cell_later bq cw05
  replace zw0 := Nat.lt_of_lt_of_le zw0 bq.size
  replace cx00 := cell_later bq cx00
  replace cx01 := cell_later bq cx01
  replace cx02 := cell_later bq cx02
  replace cx03 := cell_later bq cx03
  replace zx0 := Nat.lt_of_lt_of_le zx0 bq.size
  replace cg00 := cell_later bq cg00
  replace cg01 := cell_later bq cg01
  replace cg02 := cell_later bq cg02
  replace cg03 := cell_later bq cg03
  replace cg04 := cell_later bq cg04
  replace cg05 := cell_later bq cg05
  replace zg0 := Nat.lt_of_lt_of_le zg0 bq.size
  replace ch00 := cell_later bq ch00
  replace ch01 := cell_later bq ch01
  replace ch02 := cell_later bq ch02
  replace ch03 := cell_later bq ch03
  replace ch04 := cell_later bq ch04
  replace ch05 := cell_later bq ch05
  replace zh0 := Nat.lt_of_lt_of_le zh0 bq.size
  replace rg3 := rg3.below bq
  replace rt4 := rt4.below bq
  replace rg5 := rg5.below bq
  replace rg14 := rg14.below bq
  replace hb := hb.trans (bq.mono hb.size)
  clear hc bq
  go_wp2
  go_ret
  exact ⟨rfl, hb⟩

theorem own : ownKnob Try.prog.godebug = none := by kernel_rfl
theorem laidOut : laidOutB Try.prog = true := by kernel_rfl

set_option maxRecDepth 100000 in
theorem lifted (os : Os) (started : os.Started) (H : Type) (enc : TypeId × Value → H) :
    ReturnsInHanded {} Try.checked os 7 .any (Rows.fnExactCutIndexSpec.pre6 enc Try.prog Try.f7 Rows.fnExactCutIndexRow.domain false) (Rows.fnExactCutIndexSpec.post enc Try.prog Try.f7 false true false false) := by
  refine returnsInHanded_of_change (C := Try.checked) own started (by kernel_rfl) Try.func7
    (ChangeSpec.witness6 (enc := enc) (C := Try.checked) false ⟨#[], #[.agg #[.int .i64 0, .slice none 0 0, .int .i64 0, .int .i64 0], .int .i64 0], []⟩ 8 (by kernel_rfl) (by kernel_rfl) (by kernel_rfl) (by kernel_rfl)) ?_
  intro W base args ds gs before hval0 hW hcnd _
  have hval : ∀ (j : Nat) t v, Try.f7.params[j]? = some t → args[j]? = some v → Value.okWide Try.prog W .any base t v := hval0
  have hW' := hW
  obtain ⟨p, q, hA0, hV, rfl, hfz, hnd⟩ := hW
  have hA : DataW.TrodAll enc Try.prog W 0 (fun _ => true) true Try.f7.params.toList args.toList ds p := hA0
  rw [Try.params7] at hA hval
  obtain ⟨v0, v1, d0, d1, p0, p1, rfl, rfl, rfl, h0, h1⟩ := trodAll_two hA
  obtain ⟨rfl, rfl⟩ := trodVars_none hV
  have k0 := h0
  have lt0 : ∀ x ∈ p0, x.block < W.heap.size := by obtain ⟨m, hm⟩ := k0; exact DataW.trod_lt m _ _ _ hm
  obtain ⟨e0, a0, len0, cap0, x0, l0, z0, rfl, hr0, hm0⟩ := open_index (hval 0 44 v0 rfl rfl) h0
  obtain ⟨I1, rfl, rfl, rfl, wI1⟩ := open_int Try.underlying2 (hval 1 2 v1 rfl rfl) h1
  clear hA0 hval0
  refine (walk e0 a0 len0 cap0 x0 l0 z0 I1 W hr0 hm0).mono fun e W' ⟨he, bel⟩ => ?_
  subst he
  exact ⟨_, rfl, _, _, _, [], _, [], hW', trodAll_mk1 (shut_bool Try.underlying4 _), trodAll_mk2 (Below.trod laidOut (by kernel_rfl) (of_decide_eq_true (by kernel_rfl)) k0 bel lt0) (shut_int Try.underlying2 wI1), rfl, bel.frame _, fun h => by cases h⟩

theorem proved : Rows.FnExactCutIndexSaid :=
  OpenClaim.holds_of_wide 7 Try.f7 rfl rfl rfl rfl rfl rfl rfl ⟨rfl, rfl, rfl, rfl, rfl⟩ rfl rfl rfl rfl rfl (by kernel_rfl) Try.func7 (by kernel_rfl)
    (of_decide_eq_true (by kernel_rfl)) (by unfold Func.isWrapper; first | (rw [if_pos (by decide +kernel)]; kernel_rfl) | (rw [if_neg (by decide +kernel)]; exact ⟨rfl, rfl⟩))
    (fun os started H enc _ => lifted os started H enc)
end Go.Proofs.Ythdglflipeggpaa.fnExactCutIndex
namespace Go.Proofs.Ythdglflipeggpaa
theorem fnExactCutIndex_proved : Rows.FnExactCutIndexSaid := fnExactCutIndex.proved
end Go.Proofs.Ythdglflipeggpaa
