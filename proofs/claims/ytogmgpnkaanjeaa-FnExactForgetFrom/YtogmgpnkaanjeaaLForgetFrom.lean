/-
  For every cache and number, FnExactForgetFrom returns true: the program's ForgetFrom answers as the model, writes into no argument, and its answer owns its memory; no condition.
-/
import Derived.Test.YtogmgpnkaanjeaaForget3
import Derived.Test.YtogmgpnkaanjeaaArgs
import Derived.Test.YtogmgpnkaanjeaaArgsF
import Derived.Test.YtogmgpnkaanjeaaArgsB
import Derived.Test.YtogmgpnkaanjeaaHlpF
import Derived.Test.YtogmgpnkaanjeaaHlpB2
import Derived.ProofKit
import Derived.OpenShut
import Derived.ChangeOld
import Derived.Below
import Derived.Carry
import Derived.Deep.RegionWith
import Derived.Deep.RegionHeld3
namespace Go.Proofs.Ytogmgpnkaanjeaa.fnExactForgetFrom
open Go.ChangeShapes Go.WideShapes Go.ChangeAt Go.RowKit
set_option linter.unusedVariables false
set_option linter.unusedSimpArgs false

set_option maxRecDepth 10000 in
set_option maxHeartbeats 6400000 in
theorem walk (u0 z0 : Int) (a0 : Option Addr) (n0 ca0 : Nat) (bs0 : List Bk) (I1 : Int) (w : World) (hr0 : RdB w a0 n0 bs0) (hB0 : ∀ b ∈ bs0, Bytes b.2) (hm0 : n0 ≤ maxLen) :
    Calls Try.prog 9 #[.agg #[.int .i64 u0, .int .i64 z0, .slice a0 n0 ca0], .int .i64 I1] w fun e w' => e = .returned (.bool true) ∧ Below w.heap.size w w' := by
  by_cases hn0 : (n0 : Int) + byB bs0 ≤ 1048576
  rotate_left
  · go_enter Try.func9, Try.ntmps9
    have hb : Below w.heap.size w w := Below.refl _ _
    go_wp2_with fail
    have bp : ∀ o0, Below w.heap.size w (w.alloc o0) := fun o0 => (Below.refl _ _).alloc (Nat.le_refl _) o0
    have hbt : ∀ o0, Below w.heap.size w (w.alloc o0) := fun o0 => hb.trans ((bp o0).mono hb.size)
    refine Calls.mono (szCache_no u0 z0 a0 n0 ca0 bs0 (1048576) _ (hr0.below (hbt _)) (by omega) hm0 (by omega) (by omega)) ?_
    rintro e w1 ⟨rfl, hc⟩
    have s1 : w.heap.size + 1 ≤ w1.heap.size := by have := hc.size; simp at this; omega
    have bq : Below w.heap.size w w1 := (bp _).trans (hc.mono (bp _).size)
    have caC0 : w1.cell? ⟨w.heap.size, 0, none⟩ = some (.int .i64 u0) := cell_later hc (by simp [go_sem])
    have caC1 : w1.cell? ⟨w.heap.size, 1, none⟩ = some (.int .i64 z0) := cell_later hc (by simp [go_sem])
    have caC2 : w1.cell? ⟨w.heap.size, 2, none⟩ = some (.slice a0 n0 ca0) := cell_later hc (by simp [go_sem])
    have zaC : w.heap.size < w1.heap.size := by omega
    replace hb := hb.trans (bq.mono hb.size)
    clear hc bq bp hbt
    go_wp2
    go_ret
    exact ⟨rfl, hb⟩
  unfold maxLen at hm0
  have SC := fun (A0 : Option Addr) (C0 : Nat) (W' : World) (H0 : RdB W' A0 n0 bs0) (J0 : n0 ≤ C0) (M0 : C0 ≤ maxLen) => specForgetFrom_any u0 z0 A0 n0 C0 bs0 I1 W' H0 (by omega)
  have IC := fun (A0 : Option Addr) (C0 : Nat) (W' : World) (H0 : RdB W' A0 n0 bs0) (J0 : n0 ≤ C0) (M0 : C0 ≤ maxLen) => implForgetFrom_any u0 z0 A0 n0 C0 bs0 I1 W' H0 (by omega) J0
  have hrl : fgRs.length ≤ 400 := by simp [fgRs]
  have hrq : ((fgQ u0 z0 bs0 I1).length : Int) + byB (fgQ u0 z0 bs0 I1) ≤ 1000000 := fgQ_len u0 z0 bs0 I1
  generalize fgCode u0 z0 bs0 I1 = cd at *
  generalize fgRs = rs at *
  generalize fgU u0 z0 bs0 I1 = ru at *
  generalize fgZ u0 z0 bs0 I1 = rz at *
  generalize fgQ u0 z0 bs0 I1 = qs at *
  generalize hml : rs.length = m at *
  generalize hql : qs.length = nq at *
  clear hml hql
  have HSC : Hid _ := SC
  have HIC : Hid _ := IC
  clear SC IC
  go_enter Try.func9, Try.ntmps9
  have hb : Below w.heap.size w w := Below.refl _ _
  go_wp2_with fail
  have bp : ∀ o0, Below w.heap.size w (w.alloc o0) := fun o0 => (Below.refl _ _).alloc (Nat.le_refl _) o0
  have hbt : ∀ o0, Below w.heap.size w (w.alloc o0) := fun o0 => hb.trans ((bp o0).mono hb.size)
  refine Calls.mono (szCache_yes u0 z0 a0 n0 ca0 bs0 (1048576) _ (hr0.below (hbt _)) (by omega) (by omega)) ?_
  rintro e w1 ⟨rfl, hc⟩
  have s1 : w.heap.size + 1 ≤ w1.heap.size := by have := hc.size; simp at this; omega
  have bq : Below w.heap.size w w1 := (bp _).trans (hc.mono (bp _).size)
  have caC0 : w1.cell? ⟨w.heap.size, 0, none⟩ = some (.int .i64 u0) := cell_later hc (by simp [go_sem])
  have caC1 : w1.cell? ⟨w.heap.size, 1, none⟩ = some (.int .i64 z0) := cell_later hc (by simp [go_sem])
  have caC2 : w1.cell? ⟨w.heap.size, 2, none⟩ = some (.slice a0 n0 ca0) := cell_later hc (by simp [go_sem])
  have zaC : w.heap.size < w1.heap.size := by omega
  replace hb := hb.trans (bq.mono hb.size)
  clear hc bq bp hbt
  have hleft0 : ¬ (1048576 - (n0 : Int) - (byB bs0 : Int) < 0) := by omega
  go_wp2_with fail
  refine Calls.mono (toCache_any u0 z0 a0 n0 ca0 bs0 _ (hr0.below hb) (by omega)) ?_
  rintro e w2 ⟨vt2, rfl, rt2, hc⟩
  obtain ⟨at2, kt2, rfl, q1, q2⟩ := rt2.shape
  have Kt2 : Hid _ := And.intro q1 q2
  clear q1 q2
  have s2 : w1.heap.size ≤ w2.heap.size := hc.size
  have bq := hc
  replace caC0 := cell_later bq caC0
  replace caC1 := cell_later bq caC1
  replace caC2 := cell_later bq caC2
  replace zaC := Nat.lt_of_lt_of_le zaC bq.size
  replace hb := hb.trans (bq.mono hb.size)
  clear hc bq
  go_wp2_with fail
  refine Calls.mono (HSC.out at2 kt2 _ rt2.read Kt2.out.1 Kt2.out.2) ?_
  rintro e w3 ⟨vg3b, vg3, rfl, rg3b, rg3, hc⟩
  obtain ⟨ag3b, kg3b, rfl, _⟩ := rg3b.shape
  obtain ⟨ag3, kg3, rfl, _⟩ := rg3.shape
  have s3 : w2.heap.size ≤ w3.heap.size := hc.size
  have bq := hc
  replace caC0 := cell_later bq caC0
  replace caC1 := cell_later bq caC1
  replace caC2 := cell_later bq caC2
  replace zaC := Nat.lt_of_lt_of_le zaC bq.size
  replace rt2 := rt2.below bq
  replace hb := hb.trans (bq.mono hb.size)
  clear hc bq
  clear rt2 Kt2
  go_wp2_with fail
  have bp : ∀ o0, Below w3.heap.size w3 (w3.alloc o0) := fun o0 => (Below.refl _ _).alloc (Nat.le_refl _) o0
  have hbt : ∀ o0, Below w.heap.size w (w3.alloc o0) := fun o0 => hb.trans ((bp o0).mono hb.size)
  refine Calls.mono (toCache_any u0 z0 a0 n0 ca0 bs0 _ (hr0.below (hbt _)) (by omega)) ?_
  rintro e w4 ⟨vt4, rfl, rt4, hc⟩
  obtain ⟨at4, kt4, rfl, q1, q2⟩ := rt4.shape
  have Kt4 : Hid _ := And.intro q1 q2
  clear q1 q2
  replace rt4 := RowB.mono (lo' := w3.heap.size + 1) rt4 (by simp) (Nat.le_refl _)
  have s4 : w3.heap.size + 1 ≤ w4.heap.size := by have := hc.size; simp at this; omega
  have bq : Below w3.heap.size w3 w4 := (bp _).trans (hc.mono (bp _).size)
  replace caC0 := cell_later bq caC0
  replace caC1 := cell_later bq caC1
  replace caC2 := cell_later bq caC2
  replace zaC := Nat.lt_of_lt_of_le zaC bq.size
  have cw00 : w4.cell? ⟨w3.heap.size, 0, none⟩ = some (.int .i64 cd) := cell_later hc (by simp [go_sem])
  have cw01 : w4.cell? ⟨w3.heap.size, 1, none⟩ = some (.slice ag3b m kg3b) := cell_later hc (by simp [go_sem])
  have cw02 : w4.cell? ⟨w3.heap.size, 2, none⟩ = some (.int .i64 ru) := cell_later hc (by simp [go_sem])
  have cw03 : w4.cell? ⟨w3.heap.size, 3, none⟩ = some (.int .i64 rz) := cell_later hc (by simp [go_sem])
  have cw04 : w4.cell? ⟨w3.heap.size, 4, none⟩ = some (.slice ag3 nq kg3) := cell_later hc (by simp [go_sem])
  have zw0 : w3.heap.size < w4.heap.size := by omega
  replace rg3b := rg3b.below bq
  replace rg3 := rg3.below bq
  replace hb := hb.trans (bq.mono hb.size)
  clear hc bq bp hbt
  go_wp2_with fail
  have bp : ∀ o0, Below w4.heap.size w4 (w4.alloc o0) := fun o0 => (Below.refl _ _).alloc (Nat.le_refl _) o0
  have hbt : ∀ o0, Below w.heap.size w (w4.alloc o0) := fun o0 => hb.trans ((bp o0).mono hb.size)
  refine Calls.mono (HIC.out at4 kt4 _ (rt4.below (bp _)).read Kt4.out.1 Kt4.out.2) ?_
  rintro e w5 ⟨vg5b, vg5, mg5, rfl, pg5, qg5, rg5b, rg5, hc⟩
  obtain ⟨ag5b, kg5b, rfl, _⟩ := rg5b.shape
  obtain ⟨ag5, kg5, rfl, _⟩ := rg5.shape
  replace rg5b := RowI.mono (lo' := w4.heap.size + 1) rg5b (by simp) (Nat.le_refl _)
  simp at pg5
  have s5 : w4.heap.size + 1 ≤ w5.heap.size := by have := hc.size; simp at this; omega
  have bq : Below w4.heap.size w4 w5 := (bp _).trans (hc.mono (bp _).size)
  replace caC0 := cell_later bq caC0
  replace caC1 := cell_later bq caC1
  replace caC2 := cell_later bq caC2
  replace zaC := Nat.lt_of_lt_of_le zaC bq.size
  replace cw00 := cell_later bq cw00
  replace cw01 := cell_later bq cw01
  replace cw02 := cell_later bq cw02
  replace cw03 := cell_later bq cw03
  replace cw04 := cell_later bq cw04
  replace zw0 := Nat.lt_of_lt_of_le zw0 bq.size
  have cx00 : w5.cell? ⟨w4.heap.size, 0, none⟩ = some (.int .i64 u0) := cell_later hc (by simp [go_sem])
  have cx01 : w5.cell? ⟨w4.heap.size, 1, none⟩ = some (.int .i64 z0) := cell_later hc (by simp [go_sem])
  have cx02 : w5.cell? ⟨w4.heap.size, 2, none⟩ = some (.slice at4 n0 kt4) := cell_later hc (by simp [go_sem])
  have zx0 : w4.heap.size < w5.heap.size := by omega
  replace rg3b := rg3b.below bq
  replace rg3 := rg3.below bq
  replace rt4 := rt4.below bq
  replace hb := hb.trans (bq.mono hb.size)
  clear hc bq bp hbt
  go_wp2_with fail
  have bp : ∀ o0, Below w5.heap.size w5 (w5.alloc o0) := fun o0 => (Below.refl _ _).alloc (Nat.le_refl _) o0
  have hbt : ∀ o0, Below w.heap.size w (w5.alloc o0) := fun o0 => hb.trans ((bp o0).mono hb.size)
  refine Calls.mono (eqCacheResult_yes cd ru rz ag5b ag3b m kg5b kg3b rs ag5 ag3 nq kg5 kg3 qs _ (rg5b.below (bp _)).read (rg3b.below (bp _)).read (rg5.below (bp _)).read (rg3.below (bp _)).read (by omega) (by omega)) ?_
  rintro e w6 ⟨rfl, hc⟩
  have s6 : w5.heap.size + 1 ≤ w6.heap.size := by have := hc.size; simp at this; omega
  have bq : Below w5.heap.size w5 w6 := (bp _).trans (hc.mono (bp _).size)
  replace caC0 := cell_later bq caC0
  replace caC1 := cell_later bq caC1
  replace caC2 := cell_later bq caC2
  replace zaC := Nat.lt_of_lt_of_le zaC bq.size
  replace cw00 := cell_later bq cw00
  replace cw01 := cell_later bq cw01
  replace cw02 := cell_later bq cw02
  replace cw03 := cell_later bq cw03
  replace cw04 := cell_later bq cw04
  replace zw0 := Nat.lt_of_lt_of_le zw0 bq.size
  replace cx00 := cell_later bq cx00
  replace cx01 := cell_later bq cx01
  replace cx02 := cell_later bq cx02
  replace zx0 := Nat.lt_of_lt_of_le zx0 bq.size
  have cg00 : w6.cell? ⟨w5.heap.size, 0, none⟩ = some (.int .i64 cd) := cell_later hc (by simp [go_sem])
  have cg01 : w6.cell? ⟨w5.heap.size, 1, none⟩ = some (.slice ag5b m kg5b) := cell_later hc (by simp [go_sem])
  have cg02 : w6.cell? ⟨w5.heap.size, 2, none⟩ = some (.int .i64 ru) := cell_later hc (by simp [go_sem])
  have cg03 : w6.cell? ⟨w5.heap.size, 3, none⟩ = some (.int .i64 rz) := cell_later hc (by simp [go_sem])
  have cg04 : w6.cell? ⟨w5.heap.size, 4, none⟩ = some (.slice ag5 nq kg5) := cell_later hc (by simp [go_sem])
  have zg0 : w5.heap.size < w6.heap.size := by omega
  replace rg3b := rg3b.below bq
  replace rg3 := rg3.below bq
  replace rt4 := rt4.below bq
  replace rg5b := rg5b.below bq
  replace rg5 := rg5.below bq
  replace hb := hb.trans (bq.mono hb.size)
  clear hc bq bp hbt
  go_wp2_with fail
  have bd : Below w6.heap.size w6 w6.drew := (Below.refl _ _).drew
  refine wp_region_held_drew (S := fun w' => w'.cell? ⟨w4.heap.size, 0, none⟩ = some (.int .i64 u0) ∧ w'.cell? ⟨w4.heap.size, 1, none⟩ = some (.int .i64 z0) ∧ w'.cell? ⟨w4.heap.size, 2, none⟩ = some (.slice at4 n0 kt4) ∧ w'.cell? ⟨w.heap.size, 0, none⟩ = some (.int .i64 u0) ∧ w'.cell? ⟨w.heap.size, 1, none⟩ = some (.int .i64 z0) ∧ w'.cell? ⟨w.heap.size, 2, none⟩ = some (.slice a0 n0 ca0)) (by kernel_rfl) (by exact ⟨cx00, cx01, cx02, caC0, caC1, caC2⟩) (fun hS => ?_)
  refine wpAnyH_take (i := 0) (v := (.agg #[.int .i64 u0, .int .i64 z0, .slice at4 n0 kt4])) rfl (by kernel_rfl) (by kernel_rfl) (by kernel_rfl) (fun _ _ _ h => h) (Or.inl ⟨by kernel_rfl, ?_⟩) hS ?_
  · intro w hSw; (try dsimp only at hSw); go_simp
  simp only [Act.put, List.getElem_toArray, List.getElem_cons_zero, List.getElem_cons_succ, List.setIfInBounds_toArray, List.set_cons_zero, List.set_cons_succ]
  refine wpAnyH_take (i := 1) (v := (.agg #[.int .i64 u0, .int .i64 z0, .slice a0 n0 ca0])) rfl (by kernel_rfl) (by kernel_rfl) (by kernel_rfl) (fun _ _ _ h => h) (Or.inl ⟨by kernel_rfl, ?_⟩) hS ?_
  · intro w hSw; (try dsimp only at hSw); go_simp
  simp only [Act.put, List.getElem_toArray, List.getElem_cons_zero, List.getElem_cons_succ, List.setIfInBounds_toArray, List.set_cons_zero, List.set_cons_succ]
  refine wpAnyH_ready (rs := [2]) (by kernel_rfl) (by simp) ?_
  refine AllReadyH.cons rfl (fun K hK => ?_) AllReadyH.nil
  go_simp
  refine Calls.mono (toCache_any u0 z0 a0 n0 ca0 bs0 _ (hr0.below hb.drew) (by omega)) ?_
  rintro e w7 ⟨vt7, rfl, rt7, hc0⟩
  obtain ⟨at7, kt7, rfl, q1, q2⟩ := rt7.shape
  have Kt7 : Hid _ := And.intro q1 q2
  clear q1 q2
  replace rt7 := RowB.mono (lo' := w6.heap.size) rt7 (Nat.le_refl _) (Nat.le_refl _)
  refine hK.out _ _ ⟨cell_later hc0 hS.1, cell_later hc0 hS.2.1, cell_later hc0 hS.2.2.1, cell_later hc0 hS.2.2.2.1, cell_later hc0 hS.2.2.2.2.1, cell_later hc0 hS.2.2.2.2.2⟩ (fun hS => ?_)
  clear hK K
  have hc : Below w6.heap.size w6 w7 := bd.trans (hc0.mono (Nat.le_refl _))
  clear hc0 bd
  have s7 : w6.heap.size ≤ w7.heap.size := hc.size
  have bq := hc
  replace caC0 := cell_later bq caC0
  replace caC1 := cell_later bq caC1
  replace caC2 := cell_later bq caC2
  replace zaC := Nat.lt_of_lt_of_le zaC bq.size
  replace cw00 := cell_later bq cw00
  replace cw01 := cell_later bq cw01
  replace cw02 := cell_later bq cw02
  replace cw03 := cell_later bq cw03
  replace cw04 := cell_later bq cw04
  replace zw0 := Nat.lt_of_lt_of_le zw0 bq.size
  replace cx00 := cell_later bq cx00
  replace cx01 := cell_later bq cx01
  replace cx02 := cell_later bq cx02
  replace zx0 := Nat.lt_of_lt_of_le zx0 bq.size
  replace cg00 := cell_later bq cg00
  replace cg01 := cell_later bq cg01
  replace cg02 := cell_later bq cg02
  replace cg03 := cell_later bq cg03
  replace cg04 := cell_later bq cg04
  replace zg0 := Nat.lt_of_lt_of_le zg0 bq.size
  replace rg3b := rg3b.below bq
  replace rg3 := rg3.below bq
  replace rt4 := rt4.below bq
  replace rg5b := rg5b.below bq
  replace rg5 := rg5.below bq
  replace hb := hb.trans (bq.mono hb.size)
  clear hc bq
  refine wpAnyH_ready (rs := [3]) (by kernel_rfl) (by simp) ?_
  refine AllReadyH.cons rfl (fun K hK => ?_) AllReadyH.nil
  go_simp
  refine Calls.mono (eqCache_yes u0 z0 at4 at7 n0 kt4 kt7 bs0 _ rt4.read rt7.read (by omega)) ?_
  rintro e w8 ⟨rfl, hc0⟩
  refine hK.out _ _ ⟨cell_later hc0 hS.1, cell_later hc0 hS.2.1, cell_later hc0 hS.2.2.1, cell_later hc0 hS.2.2.2.1, cell_later hc0 hS.2.2.2.2.1, cell_later hc0 hS.2.2.2.2.2⟩ (fun hS => ?_)
  clear hK K
  have hc := hc0
  clear hc0
  have s8 : w7.heap.size ≤ w8.heap.size := hc.size
  have bq := hc
  replace caC0 := cell_later bq caC0
  replace caC1 := cell_later bq caC1
  replace caC2 := cell_later bq caC2
  replace zaC := Nat.lt_of_lt_of_le zaC bq.size
  replace cw00 := cell_later bq cw00
  replace cw01 := cell_later bq cw01
  replace cw02 := cell_later bq cw02
  replace cw03 := cell_later bq cw03
  replace cw04 := cell_later bq cw04
  replace zw0 := Nat.lt_of_lt_of_le zw0 bq.size
  replace cx00 := cell_later bq cx00
  replace cx01 := cell_later bq cx01
  replace cx02 := cell_later bq cx02
  replace zx0 := Nat.lt_of_lt_of_le zx0 bq.size
  replace cg00 := cell_later bq cg00
  replace cg01 := cell_later bq cg01
  replace cg02 := cell_later bq cg02
  replace cg03 := cell_later bq cg03
  replace cg04 := cell_later bq cg04
  replace zg0 := Nat.lt_of_lt_of_le zg0 bq.size
  replace rg3b := rg3b.below bq
  replace rg3 := rg3.below bq
  replace rt4 := rt4.below bq
  replace rg5b := rg5b.below bq
  replace rg5 := rg5.below bq
  replace rt7 := rt7.below bq
  replace hb := hb.trans (bq.mono hb.size)
  clear hc bq
  clear rt7 Kt7
  refine wpAnyH_take (i := 4) (v := (.bool false)) rfl (by kernel_rfl) (by kernel_rfl) (by kernel_rfl) (fun _ _ _ h => h) (Or.inl ⟨by kernel_rfl, ?_⟩) hS ?_
  · intro w hSw; (try dsimp only at hSw); go_simp
  simp only [Act.put, List.getElem_toArray, List.getElem_cons_zero, List.getElem_cons_succ, List.setIfInBounds_toArray, List.set_cons_zero, List.set_cons_succ]
  refine wpAnyH_done (by kernel_rfl) ?_ _
  clear hS
  go_wp2_with fail
  refine Calls.mono (markCache_row u0 z0 1 _ n0 _ _ bs0 _ rt4 (by omega) (by omega) (by omega)) ?_
  clear rt4
  rintro e w9 ⟨rfl, rt4, hc⟩
  have s9 : w8.heap.size ≤ w9.heap.size := hc.size
  have cq := hc
  replace caC0 := cq.at caC0 zaC (by omega)
  replace caC1 := cq.at caC1 zaC (by omega)
  replace caC2 := cq.at caC2 zaC (by omega)
  replace zaC := Nat.lt_of_lt_of_le zaC cq.size
  replace cw00 := cq.at cw00 zw0 (by omega)
  replace cw01 := cq.at cw01 zw0 (by omega)
  replace cw02 := cq.at cw02 zw0 (by omega)
  replace cw03 := cq.at cw03 zw0 (by omega)
  replace cw04 := cq.at cw04 zw0 (by omega)
  replace zw0 := Nat.lt_of_lt_of_le zw0 cq.size
  replace cx00 := cq.at cx00 zx0 (by omega)
  replace cx01 := cq.at cx01 zx0 (by omega)
  replace cx02 := cq.at cx02 zx0 (by omega)
  replace zx0 := Nat.lt_of_lt_of_le zx0 cq.size
  replace cg00 := cq.at cg00 zg0 (by omega)
  replace cg01 := cq.at cg01 zg0 (by omega)
  replace cg02 := cq.at cg02 zg0 (by omega)
  replace cg03 := cq.at cg03 zg0 (by omega)
  replace cg04 := cq.at cg04 zg0 (by omega)
  replace zg0 := Nat.lt_of_lt_of_le zg0 cq.size
  replace rg3b := rg3b.chg cq (by omega)
  replace rg3 := rg3.chg cq (by omega)
  replace rg5b := rg5b.chg cq (by omega)
  replace rg5 := rg5.chg cq (by omega)
  replace hb := below_chg hb cq hb.size (by omega)
  clear hc cq
  have hk9 : ¬ (1 + ((n0 : Int) + (byB bs0 : Int))) < 0 := by omega
  go_wp2_with fail
  refine Calls.mono (eqCacheResult_yes cd ru rz ag5b ag3b m kg5b kg3b rs ag5 ag3 nq kg5 kg3 qs _ rg5b.read rg3b.read rg5.read rg3.read (by omega) (by omega)) ?_
  rintro e w10 ⟨rfl, hc⟩
  have s10 : w9.heap.size ≤ w10.heap.size := hc.size
  have bq := hc
  replace caC0 := cell_later bq caC0
  replace caC1 := cell_later bq caC1
  replace caC2 := cell_later bq caC2
  replace zaC := Nat.lt_of_lt_of_le zaC bq.size
  replace cw00 := cell_later bq cw00
  replace cw01 := cell_later bq cw01
  replace cw02 := cell_later bq cw02
  replace cw03 := cell_later bq cw03
  replace cw04 := cell_later bq cw04
  replace zw0 := Nat.lt_of_lt_of_le zw0 bq.size
  replace cx00 := cell_later bq cx00
  replace cx01 := cell_later bq cx01
  replace cx02 := cell_later bq cx02
  replace zx0 := Nat.lt_of_lt_of_le zx0 bq.size
  replace cg00 := cell_later bq cg00
  replace cg01 := cell_later bq cg01
  replace cg02 := cell_later bq cg02
  replace cg03 := cell_later bq cg03
  replace cg04 := cell_later bq cg04
  replace zg0 := Nat.lt_of_lt_of_le zg0 bq.size
  replace rg3b := rg3b.below bq
  replace rg3 := rg3.below bq
  replace rt4 := rt4.below bq
  replace rg5b := rg5b.below bq
  replace rg5 := rg5.below bq
  replace hb := hb.trans (bq.mono hb.size)
  clear hc bq
  go_wp2_with fail
  refine Calls.mono (markCacheResult_row cd ru rz 1 _ _ m nq _ _ _ rs qs _ rg5b rg5 (by omega) (by omega) (by first | omega | (simp; omega)) (by omega) (by omega) (by omega) (by omega)) ?_
  clear rg5b rg5
  rintro e w11 ⟨rfl, rg5b, rg5, hc⟩
  have s11 : w10.heap.size ≤ w11.heap.size := hc.size
  have cq := hc
  replace caC0 := cq.at caC0 zaC (by omega)
  replace caC1 := cq.at caC1 zaC (by omega)
  replace caC2 := cq.at caC2 zaC (by omega)
  replace zaC := Nat.lt_of_lt_of_le zaC cq.size
  replace cw00 := cq.at cw00 zw0 (by omega)
  replace cw01 := cq.at cw01 zw0 (by omega)
  replace cw02 := cq.at cw02 zw0 (by omega)
  replace cw03 := cq.at cw03 zw0 (by omega)
  replace cw04 := cq.at cw04 zw0 (by omega)
  replace zw0 := Nat.lt_of_lt_of_le zw0 cq.size
  replace cx00 := cq.at cx00 zx0 (by omega)
  replace cx01 := cq.at cx01 zx0 (by omega)
  replace cx02 := cq.at cx02 zx0 (by omega)
  replace zx0 := Nat.lt_of_lt_of_le zx0 cq.size
  replace cg00 := cq.at cg00 zg0 (by omega)
  replace cg01 := cq.at cg01 zg0 (by omega)
  replace cg02 := cq.at cg02 zg0 (by omega)
  replace cg03 := cq.at cg03 zg0 (by omega)
  replace cg04 := cq.at cg04 zg0 (by omega)
  replace zg0 := Nat.lt_of_lt_of_le zg0 cq.size
  replace rg3b := rg3b.chg cq (by omega)
  replace rg3 := rg3.chg cq (by omega)
  replace rt4 := rt4.chg cq (by omega)
  replace hb := below_chg hb cq hb.size (by omega)
  clear hc cq
  have hk11 : ¬ (1 + ((m : Int) + ((nq : Int) + (byB qs : Int)))) < 0 := by omega
  go_wp2_with fail
  refine Calls.mono (heldCacheResult_yes cd ru rz 1 ag5b m kg5b ag5 nq kg5 qs _ rg5b.read rg5.read (by omega) (by omega) (by omega) (by omega)) ?_
  rintro e w12 ⟨rfl, hc⟩
  have s12 : w11.heap.size ≤ w12.heap.size := hc.size
  have bq := hc
  replace caC0 := cell_later bq caC0
  replace caC1 := cell_later bq caC1
  replace caC2 := cell_later bq caC2
  replace zaC := Nat.lt_of_lt_of_le zaC bq.size
  replace cw00 := cell_later bq cw00
  replace cw01 := cell_later bq cw01
  replace cw02 := cell_later bq cw02
  replace cw03 := cell_later bq cw03
  replace cw04 := cell_later bq cw04
  replace zw0 := Nat.lt_of_lt_of_le zw0 bq.size
  replace cx00 := cell_later bq cx00
  replace cx01 := cell_later bq cx01
  replace cx02 := cell_later bq cx02
  replace zx0 := Nat.lt_of_lt_of_le zx0 bq.size
  replace cg00 := cell_later bq cg00
  replace cg01 := cell_later bq cg01
  replace cg02 := cell_later bq cg02
  replace cg03 := cell_later bq cg03
  replace cg04 := cell_later bq cg04
  replace zg0 := Nat.lt_of_lt_of_le zg0 bq.size
  replace rg3b := rg3b.below bq
  replace rg3 := rg3.below bq
  replace rt4 := rt4.below bq
  replace rg5b := rg5b.below bq
  replace rg5 := rg5.below bq
  replace hb := hb.trans (bq.mono hb.size)
  clear hc bq
  go_wp2_with fail
  refine Calls.mono (toCache_any u0 z0 a0 n0 ca0 bs0 _ (hr0.below hb) (by omega)) ?_
  rintro e w13 ⟨vt13, rfl, rt13, hc⟩
  obtain ⟨at13, kt13, rfl, q1, q2⟩ := rt13.shape
  have Kt13 : Hid _ := And.intro q1 q2
  clear q1 q2
  have s13 : w12.heap.size ≤ w13.heap.size := hc.size
  have bq := hc
  replace caC0 := cell_later bq caC0
  replace caC1 := cell_later bq caC1
  replace caC2 := cell_later bq caC2
  replace zaC := Nat.lt_of_lt_of_le zaC bq.size
  replace cw00 := cell_later bq cw00
  replace cw01 := cell_later bq cw01
  replace cw02 := cell_later bq cw02
  replace cw03 := cell_later bq cw03
  replace cw04 := cell_later bq cw04
  replace zw0 := Nat.lt_of_lt_of_le zw0 bq.size
  replace cx00 := cell_later bq cx00
  replace cx01 := cell_later bq cx01
  replace cx02 := cell_later bq cx02
  replace zx0 := Nat.lt_of_lt_of_le zx0 bq.size
  replace cg00 := cell_later bq cg00
  replace cg01 := cell_later bq cg01
  replace cg02 := cell_later bq cg02
  replace cg03 := cell_later bq cg03
  replace cg04 := cell_later bq cg04
  replace zg0 := Nat.lt_of_lt_of_le zg0 bq.size
  replace rg3b := rg3b.below bq
  replace rg3 := rg3.below bq
  replace rt4 := rt4.below bq
  replace rg5b := rg5b.below bq
  replace rg5 := rg5.below bq
  replace hb := hb.trans (bq.mono hb.size)
  clear hc bq
  go_wp2_with fail
  refine Calls.mono (HIC.out at13 kt13 _ rt13.read Kt13.out.1 Kt13.out.2) ?_
  rintro e w14 ⟨vg14b, vg14, mg14, rfl, pg14, qg14, rg14b, rg14, hc⟩
  obtain ⟨ag14b, kg14b, rfl, _⟩ := rg14b.shape
  obtain ⟨ag14, kg14, rfl, _⟩ := rg14.shape
  have s14 : w13.heap.size ≤ w14.heap.size := hc.size
  have bq := hc
  replace caC0 := cell_later bq caC0
  replace caC1 := cell_later bq caC1
  replace caC2 := cell_later bq caC2
  replace zaC := Nat.lt_of_lt_of_le zaC bq.size
  replace cw00 := cell_later bq cw00
  replace cw01 := cell_later bq cw01
  replace cw02 := cell_later bq cw02
  replace cw03 := cell_later bq cw03
  replace cw04 := cell_later bq cw04
  replace zw0 := Nat.lt_of_lt_of_le zw0 bq.size
  replace cx00 := cell_later bq cx00
  replace cx01 := cell_later bq cx01
  replace cx02 := cell_later bq cx02
  replace zx0 := Nat.lt_of_lt_of_le zx0 bq.size
  replace cg00 := cell_later bq cg00
  replace cg01 := cell_later bq cg01
  replace cg02 := cell_later bq cg02
  replace cg03 := cell_later bq cg03
  replace cg04 := cell_later bq cg04
  replace zg0 := Nat.lt_of_lt_of_le zg0 bq.size
  replace rg3b := rg3b.below bq
  replace rg3 := rg3.below bq
  replace rt4 := rt4.below bq
  replace rg5b := rg5b.below bq
  replace rg5 := rg5.below bq
  replace rt13 := rt13.below bq
  replace hb := hb.trans (bq.mono hb.size)
  clear hc bq
  clear rt13 Kt13
  go_wp2_with fail
  have bp : ∀ o0, Below w14.heap.size w14 (w14.alloc o0) := fun o0 => (Below.refl _ _).alloc (Nat.le_refl _) o0
  have hbt : ∀ o0, Below w.heap.size w (w14.alloc o0) := fun o0 => hb.trans ((bp o0).mono hb.size)
  refine Calls.mono (eqCacheResult_yes cd ru rz ag14b ag3b m kg14b kg3b rs ag14 ag3 nq kg14 kg3 qs _ (rg14b.below (bp _)).read (rg3b.below (bp _)).read (rg14.below (bp _)).read (rg3.below (bp _)).read (by omega) (by omega)) ?_
  rintro e w15 ⟨rfl, hc⟩
  have s15 : w14.heap.size + 1 ≤ w15.heap.size := by have := hc.size; simp at this; omega
  have bq : Below w14.heap.size w14 w15 := (bp _).trans (hc.mono (bp _).size)
  replace caC0 := cell_later bq caC0
  replace caC1 := cell_later bq caC1
  replace caC2 := cell_later bq caC2
  replace zaC := Nat.lt_of_lt_of_le zaC bq.size
  replace cw00 := cell_later bq cw00
  replace cw01 := cell_later bq cw01
  replace cw02 := cell_later bq cw02
  replace cw03 := cell_later bq cw03
  replace cw04 := cell_later bq cw04
  replace zw0 := Nat.lt_of_lt_of_le zw0 bq.size
  replace cx00 := cell_later bq cx00
  replace cx01 := cell_later bq cx01
  replace cx02 := cell_later bq cx02
  replace zx0 := Nat.lt_of_lt_of_le zx0 bq.size
  replace cg00 := cell_later bq cg00
  replace cg01 := cell_later bq cg01
  replace cg02 := cell_later bq cg02
  replace cg03 := cell_later bq cg03
  replace cg04 := cell_later bq cg04
  replace zg0 := Nat.lt_of_lt_of_le zg0 bq.size
  have ch00 : w15.cell? ⟨w14.heap.size, 0, none⟩ = some (.int .i64 cd) := cell_later hc (by simp [go_sem])
  have ch01 : w15.cell? ⟨w14.heap.size, 1, none⟩ = some (.slice ag14b m kg14b) := cell_later hc (by simp [go_sem])
  have ch02 : w15.cell? ⟨w14.heap.size, 2, none⟩ = some (.int .i64 ru) := cell_later hc (by simp [go_sem])
  have ch03 : w15.cell? ⟨w14.heap.size, 3, none⟩ = some (.int .i64 rz) := cell_later hc (by simp [go_sem])
  have ch04 : w15.cell? ⟨w14.heap.size, 4, none⟩ = some (.slice ag14 nq kg14) := cell_later hc (by simp [go_sem])
  have zh0 : w14.heap.size < w15.heap.size := by omega
  replace rg3b := rg3b.below bq
  replace rg3 := rg3.below bq
  replace rt4 := rt4.below bq
  replace rg5b := rg5b.below bq
  replace rg5 := rg5.below bq
  replace rg14b := rg14b.below bq
  replace rg14 := rg14.below bq
  replace hb := hb.trans (bq.mono hb.size)
  clear hc bq bp hbt
  go_wp2_with fail
  refine Calls.mono (heldCacheResult_yes cd ru rz 1 ag5b m kg5b ag5 nq kg5 qs _ rg5b.read rg5.read (by omega) (by omega) (by omega) (by omega)) ?_
  rintro e w16 ⟨rfl, hc⟩
  have s16 : w15.heap.size ≤ w16.heap.size := hc.size
  have bq := hc
  replace caC0 := cell_later bq caC0
  replace caC1 := cell_later bq caC1
  replace caC2 := cell_later bq caC2
  replace zaC := Nat.lt_of_lt_of_le zaC bq.size
  replace cw00 := cell_later bq cw00
  replace cw01 := cell_later bq cw01
  replace cw02 := cell_later bq cw02
  replace cw03 := cell_later bq cw03
  replace cw04 := cell_later bq cw04
  replace zw0 := Nat.lt_of_lt_of_le zw0 bq.size
  replace cx00 := cell_later bq cx00
  replace cx01 := cell_later bq cx01
  replace cx02 := cell_later bq cx02
  replace zx0 := Nat.lt_of_lt_of_le zx0 bq.size
  replace cg00 := cell_later bq cg00
  replace cg01 := cell_later bq cg01
  replace cg02 := cell_later bq cg02
  replace cg03 := cell_later bq cg03
  replace cg04 := cell_later bq cg04
  replace zg0 := Nat.lt_of_lt_of_le zg0 bq.size
  replace ch00 := cell_later bq ch00
  replace ch01 := cell_later bq ch01
  replace ch02 := cell_later bq ch02
  replace ch03 := cell_later bq ch03
  replace ch04 := cell_later bq ch04
  replace zh0 := Nat.lt_of_lt_of_le zh0 bq.size
  replace rg3b := rg3b.below bq
  replace rg3 := rg3.below bq
  replace rt4 := rt4.below bq
  replace rg5b := rg5b.below bq
  replace rg5 := rg5.below bq
  replace rg14b := rg14b.below bq
  replace rg14 := rg14.below bq
  replace hb := hb.trans (bq.mono hb.size)
  clear hc bq
  go_wp2
  go_ret
  exact ⟨rfl, hb⟩

theorem own : ownKnob Try.prog.godebug = none := by kernel_rfl
theorem laidOut : laidOutB Try.prog = true := by kernel_rfl

set_option maxRecDepth 100000 in
theorem lifted (os : Os) (started : os.Started) (H : Type) (enc : TypeId × Value → H) :
    ReturnsInHanded {} Try.checked os 9 .any (Rows.fnExactForgetFromSpec.pre6 enc Try.prog Try.f9 Rows.fnExactForgetFromRow.domain false) (Rows.fnExactForgetFromSpec.post enc Try.prog Try.f9 false true false false) := by
  refine returnsInHanded_of_change (C := Try.checked) own started (by kernel_rfl) Try.func9
    (ChangeSpec.witness6 (enc := enc) (C := Try.checked) false ⟨#[], #[.agg #[.int .i64 0, .int .i64 0, .slice none 0 0], .int .i64 0], []⟩ 8 (by kernel_rfl) (by kernel_rfl) (by kernel_rfl) (by kernel_rfl)) ?_
  intro W base args ds gs before hval0 hW hcnd _
  have hval : ∀ (j : Nat) t v, Try.f9.params[j]? = some t → args[j]? = some v → Value.okWide Try.prog W .any base t v := hval0
  have hW' := hW
  obtain ⟨p, q, hA0, hV, rfl, hfz, hnd⟩ := hW
  have hA : DataW.TrodAll enc Try.prog W 0 (fun _ => true) true Try.f9.params.toList args.toList ds p := hA0
  rw [Try.params9] at hA hval
  obtain ⟨v0, v1, d0, d1, p0, p1, rfl, rfl, rfl, h0, h1⟩ := trodAll_two hA
  obtain ⟨rfl, rfl⟩ := trodVars_none hV
  have k0 := h0
  have lt0 : ∀ x ∈ p0, x.block < W.heap.size := by obtain ⟨m, hm⟩ := k0; exact DataW.trod_lt m _ _ _ hm
  obtain ⟨u0, z0, a0, len0, cap0, x0, rfl, hr0, hB0, hm0⟩ := open_cache (hval 0 53 v0 rfl rfl) h0
  obtain ⟨I1, rfl, rfl, rfl, wI1⟩ := open_int Try.underlying2 (hval 1 2 v1 rfl rfl) h1
  clear hA0 hval0
  refine (walk u0 z0 a0 len0 cap0 x0 I1 W hr0 hB0 hm0).mono fun e W' ⟨he, bel⟩ => ?_
  subst he
  exact ⟨_, rfl, _, _, _, [], _, [], hW', trodAll_mk1 (shut_bool Try.underlying4 _), trodAll_mk2 (Below.trod laidOut (by kernel_rfl) (of_decide_eq_true (by kernel_rfl)) k0 bel lt0) (shut_int Try.underlying2 wI1), rfl, bel.frame _, fun h => by cases h⟩

theorem proved : Rows.FnExactForgetFromSaid :=
  OpenClaim.holds_of_wide 9 Try.f9 rfl rfl rfl rfl rfl rfl rfl ⟨rfl, rfl, rfl, rfl, rfl⟩ rfl rfl rfl rfl rfl (by kernel_rfl) Try.func9 (by kernel_rfl)
    (of_decide_eq_true (by kernel_rfl)) (by unfold Func.isWrapper; first | (rw [if_pos (by decide +kernel)]; kernel_rfl) | (rw [if_neg (by decide +kernel)]; exact ⟨rfl, rfl⟩))
    (fun os started H enc _ => lifted os started H enc)
end Go.Proofs.Ytogmgpnkaanjeaa.fnExactForgetFrom
namespace Go.Proofs.Ytogmgpnkaanjeaa
theorem fnExactForgetFrom_proved : Rows.FnExactForgetFromSaid := fnExactForgetFrom.proved
end Go.Proofs.Ytogmgpnkaanjeaa
