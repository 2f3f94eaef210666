/-
  For every index and file, FnExactIndexTrue returns true: the program's IndexTrue answers as the model and writes into no argument; no condition.
-/
import Derived.Test.YthdglflipeggpaaIndex6
import Derived.Test.YthdglflipeggpaaArgs
import Derived.Test.YthdglflipeggpaaArgsF
import Derived.Test.YthdglflipeggpaaArgsI
import Derived.Test.YthdglflipeggpaaHlpF
import Derived.Test.YthdglflipeggpaaHlpI
import Derived.Test.YthdglflipeggpaaJoin
import Derived.ProofKit
import Derived.OpenShut
import Derived.ChangeOld
import Derived.Below
import Derived.Carry
import Derived.Deep.RegionWith
import Derived.Deep.RegionHeld3
namespace Go.Proofs.Ythdglflipeggpaa.fnExactIndexTrue
open Go.ChangeShapes Go.WideShapes Go.ChangeAt Go.RowKit
set_option linter.unusedVariables false
set_option linter.unusedSimpArgs false

set_option maxRecDepth 10000 in
set_option maxHeartbeats 6400000 in
theorem walk (e0 : Int) (a0 : Option Addr) (n0 ca0 : Nat) (xs0 : List Int) (l0 : Int) (z0 : Int) (a1 : Option Addr) (n1 ca1 : Nat) (xs1 : List Int) (w : World) (hr0 : Rd .i64 w a0 n0 xs0) (hm0 : n0 ≤ maxLen) (hr1 : Rd .u8 w a1 n1 xs1) (hB1 : Bytes xs1) (hm1 : n1 ≤ maxLen) :
    Calls Try.prog 8 #[.agg #[.int .i64 e0, .slice a0 n0 ca0, .int .i64 l0, .int .i64 z0], .agg #[.slice a1 n1 ca1]] w fun e w' => e = .returned (.bool true) ∧ Below w.heap.size w w' := by
  by_cases hn0 : (n0 : Int) ≤ 1048576
  rotate_left
  · go_enter Try.func8, Try.ntmps8
    have hb : Below w.heap.size w w := Below.refl _ _
    go_wp2_with fail
    have bp : ∀ o0 o1, Below w.heap.size w ((w.alloc o0).alloc o1) := fun o0 o1 => ((Below.refl _ _).alloc (Nat.le_refl _) o0).alloc (by simp) o1
    have hbt : ∀ o0 o1, Below w.heap.size w ((w.alloc o0).alloc o1) := fun o0 o1 => hb.trans ((bp o0 o1).mono hb.size)
    refine Calls.mono (szIndex_no e0 a0 n0 ca0 l0 z0 (1048576) _ (by omega) hm0 (by omega) (by omega)) ?_
    rintro e w1 ⟨rfl, hc⟩
    have s1 : w.heap.size + 2 ≤ w1.heap.size := by have := hc.size; simp at this; omega
    have bq : Below w.heap.size w w1 := (bp _ _).trans (hc.mono (bp _ _).size)
    have caX0 : w1.cell? ⟨w.heap.size, 0, none⟩ = some (.int .i64 e0) := cell_later hc (by simp [go_sem])
    have caX1 : w1.cell? ⟨w.heap.size, 1, none⟩ = some (.slice a0 n0 ca0) := cell_later hc (by simp [go_sem])
    have caX2 : w1.cell? ⟨w.heap.size, 2, none⟩ = some (.int .i64 l0) := cell_later hc (by simp [go_sem])
    have caX3 : w1.cell? ⟨w.heap.size, 3, none⟩ = some (.int .i64 z0) := cell_later hc (by simp [go_sem])
    have zaX : w.heap.size < w1.heap.size := by omega
    have caF0 : w1.cell? ⟨w.heap.size + 1, 0, none⟩ = some (.slice a1 n1 ca1) := cell_later hc (by simp [go_sem])
    have zaF : w.heap.size + 1 < w1.heap.size := by omega
    replace hb := hb.trans (bq.mono hb.size)
    clear hc bq bp hbt
    go_wp2
    go_ret
    exact ⟨rfl, hb⟩
  by_cases hn1 : (n1 : Int) ≤ 1048576 - (n0 : Int)
  rotate_left
  · go_enter Try.func8, Try.ntmps8
    have hb : Below w.heap.size w w := Below.refl _ _
    go_wp2_with fail
    have bp : ∀ o0 o1, Below w.heap.size w ((w.alloc o0).alloc o1) := fun o0 o1 => ((Below.refl _ _).alloc (Nat.le_refl _) o0).alloc (by simp) o1
    have hbt : ∀ o0 o1, Below w.heap.size w ((w.alloc o0).alloc o1) := fun o0 o1 => hb.trans ((bp o0 o1).mono hb.size)
    refine Calls.mono (szIndex_yes e0 a0 n0 ca0 l0 z0 (1048576) _ (by omega) (by omega)) ?_
    rintro e w1 ⟨rfl, hc⟩
    have s1 : w.heap.size + 2 ≤ w1.heap.size := by have := hc.size; simp at this; omega
    have bq : Below w.heap.size w w1 := (bp _ _).trans (hc.mono (bp _ _).size)
    have caX0 : w1.cell? ⟨w.heap.size, 0, none⟩ = some (.int .i64 e0) := cell_later hc (by simp [go_sem])
    have caX1 : w1.cell? ⟨w.heap.size, 1, none⟩ = some (.slice a0 n0 ca0) := cell_later hc (by simp [go_sem])
    have caX2 : w1.cell? ⟨w.heap.size, 2, none⟩ = some (.int .i64 l0) := cell_later hc (by simp [go_sem])
    have caX3 : w1.cell? ⟨w.heap.size, 3, none⟩ = some (.int .i64 z0) := cell_later hc (by simp [go_sem])
    have zaX : w.heap.size < w1.heap.size := by omega
    have caF0 : w1.cell? ⟨w.heap.size + 1, 0, none⟩ = some (.slice a1 n1 ca1) := cell_later hc (by simp [go_sem])
    have zaF : w.heap.size + 1 < w1.heap.size := by omega
    replace hb := hb.trans (bq.mono hb.size)
    clear hc bq bp hbt
    have hleft0 : ¬ (1048576 - (n0 : Int) < 0) := by omega
    go_wp2_with fail
    refine Calls.mono (szFile_no a1 n1 ca1 (1048576 - (n0 : Int)) _ (by omega) hm1 (by omega) (by omega)) ?_
    rintro e w2 ⟨rfl, hc⟩
    have s2 : w1.heap.size ≤ w2.heap.size := hc.size
    have bq := hc
    replace caX0 := cell_later bq caX0
    replace caX1 := cell_later bq caX1
    replace caX2 := cell_later bq caX2
    replace caX3 := cell_later bq caX3
    replace zaX := Nat.lt_of_lt_of_le zaX bq.size
    replace caF0 := cell_later bq caF0
    replace zaF := Nat.lt_of_lt_of_le zaF bq.size
    replace hb := hb.trans (bq.mono hb.size)
    clear hc bq
    go_wp2
    go_ret
    exact ⟨rfl, hb⟩
  unfold maxLen at hm0
  unfold maxLen at hm1
  have SC := fun (A0 : Option Addr) (C0 : Nat) (A1 : Option Addr) (C1 : Nat) (W' : World) (H0 : Rd .i64 W' A0 n0 xs0) (J0 : n0 ≤ C0) (M0 : C0 ≤ maxLen) (H1 : Rd .u8 W' A1 n1 xs1) (J1 : n1 ≤ C1) (M1 : C1 ≤ maxLen) => specIndexTrue_any e0 A0 n0 C0 xs0 l0 z0 A1 n1 C1 xs1 W' H0 H1 (by omega) (by omega) J0 M0 J1 M1
  have IC := fun (A0 : Option Addr) (C0 : Nat) (A1 : Option Addr) (C1 : Nat) (W' : World) (H0 : Rd .i64 W' A0 n0 xs0) (J0 : n0 ≤ C0) (M0 : C0 ≤ maxLen) (H1 : Rd .u8 W' A1 n1 xs1) (J1 : n1 ≤ C1) (M1 : C1 ≤ maxLen) => implIndexTrue_any e0 A0 n0 C0 xs0 l0 z0 A1 n1 C1 xs1 W' H0 H1 (by omega) (by omega) J0 M0 J1 M1
  generalize indexTrue e0 xs0 l0 z0 xs1 = cd at *
  have HSC : Hid _ := SC
  have HIC : Hid _ := IC
  clear SC IC
  go_enter Try.func8, Try.ntmps8
  have hb : Below w.heap.size w w := Below.refl _ _
  go_wp2_with fail
  have bp : ∀ o0 o1, Below w.heap.size w ((w.alloc o0).alloc o1) := fun o0 o1 => ((Below.refl _ _).alloc (Nat.le_refl _) o0).alloc (by simp) o1
  have hbt : ∀ o0 o1, Below w.heap.size w ((w.alloc o0).alloc o1) := fun o0 o1 => hb.trans ((bp o0 o1).mono hb.size)
  refine Calls.mono (szIndex_yes e0 a0 n0 ca0 l0 z0 (1048576) _ (by omega) (by omega)) ?_
  rintro e w1 ⟨rfl, hc⟩
  have s1 : w.heap.size + 2 ≤ w1.heap.size := by have := hc.size; simp at this; omega
  have bq : Below w.heap.size w w1 := (bp _ _).trans (hc.mono (bp _ _).size)
  have caX0 : w1.cell? ⟨w.heap.size, 0, none⟩ = some (.int .i64 e0) := cell_later hc (by simp [go_sem])
  have caX1 : w1.cell? ⟨w.heap.size, 1, none⟩ = some (.slice a0 n0 ca0) := cell_later hc (by simp [go_sem])
  have caX2 : w1.cell? ⟨w.heap.size, 2, none⟩ = some (.int .i64 l0) := cell_later hc (by simp [go_sem])
  have caX3 : w1.cell? ⟨w.heap.size, 3, none⟩ = some (.int .i64 z0) := cell_later hc (by simp [go_sem])
  have zaX : w.heap.size < w1.heap.size := by omega
  have caF0 : w1.cell? ⟨w.heap.size + 1, 0, none⟩ = some (.slice a1 n1 ca1) := cell_later hc (by simp [go_sem])
  have zaF : w.heap.size + 1 < w1.heap.size := by omega
  replace hb := hb.trans (bq.mono hb.size)
  clear hc bq bp hbt
  have hleft0 : ¬ (1048576 - (n0 : Int) < 0) := by omega
  go_wp2_with fail
  refine Calls.mono (szFile_yes a1 n1 ca1 (1048576 - (n0 : Int)) _ (by omega) (by omega)) ?_
  rintro e w2 ⟨rfl, hc⟩
  have s2 : w1.heap.size ≤ w2.heap.size := hc.size
  have bq := hc
  replace caX0 := cell_later bq caX0
  replace caX1 := cell_later bq caX1
  replace caX2 := cell_later bq caX2
  replace caX3 := cell_later bq caX3
  replace zaX := Nat.lt_of_lt_of_le zaX bq.size
  replace caF0 := cell_later bq caF0
  replace zaF := Nat.lt_of_lt_of_le zaF bq.size
  replace hb := hb.trans (bq.mono hb.size)
  clear hc bq
  have hleft1 : ¬ (1048576 - (n0 : Int) - (n1 : Int) < 0) := by omega
  go_wp2_with fail
  have bd : Below w2.heap.size w2 w2.drew := (Below.refl _ _).drew
  refine wp_region_held_drew (S := fun w' => w'.cell? ⟨w.heap.size, 0, none⟩ = some (.int .i64 e0) ∧ w'.cell? ⟨w.heap.size, 1, none⟩ = some (.slice a0 n0 ca0) ∧ w'.cell? ⟨w.heap.size, 2, none⟩ = some (.int .i64 l0) ∧ w'.cell? ⟨w.heap.size, 3, none⟩ = some (.int .i64 z0) ∧ w'.cell? ⟨w.heap.size + 1, 0, none⟩ = some (.slice a1 n1 ca1)) (by kernel_rfl) (by exact ⟨caX0, caX1, caX2, caX3, caF0⟩) (fun hS => ?_)
  refine wpAnyH_take (i := 0) (v := (.agg #[.int .i64 e0, .slice a0 n0 ca0, .int .i64 l0, .int .i64 z0])) rfl (by kernel_rfl) (by kernel_rfl) (by kernel_rfl) (fun _ _ _ h => h) (Or.inl ⟨by kernel_rfl, ?_⟩) hS ?_
  · intro w hSw; (try dsimp only at hSw); go_simp
  simp only [Act.put, List.getElem_toArray, List.getElem_cons_zero, List.getElem_cons_succ, List.setIfInBounds_toArray, List.set_cons_zero, List.set_cons_succ]
  refine wpAnyH_take (i := 2) (v := (.agg #[.slice a1 n1 ca1])) rfl (by kernel_rfl) (by kernel_rfl) (by kernel_rfl) (fun _ _ _ h => h) (Or.inl ⟨by kernel_rfl, ?_⟩) hS ?_
  · intro w hSw; (try dsimp only at hSw); go_simp
  simp only [Act.put, List.getElem_toArray, List.getElem_cons_zero, List.getElem_cons_succ, List.setIfInBounds_toArray, List.set_cons_zero, List.set_cons_succ]
  refine wpAnyH_ready (rs := [1]) (by kernel_rfl) (by simp) ?_
  refine AllReadyH.cons rfl (fun K hK => ?_) AllReadyH.nil
  go_simp
  refine Calls.mono (toIndex_any e0 a0 n0 ca0 xs0 l0 z0 _ (hr0.below hb.drew) (by omega)) ?_
  rintro e w3 ⟨vt3, rfl, rt3, hc0⟩
  obtain ⟨at3, kt3, rfl, q1, q2⟩ := rt3.shape
  have Kt3 : Hid _ := And.intro q1 q2
  clear q1 q2
  replace rt3 := RowI.mono (lo' := w2.heap.size) rt3 (Nat.le_refl _) (Nat.le_refl _)
  refine hK.out _ _ ⟨cell_later hc0 hS.1, cell_later hc0 hS.2.1, cell_later hc0 hS.2.2.1, cell_later hc0 hS.2.2.2.1, cell_later hc0 hS.2.2.2.2⟩ (fun hS => ?_)
  clear hK K
  have hc : Below w2.heap.size w2 w3 := bd.trans (hc0.mono (Nat.le_refl _))
  clear hc0 bd
  have s3 : w2.heap.size ≤ w3.heap.size := hc.size
  have bq := hc
  replace caX0 := cell_later bq caX0
  replace caX1 := cell_later bq caX1
  replace caX2 := cell_later bq caX2
  replace caX3 := cell_later bq caX3
  replace zaX := Nat.lt_of_lt_of_le zaX bq.size
  replace caF0 := cell_later bq caF0
  replace zaF := Nat.lt_of_lt_of_le zaF bq.size
  replace hb := hb.trans (bq.mono hb.size)
  clear hc bq
  refine wpAnyH_ready (rs := [3]) (by kernel_rfl) (by simp) ?_
  refine AllReadyH.cons rfl (fun K hK => ?_) AllReadyH.nil
  go_simp
  refine Calls.mono (toFile_any a1 n1 ca1 xs1 _ (hr1.below hb) (by omega)) ?_
  rintro e w4 ⟨vt4, rfl, rt4, hc0⟩
  obtain ⟨at4, kt4, rfl, q1, q2⟩ := rt4.shape
  have Kt4 : Hid _ := And.intro q1 q2
  clear q1 q2
  replace rt4 := RowI.mono (lo' := w3.heap.size) rt4 (Nat.le_refl _) (Nat.le_refl _)
  refine hK.out _ _ ⟨cell_later hc0 hS.1, cell_later hc0 hS.2.1, cell_later hc0 hS.2.2.1, cell_later hc0 hS.2.2.2.1, cell_later hc0 hS.2.2.2.2⟩ (fun hS => ?_)
  clear hK K
  have hc := hc0
  clear hc0
  have s4 : w3.heap.size ≤ w4.heap.size := hc.size
  have bq := hc
  replace caX0 := cell_later bq caX0
  replace caX1 := cell_later bq caX1
  replace caX2 := cell_later bq caX2
  replace caX3 := cell_later bq caX3
  replace zaX := Nat.lt_of_lt_of_le zaX bq.size
  replace caF0 := cell_later bq caF0
  replace zaF := Nat.lt_of_lt_of_le zaF bq.size
  replace rt3 := rt3.below bq
  replace hb := hb.trans (bq.mono hb.size)
  clear hc bq
  refine wpAnyH_ready (rs := [4]) (by kernel_rfl) (by simp) ?_
  refine AllReadyH.cons rfl (fun K hK => ?_) AllReadyH.nil
  go_simp
  refine Calls.mono (HSC.out at3 kt3 at4 kt4 _ rt3.read Kt3.out.1 Kt3.out.2 rt4.read Kt4.out.1 Kt4.out.2) ?_
  rintro e w5 ⟨rfl, hc⟩
  have hc0 := hc
  refine hK.out _ _ ⟨cell_later hc0 hS.1, cell_later hc0 hS.2.1, cell_later hc0 hS.2.2.1, cell_later hc0 hS.2.2.2.1, cell_later hc0 hS.2.2.2.2⟩ (fun hS => ?_)
  clear hK K hc0
  have s5 : w4.heap.size ≤ w5.heap.size := hc.size
  have bq := hc
  replace caX0 := cell_later bq caX0
  replace caX1 := cell_later bq caX1
  replace caX2 := cell_later bq caX2
  replace caX3 := cell_later bq caX3
  replace zaX := Nat.lt_of_lt_of_le zaX bq.size
  replace caF0 := cell_later bq caF0
  replace zaF := Nat.lt_of_lt_of_le zaF bq.size
  replace rt3 := rt3.below bq
  replace rt4 := rt4.below bq
  replace hb := hb.trans (bq.mono hb.size)
  clear hc bq
  clear rt3 Kt3
  clear rt4 Kt4
  refine wpAnyH_take (i := 5) (v := (.bool cd)) rfl (by kernel_rfl) (by kernel_rfl) (by kernel_rfl) (fun _ _ _ h => h) (Or.inl ⟨by kernel_rfl, ?_⟩) hS ?_
  · intro w hSw; (try dsimp only at hSw); go_simp
  simp only [Act.put, List.getElem_toArray, List.getElem_cons_zero, List.getElem_cons_succ, List.setIfInBounds_toArray, List.set_cons_zero, List.set_cons_succ]
  refine wpAnyH_done (by kernel_rfl) ?_ _
  clear hS
  go_wp2_with fail
  refine Calls.mono (toIndex_any e0 a0 n0 ca0 xs0 l0 z0 _ (hr0.below hb) (by omega)) ?_
  rintro e w6 ⟨vt6, rfl, rt6, hc⟩
  obtain ⟨at6, kt6, rfl, q1, q2⟩ := rt6.shape
  have Kt6 : Hid _ := And.intro q1 q2
  clear q1 q2
  have s6 : w5.heap.size ≤ w6.heap.size := hc.size
  have bq := hc
  replace caX0 := cell_later bq caX0
  replace caX1 := cell_later bq caX1
  replace caX2 := cell_later bq caX2
  replace caX3 := cell_later bq caX3
  replace zaX := Nat.lt_of_lt_of_le zaX bq.size
  replace caF0 := cell_later bq caF0
  replace zaF := Nat.lt_of_lt_of_le zaF bq.size
  replace hb := hb.trans (bq.mono hb.size)
  clear hc bq
  go_wp2_with fail
  have bp : ∀ o0, Below w6.heap.size w6 (w6.alloc o0) := fun o0 => (Below.refl _ _).alloc (Nat.le_refl _) o0
  have hbt : ∀ o0, Below w.heap.size w (w6.alloc o0) := fun o0 => hb.trans ((bp o0).mono hb.size)
  refine Calls.mono (toFile_any a1 n1 ca1 xs1 _ (hr1.below (hbt _)) (by omega)) ?_
  rintro e w7 ⟨vt7, rfl, rt7, hc⟩
  obtain ⟨at7, kt7, rfl, q1, q2⟩ := rt7.shape
  have Kt7 : Hid _ := And.intro q1 q2
  clear q1 q2
  replace rt7 := RowI.mono (lo' := w6.heap.size + 1) rt7 (by simp) (Nat.le_refl _)
  have s7 : w6.heap.size + 1 ≤ w7.heap.size := by have := hc.size; simp at this; omega
  have bq : Below w6.heap.size w6 w7 := (bp _).trans (hc.mono (bp _).size)
  replace caX0 := cell_later bq caX0
  replace caX1 := cell_later bq caX1
  replace caX2 := cell_later bq caX2
  replace caX3 := cell_later bq caX3
  replace zaX := Nat.lt_of_lt_of_le zaX bq.size
  replace caF0 := cell_later bq caF0
  replace zaF := Nat.lt_of_lt_of_le zaF bq.size
  have cx00 : w7.cell? ⟨w6.heap.size, 0, none⟩ = some (.int .i64 e0) := cell_later hc (by simp [go_sem])
  have cx01 : w7.cell? ⟨w6.heap.size, 1, none⟩ = some (.slice at6 n0 kt6) := cell_later hc (by simp [go_sem])
  have cx02 : w7.cell? ⟨w6.heap.size, 2, none⟩ = some (.int .i64 l0) := cell_later hc (by simp [go_sem])
  have cx03 : w7.cell? ⟨w6.heap.size, 3, none⟩ = some (.int .i64 z0) := cell_later hc (by simp [go_sem])
  have zx0 : w6.heap.size < w7.heap.size := by omega
  replace rt6 := rt6.below bq
  replace hb := hb.trans (bq.mono hb.size)
  clear hc bq bp hbt
  go_wp2_with fail
  have bp : ∀ o0, Below w7.heap.size w7 (w7.alloc o0) := fun o0 => (Below.refl _ _).alloc (Nat.le_refl _) o0
  have hbt : ∀ o0, Below w.heap.size w (w7.alloc o0) := fun o0 => hb.trans ((bp o0).mono hb.size)
  refine Calls.mono (HIC.out at6 kt6 at7 kt7 _ (rt6.below (bp _)).read Kt6.out.1 Kt6.out.2 (rt7.below (bp _)).read Kt7.out.1 Kt7.out.2) ?_
  rintro e w8 ⟨rfl, hc⟩
  have s8 : w7.heap.size + 1 ≤ w8.heap.size := by have := hc.size; simp at this; omega
  have bq : Below w7.heap.size w7 w8 := (bp _).trans (hc.mono (bp _).size)
  replace caX0 := cell_later bq caX0
  replace caX1 := cell_later bq caX1
  replace caX2 := cell_later bq caX2
  replace caX3 := cell_later bq caX3
  replace zaX := Nat.lt_of_lt_of_le zaX bq.size
  replace caF0 := cell_later bq caF0
  replace zaF := Nat.lt_of_lt_of_le zaF bq.size
  replace cx00 := cell_later bq cx00
  replace cx01 := cell_later bq cx01
  replace cx02 := cell_later bq cx02
  replace cx03 := cell_later bq cx03
  replace zx0 := Nat.lt_of_lt_of_le zx0 bq.size
  have cx10 : w8.cell? ⟨w7.heap.size, 0, none⟩ = some (.slice at7 n1 kt7) := cell_later hc (by simp [go_sem])
  have zx1 : w7.heap.size < w8.heap.size := by omega
  replace rt6 := rt6.below bq
  replace rt7 := rt7.below bq
  replace hb := hb.trans (bq.mono hb.size)
  clear hc bq bp hbt
  go_wp2_with fail
  have bd : Below w8.heap.size w8 w8.drew := (Below.refl _ _).drew
  refine wp_region_held_drew (S := fun w' => w'.cell? ⟨w6.heap.size, 0, none⟩ = some (.int .i64 e0) ∧ w'.cell? ⟨w6.heap.size, 1, none⟩ = some (.slice at6 n0 kt6) ∧ w'.cell? ⟨w6.heap.size, 2, none⟩ = some (.int .i64 l0) ∧ w'.cell? ⟨w6.heap.size, 3, none⟩ = some (.int .i64 z0) ∧ w'.cell? ⟨w.heap.size, 0, none⟩ = some (.int .i64 e0) ∧ w'.cell? ⟨w.heap.size, 1, none⟩ = some (.slice a0 n0 ca0) ∧ w'.cell? ⟨w.heap.size, 2, none⟩ = some (.int .i64 l0) ∧ w'.cell? ⟨w.heap.size, 3, none⟩ = some (.int .i64 z0)) (by kernel_rfl) (by exact ⟨cx00, cx01, cx02, cx03, caX0, caX1, caX2, caX3⟩) (fun hS => ?_)
  refine wpAnyH_take (i := 0) (v := (.agg #[.int .i64 e0, .slice at6 n0 kt6, .int .i64 l0, .int .i64 z0])) rfl (by kernel_rfl) (by kernel_rfl) (by kernel_rfl) (fun _ _ _ h => h) (Or.inl ⟨by kernel_rfl, ?_⟩) hS ?_
  · intro w hSw; (try dsimp only at hSw); go_simp
  simp only [Act.put, List.getElem_toArray, List.getElem_cons_zero, List.getElem_cons_succ, List.setIfInBounds_toArray, List.set_cons_zero, List.set_cons_succ]
  refine wpAnyH_take (i := 1) (v := (.agg #[.int .i64 e0, .slice a0 n0 ca0, .int .i64 l0, .int .i64 z0])) rfl (by kernel_rfl) (by kernel_rfl) (by kernel_rfl) (fun _ _ _ h => h) (Or.inl ⟨by kernel_rfl, ?_⟩) hS ?_
  · intro w hSw; (try dsimp only at hSw); go_simp
  simp only [Act.put, List.getElem_toArray, List.getElem_cons_zero, List.getElem_cons_succ, List.setIfInBounds_toArray, List.set_cons_zero, List.set_cons_succ]
  refine wpAnyH_ready (rs := [2]) (by kernel_rfl) (by simp) ?_
  refine AllReadyH.cons rfl (fun K hK => ?_) AllReadyH.nil
  go_simp
  refine Calls.mono (toIndex_any e0 a0 n0 ca0 xs0 l0 z0 _ (hr0.below hb.drew) (by omega)) ?_
  rintro e w9 ⟨vt9, rfl, rt9, hc0⟩
  obtain ⟨at9, kt9, rfl, q1, q2⟩ := rt9.shape
  have Kt9 : Hid _ := And.intro q1 q2
  clear q1 q2
  replace rt9 := RowI.mono (lo' := w8.heap.size) rt9 (Nat.le_refl _) (Nat.le_refl _)
  refine hK.out _ _ ⟨cell_later hc0 hS.1, cell_later hc0 hS.2.1, cell_later hc0 hS.2.2.1, cell_later hc0 hS.2.2.2.1, cell_later hc0 hS.2.2.2.2.1, cell_later hc0 hS.2.2.2.2.2.1, cell_later hc0 hS.2.2.2.2.2.2.1, cell_later hc0 hS.2.2.2.2.2.2.2⟩ (fun hS => ?_)
  clear hK K
  have hc : Below w8.heap.size w8 w9 := bd.trans (hc0.mono (Nat.le_refl _))
  clear hc0 bd
  have s9 : w8.heap.size ≤ w9.heap.size := hc.size
  have bq := hc
  replace caX0 := cell_later bq caX0
  replace caX1 := cell_later bq caX1
  replace caX2 := cell_later bq caX2
  replace caX3 := cell_later bq caX3
  replace zaX := Nat.lt_of_lt_of_le zaX bq.size
  replace caF0 := cell_later bq caF0
  replace zaF := Nat.lt_of_lt_of_le zaF bq.size
  replace cx00 := cell_later bq cx00
  replace cx01 := cell_later bq cx01
  replace cx02 := cell_later bq cx02
  replace cx03 := cell_later bq cx03
  replace zx0 := Nat.lt_of_lt_of_le zx0 bq.size
  replace cx10 := cell_later bq cx10
  replace zx1 := Nat.lt_of_lt_of_le zx1 bq.size
  replace rt6 := rt6.below bq
  replace rt7 := rt7.below bq
  replace hb := hb.trans (bq.mono hb.size)
  clear hc bq
  refine wpAnyH_ready (rs := [3]) (by kernel_rfl) (by simp) ?_
  refine AllReadyH.cons rfl (fun K hK => ?_) AllReadyH.nil
  go_simp
  refine Calls.mono (eqIndex_yes e0 at6 at9 n0 kt6 kt9 xs0 l0 z0 _ rt6.read rt9.read (by first | omega | (unfold maxLen; omega))) ?_
  rintro e w10 ⟨rfl, hc0⟩
  refine hK.out _ _ ⟨cell_later hc0 hS.1, cell_later hc0 hS.2.1, cell_later hc0 hS.2.2.1, cell_later hc0 hS.2.2.2.1, cell_later hc0 hS.2.2.2.2.1, cell_later hc0 hS.2.2.2.2.2.1, cell_later hc0 hS.2.2.2.2.2.2.1, cell_later hc0 hS.2.2.2.2.2.2.2⟩ (fun hS => ?_)
  clear hK K
  have hc := hc0
  clear hc0
  have s10 : w9.heap.size ≤ w10.heap.size := hc.size
  have bq := hc
  replace caX0 := cell_later bq caX0
  replace caX1 := cell_later bq caX1
  replace caX2 := cell_later bq caX2
  replace caX3 := cell_later bq caX3
  replace zaX := Nat.lt_of_lt_of_le zaX bq.size
  replace caF0 := cell_later bq caF0
  replace zaF := Nat.lt_of_lt_of_le zaF bq.size
  replace cx00 := cell_later bq cx00
  replace cx01 := cell_later bq cx01
  replace cx02 := cell_later bq cx02
  replace cx03 := cell_later bq cx03
  replace zx0 := Nat.lt_of_lt_of_le zx0 bq.size
  replace cx10 := cell_later bq cx10
  replace zx1 := Nat.lt_of_lt_of_le zx1 bq.size
  replace rt6 := rt6.below bq
  replace rt7 := rt7.below bq
  replace rt9 := rt9.below bq
  replace hb := hb.trans (bq.mono hb.size)
  clear hc bq
  clear rt9 Kt9
  refine wpAnyH_take (i := 4) (v := (.bool false)) rfl (by kernel_rfl) (by kernel_rfl) (by kernel_rfl) (fun _ _ _ h => h) (Or.inl ⟨by kernel_rfl, ?_⟩) hS ?_
  · intro w hSw; (try dsimp only at hSw); go_simp
  simp only [Act.put, List.getElem_toArray, List.getElem_cons_zero, List.getElem_cons_succ, List.setIfInBounds_toArray, List.set_cons_zero, List.set_cons_succ]
  refine wpAnyH_done (by kernel_rfl) ?_ _
  clear hS
  go_wp2_with fail
  have bd : Below w10.heap.size w10 w10.drew := (Below.refl _ _).drew
  refine wp_region_held_drew (S := fun w' => w'.cell? ⟨w7.heap.size, 0, none⟩ = some (.slice at7 n1 kt7) ∧ w'.cell? ⟨w.heap.size + 1, 0, none⟩ = some (.slice a1 n1 ca1)) (by kernel_rfl) (by exact ⟨cx10, caF0⟩) (fun hS => ?_)
  refine wpAnyH_take (i := 0) (v := (.agg #[.slice at7 n1 kt7])) rfl (by kernel_rfl) (by kernel_rfl) (by kernel_rfl) (fun _ _ _ h => h) (Or.inl ⟨by kernel_rfl, ?_⟩) hS ?_
  · intro w hSw; (try dsimp only at hSw); go_simp
  simp only [Act.put, List.getElem_toArray, List.getElem_cons_zero, List.getElem_cons_succ, List.setIfInBounds_toArray, List.set_cons_zero, List.set_cons_succ]
  refine wpAnyH_take (i := 1) (v := (.agg #[.slice a1 n1 ca1])) rfl (by kernel_rfl) (by kernel_rfl) (by kernel_rfl) (fun _ _ _ h => h) (Or.inl ⟨by kernel_rfl, ?_⟩) hS ?_
  · intro w hSw; (try dsimp only at hSw); go_simp
  simp only [Act.put, List.getElem_toArray, List.getElem_cons_zero, List.getElem_cons_succ, List.setIfInBounds_toArray, List.set_cons_zero, List.set_cons_succ]
  refine wpAnyH_ready (rs := [2]) (by kernel_rfl) (by simp) ?_
  refine AllReadyH.cons rfl (fun K hK => ?_) AllReadyH.nil
  go_simp
  refine Calls.mono (toFile_any a1 n1 ca1 xs1 _ (hr1.below hb.drew) (by omega)) ?_
  rintro e w11 ⟨vt11, rfl, rt11, hc0⟩
  obtain ⟨at11, kt11, rfl, q1, q2⟩ := rt11.shape
  have Kt11 : Hid _ := And.intro q1 q2
  clear q1 q2
  replace rt11 := RowI.mono (lo' := w10.heap.size) rt11 (Nat.le_refl _) (Nat.le_refl _)
  refine hK.out _ _ ⟨cell_later hc0 hS.1, cell_later hc0 hS.2⟩ (fun hS => ?_)
  clear hK K
  have hc : Below w10.heap.size w10 w11 := bd.trans (hc0.mono (Nat.le_refl _))
  clear hc0 bd
  have s11 : w10.heap.size ≤ w11.heap.size := hc.size
  have bq := hc
  replace caX0 := cell_later bq caX0
  replace caX1 := cell_later bq caX1
  replace caX2 := cell_later bq caX2
  replace caX3 := cell_later bq caX3
  replace zaX := Nat.lt_of_lt_of_le zaX bq.size
  replace caF0 := cell_later bq caF0
  replace zaF := Nat.lt_of_lt_of_le zaF bq.size
  replace cx00 := cell_later bq cx00
  replace cx01 := cell_later bq cx01
  replace cx02 := cell_later bq cx02
  replace cx03 := cell_later bq cx03
  replace zx0 := Nat.lt_of_lt_of_le zx0 bq.size
  replace cx10 := cell_later bq cx10
  replace zx1 := Nat.lt_of_lt_of_le zx1 bq.size
  replace rt6 := rt6.below bq
  replace rt7 := rt7.below bq
  replace hb := hb.trans (bq.mono hb.size)
  clear hc bq
  refine wpAnyH_ready (rs := [3]) (by kernel_rfl) (by simp) ?_
  refine AllReadyH.cons rfl (fun K hK => ?_) AllReadyH.nil
  go_simp
  refine Calls.mono (eqFile_yes at7 at11 n1 kt7 kt11 xs1 _ rt7.read rt11.read (by first | omega | (unfold maxLen; omega))) ?_
  rintro e w12 ⟨rfl, hc0⟩
  refine hK.out _ _ ⟨cell_later hc0 hS.1, cell_later hc0 hS.2⟩ (fun hS => ?_)
  clear hK K
  have hc := hc0
  clear hc0
  have s12 : w11.heap.size ≤ w12.heap.size := hc.size
  have bq := hc
  replace caX0 := cell_later bq caX0
  replace caX1 := cell_later bq caX1
  replace caX2 := cell_later bq caX2
  replace caX3 := cell_later bq caX3
  replace zaX := Nat.lt_of_lt_of_le zaX bq.size
  replace caF0 := cell_later bq caF0
  replace zaF := Nat.lt_of_lt_of_le zaF bq.size
  replace cx00 := cell_later bq cx00
  replace cx01 := cell_later bq cx01
  replace cx02 := cell_later bq cx02
  replace cx03 := cell_later bq cx03
  replace zx0 := Nat.lt_of_lt_of_le zx0 bq.size
  replace cx10 := cell_later bq cx10
  replace zx1 := Nat.lt_of_lt_of_le zx1 bq.size
  replace rt6 := rt6.below bq
  replace rt7 := rt7.below bq
  replace rt11 := rt11.below bq
  replace hb := hb.trans (bq.mono hb.size)
  clear hc bq
  clear rt11 Kt11
  refine wpAnyH_take (i := 4) (v := (.bool false)) rfl (by kernel_rfl) (by kernel_rfl) (by kernel_rfl) (fun _ _ _ h => h) (Or.inl ⟨by kernel_rfl, ?_⟩) hS ?_
  · intro w hSw; (try dsimp only at hSw); go_simp
  simp only [Act.put, List.getElem_toArray, List.getElem_cons_zero, List.getElem_cons_succ, List.setIfInBounds_toArray, List.set_cons_zero, List.set_cons_succ]
  refine wpAnyH_done (by kernel_rfl) ?_ _
  clear hS
  go_wp2
  go_ret
  exact ⟨rfl, hb⟩

theorem own : ownKnob Try.prog.godebug = none := by kernel_rfl
theorem laidOut : laidOutB Try.prog = true := by kernel_rfl

set_option maxRecDepth 100000 in
theorem lifted (os : Os) (started : os.Started) (H : Type) (enc : TypeId × Value → H) :
    ReturnsInHanded {} Try.checked os 8 .any (Rows.fnExactIndexTrueSpec.pre6 enc Try.prog Try.f8 Rows.fnExactIndexTrueRow.domain false) (Rows.fnExactIndexTrueSpec.post enc Try.prog Try.f8 false true false false) := by
  refine returnsInHanded_of_change (C := Try.checked) own started (by kernel_rfl) Try.func8
    (ChangeSpec.witness6 (enc := enc) (C := Try.checked) false ⟨#[], #[.agg #[.int .i64 0, .slice none 0 0, .int .i64 0, .int .i64 0], .agg #[.slice none 0 0]], []⟩ 8 (by kernel_rfl) (by kernel_rfl) (by kernel_rfl) (by kernel_rfl)) ?_
  intro W base args ds gs before hval0 hW hcnd _
  have hval : ∀ (j : Nat) t v, Try.f8.params[j]? = some t → args[j]? = some v → Value.okWide Try.prog W .any base t v := hval0
  have hW' := hW
  obtain ⟨p, q, hA0, hV, rfl, hfz, hnd⟩ := hW
  have hA : DataW.TrodAll enc Try.prog W 0 (fun _ => true) true Try.f8.params.toList args.toList ds p := hA0
  rw [Try.params8] at hA hval
  obtain ⟨v0, v1, d0, d1, p0, p1, rfl, rfl, rfl, h0, h1⟩ := trodAll_two hA
  obtain ⟨rfl, rfl⟩ := trodVars_none hV
  have k0 := h0
  have lt0 : ∀ x ∈ p0, x.block < W.heap.size := by obtain ⟨m, hm⟩ := k0; exact DataW.trod_lt m _ _ _ hm
  obtain ⟨e0, a0, len0, cap0, x0, l0, z0, rfl, hr0, hm0⟩ := open_index (hval 0 44 v0 rfl rfl) h0
  have k1 := h1
  have lt1 : ∀ x ∈ p1, x.block < W.heap.size := by obtain ⟨m, hm⟩ := k1; exact DataW.trod_lt m _ _ _ hm
  obtain ⟨a1, len1, cap1, x1, rfl, hr1, hB1, hm1⟩ := open_file (hval 1 52 v1 rfl rfl) h1
  clear hA0 hval0
  refine (walk e0 a0 len0 cap0 x0 l0 z0 a1 len1 cap1 x1 W hr0 hm0 hr1 hB1 hm1).mono fun e W' ⟨he, bel⟩ => ?_
  subst he
  exact ⟨_, rfl, _, _, _, [], _, [], hW', trodAll_mk1 (shut_bool Try.underlying4 _), trodAll_mk2 (Below.trod laidOut (by kernel_rfl) (of_decide_eq_true (by kernel_rfl)) k0 bel lt0) (Below.trod laidOut (by kernel_rfl) (of_decide_eq_true (by kernel_rfl)) k1 bel lt1), rfl, bel.frame _, fun h => by cases h⟩

theorem proved : Rows.FnExactIndexTrueSaid :=
  OpenClaim.holds_of_wide 8 Try.f8 rfl rfl rfl rfl rfl rfl rfl ⟨rfl, rfl, rfl, rfl, rfl⟩ rfl rfl rfl rfl rfl (by kernel_rfl) Try.func8 (by kernel_rfl)
    (of_decide_eq_true (by kernel_rfl)) (by unfold Func.isWrapper; first | (rw [if_pos (by decide +kernel)]; kernel_rfl) | (rw [if_neg (by decide +kernel)]; exact ⟨rfl, rfl⟩))
    (fun os started H enc _ => lifted os started H enc)
end Go.Proofs.Ythdglflipeggpaa.fnExactIndexTrue
namespace Go.Proofs.Ythdglflipeggpaa
theorem fnExactIndexTrue_proved : Rows.FnExactIndexTrueSaid := fnExactIndexTrue.proved
end Go.Proofs.Ythdglflipeggpaa
