/-
  For every file, layout and spot, FnExactSpotFault returns true: the program's SpotFault answers as the model and writes into no argument; no condition.
-/
import Derived.Test.YtjgmkcmlkffjlaaRow9
import Derived.Test.YtjgmkcmlkffjlaaArgsL
import Derived.Test.YtjgmkcmlkffjlaaHlpO
import Derived.Test.YtjgmkcmlkffjlaaHlpF
import Derived.Test.YtjgmkcmlkffjlaaJoin
import Derived.ProofKit
import Derived.OpenShut
import Derived.ChangeOld
import Derived.Below
import Derived.Carry
import Derived.Deep.RegionWith
import Derived.Deep.RegionHeld3
namespace Go.Proofs.Ytjgmkcmlkffjlaa.fnExactSpotFault
open Go.ChangeShapes Go.WideShapes Go.ChangeAt Go.RowKit
set_option linter.unusedVariables false
set_option linter.unusedSimpArgs false

set_option maxRecDepth 10000 in
set_option maxHeartbeats 6400000 in
theorem walk (ap0 : Option Addr) (n0 kp0 : Nat) (xs0 : List Int) (W1 : Int) (C1 : Bool) (S1 : Int) (L2 : Int) (R2 : Int) (w : World) (hr0 : Rd .u8 w ap0 n0 xs0) (hB0 : Bytes xs0) (hm0 : n0 ≤ maxLen) (hIW1 : inI64 W1) (hIS1 : inI64 S1) (hIL2 : inI64 L2) (hIR2 : inI64 R2) :
    Calls Try.prog 4 #[.agg #[.slice ap0 n0 kp0], .agg #[.int .i64 W1, .bool C1, .int .i64 S1], .agg #[.int .i64 L2, .int .i64 R2]] w fun e w' => e = .returned (.bool true) ∧ Below w.heap.size w w' := by
  unfold maxLen at hm0
  by_cases hn0 : (n0 : Int) ≤ 1048576
  case neg =>
    go_enter Try.func4, Try.ntmps4
    have hb : Below w.heap.size w w := Below.refl _ _
    go_wp2_with fail
    have bp : ∀ o0 o1 o2, Below w.heap.size w (((w.alloc o0).alloc o1).alloc o2) := fun o0 o1 o2 => (((Below.refl _ _).alloc (Nat.le_refl _) o0).alloc (by simp) o1).alloc (by simp; omega) o2
    have hbt : ∀ o0 o1 o2, Below w.heap.size w (((w.alloc o0).alloc o1).alloc o2) := fun o0 o1 o2 => hb.trans ((bp o0 o1 o2).mono hb.size)
    refine Calls.mono (szFile_no ap0 n0 kp0 1048576 _ (by omega) (by unfold maxLen; omega) (by omega) (by omega)) ?_
    rintro e w1 ⟨rfl, hc⟩
    have s1 : w.heap.size + 3 ≤ w1.heap.size := by have := hc.size; simp at this; omega
    have bq : Below w.heap.size w w1 := (bp _ _ _).trans (hc.mono (bp _ _ _).size)
    have cb30 : w1.cell? ⟨w.heap.size, 0, none⟩ = some (.slice ap0 n0 kp0) := cell_later hc (by simp [go_sem])
    have zb3 : w.heap.size < w1.heap.size := by omega
    have cb40 : w1.cell? ⟨w.heap.size + 1, 0, none⟩ = some (.int .i64 W1) := cell_later hc (by simp [go_sem])
    have cb41 : w1.cell? ⟨w.heap.size + 1, 1, none⟩ = some (.bool C1) := cell_later hc (by simp [go_sem])
    have cb42 : w1.cell? ⟨w.heap.size + 1, 2, none⟩ = some (.int .i64 S1) := cell_later hc (by simp [go_sem])
    have zb4 : w.heap.size + 1 < w1.heap.size := by omega
    have cb50 : w1.cell? ⟨w.heap.size + 1 + 1, 0, none⟩ = some (.int .i64 L2) := cell_later hc (by simp [go_sem])
    have cb51 : w1.cell? ⟨w.heap.size + 1 + 1, 1, none⟩ = some (.int .i64 R2) := cell_later hc (by simp [go_sem])
    have zb5 : w.heap.size + 1 + 1 < w1.heap.size := by omega
    replace hb := hb.trans (bq.mono hb.size)
    clear hc bq bp hbt
    go_wp2
    go_ret
    exact ⟨rfl, hb⟩
  have hLR : i64Sp (L2, R2) := ⟨⟨hIL2.1, by have := hIL2.2; omega⟩, hIR2.1, by have := hIR2.2; omega⟩
  have SC := fun (A0 : Option Addr) (C0 : Nat) (W' : World) (H0 : Rd .u8 W' A0 n0 xs0) (J0 : n0 ≤ C0) (M0 : C0 ≤ maxLen) => specSpotFault_any A0 n0 C0 xs0 W1 S1 L2 R2 C1 W' H0 hB0 (by omega) J0 M0
  have IC := fun (A0 : Option Addr) (C0 : Nat) (W' : World) (H0 : Rd .u8 W' A0 n0 xs0) (J0 : n0 ≤ C0) (M0 : C0 ≤ maxLen) => implSpotFault_any A0 n0 C0 xs0 W1 S1 L2 R2 C1 hLR W' H0 hB0 (by omega) J0 M0
  generalize spotF xs0 W1 C1 S1 L2 R2 = p0 at *
  have HSC : Hid _ := SC
  have HIC : Hid _ := IC
  clear SC IC
  go_enter Try.func4, Try.ntmps4
  have hb : Below w.heap.size w w := Below.refl _ _
  go_wp2_with fail
  have bp : ∀ o0 o1 o2, Below w.heap.size w (((w.alloc o0).alloc o1).alloc o2) := fun o0 o1 o2 => (((Below.refl _ _).alloc (Nat.le_refl _) o0).alloc (by simp) o1).alloc (by simp; omega) o2
  have hbt : ∀ o0 o1 o2, Below w.heap.size w (((w.alloc o0).alloc o1).alloc o2) := fun o0 o1 o2 => hb.trans ((bp o0 o1 o2).mono hb.size)
  refine Calls.mono (szFile_yes ap0 n0 kp0 1048576 _ (by omega) (by omega)) ?_
  rintro e w1 ⟨rfl, hc⟩
  have s1 : w.heap.size + 3 ≤ w1.heap.size := by have := hc.size; simp at this; omega
  have bq : Below w.heap.size w w1 := (bp _ _ _).trans (hc.mono (bp _ _ _).size)
  have cb30 : w1.cell? ⟨w.heap.size, 0, none⟩ = some (.slice ap0 n0 kp0) := cell_later hc (by simp [go_sem])
  have zb3 : w.heap.size < w1.heap.size := by omega
  have cb40 : w1.cell? ⟨w.heap.size + 1, 0, none⟩ = some (.int .i64 W1) := cell_later hc (by simp [go_sem])
  have cb41 : w1.cell? ⟨w.heap.size + 1, 1, none⟩ = some (.bool C1) := cell_later hc (by simp [go_sem])
  have cb42 : w1.cell? ⟨w.heap.size + 1, 2, none⟩ = some (.int .i64 S1) := cell_later hc (by simp [go_sem])
  have zb4 : w.heap.size + 1 < w1.heap.size := by omega
  have cb50 : w1.cell? ⟨w.heap.size + 1 + 1, 0, none⟩ = some (.int .i64 L2) := cell_later hc (by simp [go_sem])
  have cb51 : w1.cell? ⟨w.heap.size + 1 + 1, 1, none⟩ = some (.int .i64 R2) := cell_later hc (by simp [go_sem])
  have zb5 : w.heap.size + 1 + 1 < w1.heap.size := by omega
  replace hb := hb.trans (bq.mono hb.size)
  clear hc bq bp hbt
  have hleft1 : ¬ (1048576 - (n0 : Int)) < 0 := by omega
  go_wp2_with fail
  have ob30 := cb30
  have ob40 := cb40
  have ob41 := cb41
  have ob42 := cb42
  have ob50 := cb50
  have ob51 := cb51
  have bd : Below w1.heap.size w1 w1.drew := (Below.refl _ _).drew
  refine wp_region_held_drew (S := fun w' => Below w1.heap.size w1 w') (by kernel_rfl) bd (fun hS => ?_)
  obtain ⟨D, hD⟩ : ∃ D, w1.drew = D := ⟨_, rfl⟩
  rw [hD] at hS bd ⊢
  have hc := bd
  clear hD bd
  have s2 : w1.heap.size ≤ D.heap.size := hc.size
  have bq := hc
  replace cb30 := cell_later bq cb30
  replace zb3 := Nat.lt_of_lt_of_le zb3 bq.size
  replace cb40 := cell_later bq cb40
  replace cb41 := cell_later bq cb41
  replace cb42 := cell_later bq cb42
  replace zb4 := Nat.lt_of_lt_of_le zb4 bq.size
  replace cb50 := cell_later bq cb50
  replace cb51 := cell_later bq cb51
  replace zb5 := Nat.lt_of_lt_of_le zb5 bq.size
  replace hb := hb.trans (bq.mono hb.size)
  clear hc bq
  refine wpAnyH_take (i := 0) (v := (.agg #[.slice ap0 n0 kp0])) rfl (by as_aux_lemma => kernel_rfl) (by as_aux_lemma => kernel_rfl) (by as_aux_lemma => kernel_rfl) (fun _ _ _ h => h) (Or.inl ⟨by kernel_rfl, ?_⟩) hS ?_
  · intro w hSw; (try dsimp only at hSw); have hl0 := cell_later hSw ob30; go_simp
  (try simp only [Act.put, List.getElem_toArray, List.getElem_cons_zero, List.getElem_cons_succ, List.setIfInBounds_toArray, List.set_cons_zero, List.set_cons_succ])
  refine wpAnyH_take (i := 2) (v := (.agg #[.int .i64 W1, .bool C1, .int .i64 S1])) rfl (by as_aux_lemma => kernel_rfl) (by as_aux_lemma => kernel_rfl) (by as_aux_lemma => kernel_rfl) (fun _ _ _ h => h) (Or.inl ⟨by kernel_rfl, ?_⟩) hS ?_
  · intro w hSw; (try dsimp only at hSw); have hl0 := cell_later hSw ob40; have hl1 := cell_later hSw ob41; have hl2 := cell_later hSw ob42; go_simp
  (try simp only [Act.put, List.getElem_toArray, List.getElem_cons_zero, List.getElem_cons_succ, List.setIfInBounds_toArray, List.set_cons_zero, List.set_cons_succ])
  refine wpAnyH_take (i := 4) (v := (.agg #[.int .i64 L2, .int .i64 R2])) rfl (by as_aux_lemma => kernel_rfl) (by as_aux_lemma => kernel_rfl) (by as_aux_lemma => kernel_rfl) (fun _ _ _ h => h) (Or.inl ⟨by kernel_rfl, ?_⟩) hS ?_
  · intro w hSw; (try dsimp only at hSw); have hl0 := cell_later hSw ob50; have hl1 := cell_later hSw ob51; go_simp
  (try simp only [Act.put, List.getElem_toArray, List.getElem_cons_zero, List.getElem_cons_succ, List.setIfInBounds_toArray, List.set_cons_zero, List.set_cons_succ])
  refine wpAnyH_ready (rs := [1]) (by as_aux_lemma => kernel_rfl) (by simp) ?_
  refine AllReadyH.cons rfl (fun K hK => ?_) AllReadyH.nil
  go_simp
  refine Calls.mono (toFile_any ap0 n0 kp0 xs0 _ (hr0.below hb) (by omega)) ?_
  rintro e w3 ⟨vt1, rfl, rt1, hc⟩
  obtain ⟨at1, kt1, rfl, q1, q2⟩ := rt1.shape
  have Kt1 : Hid _ := And.intro q1 q2
  clear q1 q2
  refine hK.out _ _ (hS.trans (hc.mono hS.size)) (fun hS => ?_)
  clear hK K
  (try simp only [Act.put, List.getElem_toArray, List.getElem_cons_zero, List.getElem_cons_succ, List.setIfInBounds_toArray, List.set_cons_zero, List.set_cons_succ])
  have s3 : D.heap.size ≤ w3.heap.size := hc.size
  have bq := hc
  replace cb30 := cell_later bq cb30
  replace zb3 := Nat.lt_of_lt_of_le zb3 bq.size
  replace cb40 := cell_later bq cb40
  replace cb41 := cell_later bq cb41
  replace cb42 := cell_later bq cb42
  replace zb4 := Nat.lt_of_lt_of_le zb4 bq.size
  replace cb50 := cell_later bq cb50
  replace cb51 := cell_later bq cb51
  replace zb5 := Nat.lt_of_lt_of_le zb5 bq.size
  replace hb := hb.trans (bq.mono hb.size)
  clear hc bq
  refine wpAnyH_ready (rs := [3]) (by as_aux_lemma => kernel_rfl) (by simp) ?_
  refine AllReadyH.cons rfl (fun K hK => ?_) AllReadyH.nil
  go_simp
  refine Calls.mono (toLayout_any W1 S1 C1 _) ?_
  rintro e w4 ⟨rfl, hc⟩
  refine hK.out _ _ (hS.trans (hc.mono hS.size)) (fun hS => ?_)
  clear hK K
  (try simp only [Act.put, List.getElem_toArray, List.getElem_cons_zero, List.getElem_cons_succ, List.setIfInBounds_toArray, List.set_cons_zero, List.set_cons_succ])
  have s4 : w3.heap.size ≤ w4.heap.size := hc.size
  have bq := hc
  replace cb30 := cell_later bq cb30
  replace zb3 := Nat.lt_of_lt_of_le zb3 bq.size
  replace cb40 := cell_later bq cb40
  replace cb41 := cell_later bq cb41
  replace cb42 := cell_later bq cb42
  replace zb4 := Nat.lt_of_lt_of_le zb4 bq.size
  replace cb50 := cell_later bq cb50
  replace cb51 := cell_later bq cb51
  replace zb5 := Nat.lt_of_lt_of_le zb5 bq.size
  replace rt1 := rt1.below bq
  replace hb := hb.trans (bq.mono hb.size)
  clear hc bq
  refine wpAnyH_ready (rs := [5]) (by as_aux_lemma => kernel_rfl) (by simp) ?_
  refine AllReadyH.cons rfl (fun K hK => ?_) AllReadyH.nil
  go_simp
  refine Calls.mono (toSpot_any L2 R2 _) ?_
  rintro e w5 ⟨rfl, hc⟩
  refine hK.out _ _ (hS.trans (hc.mono hS.size)) (fun hS => ?_)
  clear hK K
  (try simp only [Act.put, List.getElem_toArray, List.getElem_cons_zero, List.getElem_cons_succ, List.setIfInBounds_toArray, List.set_cons_zero, List.set_cons_succ])
  have s5 : w4.heap.size ≤ w5.heap.size := hc.size
  have bq := hc
  replace cb30 := cell_later bq cb30
  replace zb3 := Nat.lt_of_lt_of_le zb3 bq.size
  replace cb40 := cell_later bq cb40
  replace cb41 := cell_later bq cb41
  replace cb42 := cell_later bq cb42
  replace zb4 := Nat.lt_of_lt_of_le zb4 bq.size
  replace cb50 := cell_later bq cb50
  replace cb51 := cell_later bq cb51
  replace zb5 := Nat.lt_of_lt_of_le zb5 bq.size
  replace rt1 := rt1.below bq
  replace hb := hb.trans (bq.mono hb.size)
  clear hc bq
  refine wpAnyH_ready (rs := [6]) (by as_aux_lemma => kernel_rfl) (by simp) ?_
  refine AllReadyH.cons rfl (fun K hK => ?_) AllReadyH.nil
  go_simp
  refine Calls.mono (HSC.out at1 kt1 _ rt1.read Kt1.out.1 Kt1.out.2) ?_
  rintro e w6 ⟨rfl, hc⟩
  refine hK.out _ _ (hS.trans (hc.mono hS.size)) (fun hS => ?_)
  clear hK K
  (try simp only [Act.put, List.getElem_toArray, List.getElem_cons_zero, List.getElem_cons_succ, List.setIfInBounds_toArray, List.set_cons_zero, List.set_cons_succ])
  have s6 : w5.heap.size ≤ w6.heap.size := hc.size
  have bq := hc
  replace cb30 := cell_later bq cb30
  replace zb3 := Nat.lt_of_lt_of_le zb3 bq.size
  replace cb40 := cell_later bq cb40
  replace cb41 := cell_later bq cb41
  replace cb42 := cell_later bq cb42
  replace zb4 := Nat.lt_of_lt_of_le zb4 bq.size
  replace cb50 := cell_later bq cb50
  replace cb51 := cell_later bq cb51
  replace zb5 := Nat.lt_of_lt_of_le zb5 bq.size
  replace rt1 := rt1.below bq
  replace hb := hb.trans (bq.mono hb.size)
  clear hc bq
  refine wpAnyH_take (i := 7) (v := (.int .i64 p0)) rfl (by as_aux_lemma => kernel_rfl) (by as_aux_lemma => kernel_rfl) (by as_aux_lemma => kernel_rfl) (fun _ _ _ h => h) (Or.inl ⟨by kernel_rfl, ?_⟩) hS ?_
  · intro w hSw; (try dsimp only at hSw); go_simp
  (try simp only [Act.put, List.getElem_toArray, List.getElem_cons_zero, List.getElem_cons_succ, List.setIfInBounds_toArray, List.set_cons_zero, List.set_cons_succ])
  refine wpAnyH_done (by kernel_rfl) ?_ _
  clear hS
  clear ob30
  clear ob40
  clear ob41
  clear ob42
  clear ob50
  clear ob51
  go_wp2_with fail
  refine Calls.mono (toFile_any ap0 n0 kp0 xs0 _ (hr0.below hb) (by omega)) ?_
  rintro e w7 ⟨vt2, rfl, rt2, hc⟩
  obtain ⟨at2, kt2, rfl, q1, q2⟩ := rt2.shape
  have Kt2 : Hid _ := And.intro q1 q2
  clear q1 q2
  have s7 : w6.heap.size ≤ w7.heap.size := hc.size
  have bq := hc
  replace cb30 := cell_later bq cb30
  replace zb3 := Nat.lt_of_lt_of_le zb3 bq.size
  replace cb40 := cell_later bq cb40
  replace cb41 := cell_later bq cb41
  replace cb42 := cell_later bq cb42
  replace zb4 := Nat.lt_of_lt_of_le zb4 bq.size
  replace cb50 := cell_later bq cb50
  replace cb51 := cell_later bq cb51
  replace zb5 := Nat.lt_of_lt_of_le zb5 bq.size
  replace rt1 := rt1.below bq
  replace hb := hb.trans (bq.mono hb.size)
  clear hc bq
  go_wp2_with fail
  have bp : ∀ o0, Below w7.heap.size w7 (w7.alloc o0) := fun o0 => (Below.refl _ _).alloc (Nat.le_refl _) o0
  have hbt : ∀ o0, Below w.heap.size w (w7.alloc o0) := fun o0 => hb.trans ((bp o0).mono hb.size)
  obtain ⟨w8, hw8⟩ : ∃ x, (w7.alloc (.cells #[.slice at2 n0 kt2] 25)) = x := ⟨_, rfl⟩
  have hc : Below ((w7.alloc (.cells #[.slice at2 n0 kt2] 25))).heap.size ((w7.alloc (.cells #[.slice at2 n0 kt2] 25))) w8 := hw8 ▸ Below.refl _ _
  have s8 : w7.heap.size + 1 ≤ w8.heap.size := by have := hc.size; simp at this; omega
  have bq : Below w7.heap.size w7 w8 := (bp _).trans (hc.mono (bp _).size)
  replace cb30 := cell_later bq cb30
  replace zb3 := Nat.lt_of_lt_of_le zb3 bq.size
  replace cb40 := cell_later bq cb40
  replace cb41 := cell_later bq cb41
  replace cb42 := cell_later bq cb42
  replace zb4 := Nat.lt_of_lt_of_le zb4 bq.size
  replace cb50 := cell_later bq cb50
  replace cb51 := cell_later bq cb51
  replace zb5 := Nat.lt_of_lt_of_le zb5 bq.size
  have cb90 : w8.cell? ⟨w7.heap.size, 0, none⟩ = some (.slice at2 n0 kt2) := cell_later hc (by simp [go_sem])
  have zb9 : w7.heap.size < w8.heap.size := by omega
  replace rt1 := rt1.below bq
  replace rt2 := rt2.below bq
  replace hb := hb.trans (bq.mono hb.size)
  clear hc bq bp hbt
  rw [hw8]
  clear hw8
  have ob30 := cb30
  have ob40 := cb40
  have ob41 := cb41
  have ob42 := cb42
  have ob50 := cb50
  have ob51 := cb51
  have ob90 := cb90
  have bd : Below w8.heap.size w8 w8.drew := (Below.refl _ _).drew
  refine wp_region_held_drew (S := fun w' => Below w8.heap.size w8 w') (by kernel_rfl) bd (fun hS => ?_)
  obtain ⟨D, hD⟩ : ∃ D, w8.drew = D := ⟨_, rfl⟩
  rw [hD] at hS bd ⊢
  have hc := bd
  clear hD bd
  have s9 : w8.heap.size ≤ D.heap.size := hc.size
  have bq := hc
  replace cb30 := cell_later bq cb30
  replace zb3 := Nat.lt_of_lt_of_le zb3 bq.size
  replace cb40 := cell_later bq cb40
  replace cb41 := cell_later bq cb41
  replace cb42 := cell_later bq cb42
  replace zb4 := Nat.lt_of_lt_of_le zb4 bq.size
  replace cb50 := cell_later bq cb50
  replace cb51 := cell_later bq cb51
  replace zb5 := Nat.lt_of_lt_of_le zb5 bq.size
  replace cb90 := cell_later bq cb90
  replace zb9 := Nat.lt_of_lt_of_le zb9 bq.size
  replace rt1 := rt1.below bq
  replace rt2 := rt2.below bq
  replace hb := hb.trans (bq.mono hb.size)
  clear hc bq
  refine wpAnyH_take (i := 0) (v := (.agg #[.slice at2 n0 kt2])) rfl (by as_aux_lemma => kernel_rfl) (by as_aux_lemma => kernel_rfl) (by as_aux_lemma => kernel_rfl) (fun _ _ _ h => h) (Or.inl ⟨by kernel_rfl, ?_⟩) hS ?_
  · intro w hSw; (try dsimp only at hSw); have hl0 := cell_later hSw ob90; go_simp
  (try simp only [Act.put, List.getElem_toArray, List.getElem_cons_zero, List.getElem_cons_succ, List.setIfInBounds_toArray, List.set_cons_zero, List.set_cons_succ])
  refine wpAnyH_take (i := 1) (v := (.agg #[.int .i64 W1, .bool C1, .int .i64 S1])) rfl (by as_aux_lemma => kernel_rfl) (by as_aux_lemma => kernel_rfl) (by as_aux_lemma => kernel_rfl) (fun _ _ _ h => h) (Or.inl ⟨by kernel_rfl, ?_⟩) hS ?_
  · intro w hSw; (try dsimp only at hSw); have hl0 := cell_later hSw ob40; have hl1 := cell_later hSw ob41; have hl2 := cell_later hSw ob42; go_simp
  (try simp only [Act.put, List.getElem_toArray, List.getElem_cons_zero, List.getElem_cons_succ, List.setIfInBounds_toArray, List.set_cons_zero, List.set_cons_succ])
  refine wpAnyH_take (i := 3) (v := (.agg #[.int .i64 L2, .int .i64 R2])) rfl (by as_aux_lemma => kernel_rfl) (by as_aux_lemma => kernel_rfl) (by as_aux_lemma => kernel_rfl) (fun _ _ _ h => h) (Or.inl ⟨by kernel_rfl, ?_⟩) hS ?_
  · intro w hSw; (try dsimp only at hSw); have hl0 := cell_later hSw ob50; have hl1 := cell_later hSw ob51; go_simp
  (try simp only [Act.put, List.getElem_toArray, List.getElem_cons_zero, List.getElem_cons_succ, List.setIfInBounds_toArray, List.set_cons_zero, List.set_cons_succ])
  refine wpAnyH_ready (rs := [2]) (by as_aux_lemma => kernel_rfl) (by simp) ?_
  refine AllReadyH.cons rfl (fun K hK => ?_) AllReadyH.nil
  go_simp
  refine Calls.mono (toLayout_any W1 S1 C1 _) ?_
  rintro e w10 ⟨rfl, hc⟩
  refine hK.out _ _ (hS.trans (hc.mono hS.size)) (fun hS => ?_)
  clear hK K
  (try simp only [Act.put, List.getElem_toArray, List.getElem_cons_zero, List.getElem_cons_succ, List.setIfInBounds_toArray, List.set_cons_zero, List.set_cons_succ])
  have s10 : D.heap.size ≤ w10.heap.size := hc.size
  have bq := hc
  replace cb30 := cell_later bq cb30
  replace zb3 := Nat.lt_of_lt_of_le zb3 bq.size
  replace cb40 := cell_later bq cb40
  replace cb41 := cell_later bq cb41
  replace cb42 := cell_later bq cb42
  replace zb4 := Nat.lt_of_lt_of_le zb4 bq.size
  replace cb50 := cell_later bq cb50
  replace cb51 := cell_later bq cb51
  replace zb5 := Nat.lt_of_lt_of_le zb5 bq.size
  replace cb90 := cell_later bq cb90
  replace zb9 := Nat.lt_of_lt_of_le zb9 bq.size
  replace rt1 := rt1.below bq
  replace rt2 := rt2.below bq
  replace hb := hb.trans (bq.mono hb.size)
  clear hc bq
  refine wpAnyH_ready (rs := [4]) (by as_aux_lemma => kernel_rfl) (by simp) ?_
  refine AllReadyH.cons rfl (fun K hK => ?_) AllReadyH.nil
  go_simp
  refine Calls.mono (toSpot_any L2 R2 _) ?_
  rintro e w11 ⟨rfl, hc⟩
  refine hK.out _ _ (hS.trans (hc.mono hS.size)) (fun hS => ?_)
  clear hK K
  (try simp only [Act.put, List.getElem_toArray, List.getElem_cons_zero, List.getElem_cons_succ, List.setIfInBounds_toArray, List.set_cons_zero, List.set_cons_succ])
  have s11 : w10.heap.size ≤ w11.heap.size := hc.size
  have bq := hc
  replace cb30 := cell_later bq cb30
  replace zb3 := Nat.lt_of_lt_of_le zb3 bq.size
  replace cb40 := cell_later bq cb40
  replace cb41 := cell_later bq cb41
  replace cb42 := cell_later bq cb42
  replace zb4 := Nat.lt_of_lt_of_le zb4 bq.size
  replace cb50 := cell_later bq cb50
  replace cb51 := cell_later bq cb51
  replace zb5 := Nat.lt_of_lt_of_le zb5 bq.size
  replace cb90 := cell_later bq cb90
  replace zb9 := Nat.lt_of_lt_of_le zb9 bq.size
  replace rt1 := rt1.below bq
  replace rt2 := rt2.below bq
  replace hb := hb.trans (bq.mono hb.size)
  clear hc bq
  refine wpAnyH_ready (rs := [5]) (by as_aux_lemma => kernel_rfl) (by simp) ?_
  refine AllReadyH.cons rfl (fun K hK => ?_) AllReadyH.nil
  go_simp
  refine Calls.mono (HIC.out at2 kt2 _ rt2.read Kt2.out.1 Kt2.out.2) ?_
  rintro e w12 ⟨rfl, hc⟩
  refine hK.out _ _ (hS.trans (hc.mono hS.size)) (fun hS => ?_)
  clear hK K
  (try simp only [Act.put, List.getElem_toArray, List.getElem_cons_zero, List.getElem_cons_succ, List.setIfInBounds_toArray, List.set_cons_zero, List.set_cons_succ])
  have s12 : w11.heap.size ≤ w12.heap.size := hc.size
  have bq := hc
  replace cb30 := cell_later bq cb30
  replace zb3 := Nat.lt_of_lt_of_le zb3 bq.size
  replace cb40 := cell_later bq cb40
  replace cb41 := cell_later bq cb41
  replace cb42 := cell_later bq cb42
  replace zb4 := Nat.lt_of_lt_of_le zb4 bq.size
  replace cb50 := cell_later bq cb50
  replace cb51 := cell_later bq cb51
  replace zb5 := Nat.lt_of_lt_of_le zb5 bq.size
  replace cb90 := cell_later bq cb90
  replace zb9 := Nat.lt_of_lt_of_le zb9 bq.size
  replace rt1 := rt1.below bq
  replace rt2 := rt2.below bq
  replace hb := hb.trans (bq.mono hb.size)
  clear hc bq
  refine wpAnyH_take (i := 6) (v := (.int .i64 p0)) rfl (by as_aux_lemma => kernel_rfl) (by as_aux_lemma => kernel_rfl) (by as_aux_lemma => kernel_rfl) (fun _ _ _ h => h) (Or.inl ⟨by kernel_rfl, ?_⟩) hS ?_
  · intro w hSw; (try dsimp only at hSw); go_simp
  (try simp only [Act.put, List.getElem_toArray, List.getElem_cons_zero, List.getElem_cons_succ, List.setIfInBounds_toArray, List.set_cons_zero, List.set_cons_succ])
  refine wpAnyH_done (by kernel_rfl) ?_ _
  clear hS
  clear ob30
  clear ob40
  clear ob41
  clear ob42
  clear ob50
  clear ob51
  clear ob90
  go_wp2_with fail
  have ob30 := cb30
  have ob40 := cb40
  have ob41 := cb41
  have ob42 := cb42
  have ob50 := cb50
  have ob51 := cb51
  have ob90 := cb90
  have bd : Below w12.heap.size w12 w12.drew := (Below.refl _ _).drew
  refine wp_region_held_drew (S := fun w' => Below w12.heap.size w12 w') (by kernel_rfl) bd (fun hS => ?_)
  obtain ⟨D, hD⟩ : ∃ D, w12.drew = D := ⟨_, rfl⟩
  rw [hD] at hS bd ⊢
  have hc := bd
  clear hD bd
  have s13 : w12.heap.size ≤ D.heap.size := hc.size
  have bq := hc
  replace cb30 := cell_later bq cb30
  replace zb3 := Nat.lt_of_lt_of_le zb3 bq.size
  replace cb40 := cell_later bq cb40
  replace cb41 := cell_later bq cb41
  replace cb42 := cell_later bq cb42
  replace zb4 := Nat.lt_of_lt_of_le zb4 bq.size
  replace cb50 := cell_later bq cb50
  replace cb51 := cell_later bq cb51
  replace zb5 := Nat.lt_of_lt_of_le zb5 bq.size
  replace cb90 := cell_later bq cb90
  replace zb9 := Nat.lt_of_lt_of_le zb9 bq.size
  replace rt1 := rt1.below bq
  replace rt2 := rt2.below bq
  replace hb := hb.trans (bq.mono hb.size)
  clear hc bq
  refine wpAnyH_take (i := 0) (v := (.agg #[.slice at2 n0 kt2])) rfl (by as_aux_lemma => kernel_rfl) (by as_aux_lemma => kernel_rfl) (by as_aux_lemma => kernel_rfl) (fun _ _ _ h => h) (Or.inl ⟨by kernel_rfl, ?_⟩) hS ?_
  · intro w hSw; (try dsimp only at hSw); have hl0 := cell_later hSw ob90; go_simp
  (try simp only [Act.put, List.getElem_toArray, List.getElem_cons_zero, List.getElem_cons_succ, List.setIfInBounds_toArray, List.set_cons_zero, List.set_cons_succ])
  refine wpAnyH_take (i := 1) (v := (.agg #[.slice ap0 n0 kp0])) rfl (by as_aux_lemma => kernel_rfl) (by as_aux_lemma => kernel_rfl) (by as_aux_lemma => kernel_rfl) (fun _ _ _ h => h) (Or.inl ⟨by kernel_rfl, ?_⟩) hS ?_
  · intro w hSw; (try dsimp only at hSw); have hl0 := cell_later hSw ob30; go_simp
  (try simp only [Act.put, List.getElem_toArray, List.getElem_cons_zero, List.getElem_cons_succ, List.setIfInBounds_toArray, List.set_cons_zero, List.set_cons_succ])
  refine wpAnyH_ready (rs := [2]) (by as_aux_lemma => kernel_rfl) (by simp) ?_
  refine AllReadyH.cons rfl (fun K hK => ?_) AllReadyH.nil
  go_simp
  refine Calls.mono (toFile_any ap0 n0 kp0 xs0 _ (hr0.below hb) (by omega)) ?_
  rintro e w14 ⟨vt3, rfl, rt3, hc⟩
  obtain ⟨at3, kt3, rfl, q1, q2⟩ := rt3.shape
  have Kt3 : Hid _ := And.intro q1 q2
  clear q1 q2
  refine hK.out _ _ (hS.trans (hc.mono hS.size)) (fun hS => ?_)
  clear hK K
  (try simp only [Act.put, List.getElem_toArray, List.getElem_cons_zero, List.getElem_cons_succ, List.setIfInBounds_toArray, List.set_cons_zero, List.set_cons_succ])
  have s14 : D.heap.size ≤ w14.heap.size := hc.size
  have bq := hc
  replace cb30 := cell_later bq cb30
  replace zb3 := Nat.lt_of_lt_of_le zb3 bq.size
  replace cb40 := cell_later bq cb40
  replace cb41 := cell_later bq cb41
  replace cb42 := cell_later bq cb42
  replace zb4 := Nat.lt_of_lt_of_le zb4 bq.size
  replace cb50 := cell_later bq cb50
  replace cb51 := cell_later bq cb51
  replace zb5 := Nat.lt_of_lt_of_le zb5 bq.size
  replace cb90 := cell_later bq cb90
  replace zb9 := Nat.lt_of_lt_of_le zb9 bq.size
  replace rt1 := rt1.below bq
  replace rt2 := rt2.below bq
  replace hb := hb.trans (bq.mono hb.size)
  clear hc bq
  refine wpAnyH_ready (rs := [3]) (by as_aux_lemma => kernel_rfl) (by simp) ?_
  refine AllReadyH.cons rfl (fun K hK => ?_) AllReadyH.nil
  go_simp
  refine Calls.mono (eqFile_yes at2 at3 n0 kt2 kt3 xs0 _ rt2.read rt3.read (by first | omega | (unfold maxLen; omega))) ?_
  rintro e w15 ⟨rfl, hc⟩
  refine hK.out _ _ (hS.trans (hc.mono hS.size)) (fun hS => ?_)
  clear hK K
  (try simp only [Act.put, List.getElem_toArray, List.getElem_cons_zero, List.getElem_cons_succ, List.setIfInBounds_toArray, List.set_cons_zero, List.set_cons_succ])
  have s15 : w14.heap.size ≤ w15.heap.size := hc.size
  have bq := hc
  replace cb30 := cell_later bq cb30
  replace zb3 := Nat.lt_of_lt_of_le zb3 bq.size
  replace cb40 := cell_later bq cb40
  replace cb41 := cell_later bq cb41
  replace cb42 := cell_later bq cb42
  replace zb4 := Nat.lt_of_lt_of_le zb4 bq.size
  replace cb50 := cell_later bq cb50
  replace cb51 := cell_later bq cb51
  replace zb5 := Nat.lt_of_lt_of_le zb5 bq.size
  replace cb90 := cell_later bq cb90
  replace zb9 := Nat.lt_of_lt_of_le zb9 bq.size
  replace rt1 := rt1.below bq
  replace rt2 := rt2.below bq
  replace rt3 := rt3.below bq
  replace hb := hb.trans (bq.mono hb.size)
  clear hc bq
  refine wpAnyH_take (i := 4) (v := (.bool false)) rfl (by as_aux_lemma => kernel_rfl) (by as_aux_lemma => kernel_rfl) (by as_aux_lemma => kernel_rfl) (fun _ _ _ h => h) (Or.inl ⟨by kernel_rfl, ?_⟩) hS ?_
  · intro w hSw; (try dsimp only at hSw); go_simp
  (try simp only [Act.put, List.getElem_toArray, List.getElem_cons_zero, List.getElem_cons_succ, List.setIfInBounds_toArray, List.set_cons_zero, List.set_cons_succ])
  refine wpAnyH_done (by kernel_rfl) ?_ _
  clear hS
  clear ob30
  clear ob40
  clear ob41
  clear ob42
  clear ob50
  clear ob51
  clear ob90
  go_wp2
  go_ret
  exact ⟨rfl, hb⟩

theorem own : ownKnob Try.prog.godebug = none := by kernel_rfl
theorem laidOut : laidOutB Try.prog = true := by kernel_rfl

set_option maxRecDepth 100000 in
theorem lifted (os : Os) (started : os.Started) (H : Type) (enc : TypeId × Value → H) :
    ReturnsInHanded {} Try.checked os 4 .any (Rows.fnExactSpotFaultSpec.pre6 enc Try.prog Try.f4 Rows.fnExactSpotFaultRow.domain false) (Rows.fnExactSpotFaultSpec.post enc Try.prog Try.f4 false true false false) := by
  refine returnsInHanded_of_change (C := Try.checked) own started (by kernel_rfl) Try.func4
    (ChangeSpec.witness6 (enc := enc) (C := Try.checked) false ⟨#[], #[.agg #[.slice none 0 0], .agg #[.int .i64 0, .bool false, .int .i64 0], .agg #[.int .i64 0, .int .i64 0]], []⟩ 8 (by kernel_rfl) (by kernel_rfl) (by kernel_rfl) (by kernel_rfl)) ?_
  intro W base args ds gs before hval0 hW hcnd _
  have hval : ∀ (j : Nat) t v, Try.f4.params[j]? = some t → args[j]? = some v → Value.okWide Try.prog W .any base t v := hval0
  have hW' := hW
  obtain ⟨p, q, hA0, hV, rfl, hfz, hnd⟩ := hW
  have hA : DataW.TrodAll enc Try.prog W 0 (fun _ => true) true Try.f4.params.toList args.toList ds p := hA0
  rw [Try.params4] at hA hval
  obtain ⟨v0, v1, v2, d0, d1, d2, p0, p1, p2, rfl, rfl, rfl, h0, h1, h2⟩ := trodAll_three hA
  obtain ⟨rfl, rfl⟩ := trodVars_none hV
  have k0 := h0
  have lt0 : ∀ x ∈ p0, x.block < W.heap.size := by obtain ⟨m, hm⟩ := k0; exact DataW.trod_lt m _ _ _ hm
  obtain ⟨a0, len0, cap0, x0, rfl, hr0, hB0, hm0⟩ := open_file (hval 0 37 v0 rfl rfl) h0
  have k1 := h1
  have lt1 : ∀ x ∈ p1, x.block < W.heap.size := by obtain ⟨m, hm⟩ := k1; exact DataW.trod_lt m _ _ _ hm
  obtain ⟨W1, C1, S1, rfl, hIW1, hIS1⟩ := open_layout (hval 1 38 v1 rfl rfl) h1
  have k2 := h2
  have lt2 : ∀ x ∈ p2, x.block < W.heap.size := by obtain ⟨m, hm⟩ := k2; exact DataW.trod_lt m _ _ _ hm
  obtain ⟨L2, R2, rfl, hIL2, hIR2⟩ := open_spot (hval 2 39 v2 rfl rfl) h2
  clear hA0 hval0
  refine (walk a0 len0 cap0 x0 W1 C1 S1 L2 R2 W hr0 hB0 hm0 hIW1 hIS1 hIL2 hIR2).mono fun e W' ⟨he, bel⟩ => ?_
  subst he
  exact ⟨_, rfl, _, _, _, [], _, [], hW', trodAll_mk1 (shut_bool Try.underlying4 _), trodAll_mk3 (Below.trod laidOut (by kernel_rfl) (of_decide_eq_true (by kernel_rfl)) k0 bel lt0) (Below.trod laidOut (by kernel_rfl) (of_decide_eq_true (by kernel_rfl)) k1 bel lt1) (Below.trod laidOut (by kernel_rfl) (of_decide_eq_true (by kernel_rfl)) k2 bel lt2), rfl, bel.frame _, fun h => by cases h⟩

theorem proved : Rows.FnExactSpotFaultSaid :=
  OpenClaim.holds_of_wide 4 Try.f4 rfl rfl rfl rfl rfl rfl rfl ⟨rfl, rfl, rfl, rfl, rfl⟩ rfl rfl rfl rfl rfl (by kernel_rfl) Try.func4 (by kernel_rfl)
    (of_decide_eq_true (by kernel_rfl)) (by unfold Func.isWrapper; first | (rw [if_pos (by decide +kernel)]; kernel_rfl) | (rw [if_neg (by decide +kernel)]; exact ⟨rfl, rfl⟩))
    (fun os started H enc _ => lifted os started H enc)
end Go.Proofs.Ytjgmkcmlkffjlaa.fnExactSpotFault
namespace Go.Proofs.Ytjgmkcmlkffjlaa
theorem fnExactSpotFault_proved : Rows.FnExactSpotFaultSaid := fnExactSpotFault.proved
end Go.Proofs.Ytjgmkcmlkffjlaa
