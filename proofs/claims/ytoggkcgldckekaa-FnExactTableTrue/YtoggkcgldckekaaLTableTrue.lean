/-
  For every list of instructions and every table, FnExactTableTrue returns true: the program's TableTrue answers as the model and writes into no argument; no condition.
-/
import Derived.Test.YtoggkcgldckekaaHlpNA
import Derived.Test.YtoggkcgldckekaaTab4
import Derived.Test.YtoggkcgldckekaaArgsT
import Derived.Test.YtoggkcgldckekaaHlpX
import Derived.ProofKit
import Derived.OpenShut
import Derived.ChangeOld
import Derived.Below
import Derived.Carry
import Derived.Deep.RegionWith
import Derived.Deep.RegionHeld3
namespace Go.Proofs.Ytoggkcgldckekaa.fnExactTableTrue
open Go.ChangeShapes Go.WideShapes Go.ChangeAt Go.RowKit
set_option linter.unusedVariables false
set_option linter.unusedSimpArgs false

set_option maxRecDepth 10000 in
set_option maxHeartbeats 6400000 in
theorem walk (a0 : Option Addr) (n0 ca0 : Nat) (xs0 : List In) (z1 : Int) (a1 : Option Addr) (n1 ca1 : Nat) (xs1 : List St) (w : World) (hr0 : RdR inE 8 w a0 n0 xs0) (hz0 : ∀ y ∈ xs0, y.s.size ≤ maxLen) (hm0 : n0 ≤ maxLen) (hr1 : RdT w a1 n1 xs1) (hm1 : n1 ≤ maxLen) :
    Calls Try.prog 9 #[.slice a0 n0 ca0, .agg #[.int .i64 z1, .slice a1 n1 ca1]] w fun e w' => e = .returned (.bool true) ∧ Below w.heap.size w w' := by
  have HM0 : Hid (n0 ≤ maxLen) := hm0
  have HM1 : Hid (n1 ≤ maxLen) := hm1
  have hsz0 := fun w' ha' => szInstS_any a0 n0 ca0 xs0 1048576 w' ha' hz0 HM0.out (by omega) (by omega)
  by_cases hn0 : 1048576 < (n0 : Int) + inSum xs0
  case pos =>
    rw [if_pos hn0] at hsz0
    have HZ0 : Hid _ := hsz0
    clear hsz0 hm0 hm1
    go_enter Try.func9, Try.ntmps9
    have hb : Below w.heap.size w w := Below.refl _ _
    go_wp2_with fail
    have bp : ∀ o0, Below w.heap.size w (w.alloc o0) := fun o0 => (Below.refl _ _).alloc (Nat.le_refl _) o0
    have hbt : ∀ o0, Below w.heap.size w (w.alloc o0) := fun o0 => hb.trans ((bp o0).mono hb.size)
    refine Calls.mono (HZ0.out _ (hr0.below (hbt _))) ?_
    rintro e w1 ⟨rfl, hc⟩
    have s1 : w.heap.size + 1 ≤ w1.heap.size := by have := hc.size; simp at this; omega
    have bq : Below w.heap.size w w1 := (bp _).trans (hc.mono (bp _).size)
    have caT0 : w1.cell? ⟨w.heap.size, 0, none⟩ = some (.int .i64 z1) := cell_later hc (by simp [go_sem])
    have caT1 : w1.cell? ⟨w.heap.size, 1, none⟩ = some (.slice a1 n1 ca1) := cell_later hc (by simp [go_sem])
    have zaT : w.heap.size < w1.heap.size := by omega
    replace hb := hb.trans (bq.mono hb.size)
    clear hc bq bp hbt
    go_wp2
    go_ret
    exact ⟨rfl, hb⟩
  rw [if_neg hn0] at hsz0
  obtain ⟨left0, hleft0⟩ : ∃ left0 : Int, left0 = (1048576 - (n0 : Int) - inSum xs0) := ⟨_, rfl⟩
  have hl0 : 0 ≤ left0 ∧ left0 ≤ 1048576 := by omega
  have hN0 : n0 ≤ 1048576 := by omega
  have hS0 : (n0 : Int) + inSum xs0 ≤ 1048576 := by omega
  rw [← hleft0] at hsz0
  have HZ0 : Hid _ := hsz0
  clear hsz0 hleft0 hn0 hm0
  have hsz1 := fun w' ha' => szTable_any z1 a1 n1 ca1 xs1 left0 w' ha' HM1.out (by omega) (by omega)
  by_cases hn1 : left0 < (n1 : Int) + stN xs1
  case pos =>
    rw [if_pos hn1] at hsz1
    have HZ1 : Hid _ := hsz1
    clear hsz1 hm1
    go_enter Try.func9, Try.ntmps9
    have hb : Below w.heap.size w w := Below.refl _ _
    go_wp2_with fail
    have bp : ∀ o0, Below w.heap.size w (w.alloc o0) := fun o0 => (Below.refl _ _).alloc (Nat.le_refl _) o0
    have hbt : ∀ o0, Below w.heap.size w (w.alloc o0) := fun o0 => hb.trans ((bp o0).mono hb.size)
    refine Calls.mono (HZ0.out _ (hr0.below (hbt _))) ?_
    rintro e w1 ⟨rfl, hc⟩
    have s1 : w.heap.size + 1 ≤ w1.heap.size := by have := hc.size; simp at this; omega
    have bq : Below w.heap.size w w1 := (bp _).trans (hc.mono (bp _).size)
    have caT0 : w1.cell? ⟨w.heap.size, 0, none⟩ = some (.int .i64 z1) := cell_later hc (by simp [go_sem])
    have caT1 : w1.cell? ⟨w.heap.size, 1, none⟩ = some (.slice a1 n1 ca1) := cell_later hc (by simp [go_sem])
    have zaT : w.heap.size < w1.heap.size := by omega
    replace hb := hb.trans (bq.mono hb.size)
    clear hc bq bp hbt
    have hleft0 : ¬ left0 < 0 := by omega
    go_wp2_with fail
    refine Calls.mono (HZ1.out _ (hr1.below hb)) ?_
    rintro e w2 ⟨rfl, hc⟩
    have s2 : w1.heap.size ≤ w2.heap.size := hc.size
    have bq := hc
    replace caT0 := cell_later bq caT0
    replace caT1 := cell_later bq caT1
    replace zaT := Nat.lt_of_lt_of_le zaT bq.size
    replace hb := hb.trans (bq.mono hb.size)
    clear hc bq
    go_wp2
    go_ret
    exact ⟨rfl, hb⟩
  rw [if_neg hn1] at hsz1
  obtain ⟨left1, hleft1⟩ : ∃ left1 : Int, left1 = (left0 - (n1 : Int) - stN xs1) := ⟨_, rfl⟩
  have hl1 : 0 ≤ left1 ∧ left1 ≤ 1048576 := by omega
  have hN1 : n1 ≤ 1048576 := by omega
  have hS1 : (n1 : Int) + stN xs1 ≤ 1048576 := by omega
  rw [← hleft1] at hsz1
  have HZ1 : Hid _ := hsz1
  clear hsz1 hleft1 hn1 hm1
  have SC := fun (A0 : Option Addr) (C0 : Nat) (A1 : Option Addr) (C1 : Nat) (W' : World) (H0 : RdR inE 8 W' A0 n0 xs0) (J0 : n0 ≤ C0) (M0 : C0 ≤ maxLen) (H1 : RdT W' A1 n1 xs1) (J1 : n1 ≤ C1) (M1 : C1 ≤ maxLen) => specTableTrue_any A0 n0 C0 xs0 z1 A1 n1 C1 xs1 W' H0 (by omega) hN0 H1 hS1
  have IC := fun (A0 : Option Addr) (C0 : Nat) (A1 : Option Addr) (C1 : Nat) (W' : World) (H0 : RdR inE 8 W' A0 n0 xs0) (J0 : n0 ≤ C0) (M0 : C0 ≤ maxLen) (H1 : RdT W' A1 n1 xs1) (J1 : n1 ≤ C1) (M1 : C1 ≤ maxLen) => implTableTrue_any A0 n0 C0 xs0 z1 A1 n1 C1 xs1 W' H0 (by omega) hN0 H1 hS1 J1 M1
  generalize (decide (tabF xs0 z1 xs1 = 0) && tabT xs0 xs1) = cd at *
  have hcl1 := stC_le xs1
  have HSC : Hid _ := SC
  have HIC : Hid _ := IC
  clear SC IC
  go_enter Try.func9, Try.ntmps9
  have hb : Below w.heap.size w w := Below.refl _ _
  go_wp2_with fail
  have bp : ∀ o0, Below w.heap.size w (w.alloc o0) := fun o0 => (Below.refl _ _).alloc (Nat.le_refl _) o0
  have hbt : ∀ o0, Below w.heap.size w (w.alloc o0) := fun o0 => hb.trans ((bp o0).mono hb.size)
  refine Calls.mono (HZ0.out _ (hr0.below (hbt _))) ?_
  rintro e w1 ⟨rfl, hc⟩
  have s1 : w.heap.size + 1 ≤ w1.heap.size := by have := hc.size; simp at this; omega
  have bq : Below w.heap.size w w1 := (bp _).trans (hc.mono (bp _).size)
  have caT0 : w1.cell? ⟨w.heap.size, 0, none⟩ = some (.int .i64 z1) := cell_later hc (by simp [go_sem])
  have caT1 : w1.cell? ⟨w.heap.size, 1, none⟩ = some (.slice a1 n1 ca1) := cell_later hc (by simp [go_sem])
  have zaT : w.heap.size < w1.heap.size := by omega
  replace hb := hb.trans (bq.mono hb.size)
  clear hc bq bp hbt
  have hleft0 : ¬ left0 < 0 := by omega
  go_wp2_with fail
  refine Calls.mono (HZ1.out _ (hr1.below hb)) ?_
  rintro e w2 ⟨rfl, hc⟩
  have s2 : w1.heap.size ≤ w2.heap.size := hc.size
  have bq := hc
  replace caT0 := cell_later bq caT0
  replace caT1 := cell_later bq caT1
  replace zaT := Nat.lt_of_lt_of_le zaT bq.size
  replace hb := hb.trans (bq.mono hb.size)
  clear hc bq
  have hleft1 : ¬ left1 < 0 := by omega
  go_wp2_with fail
  have bd : Below w2.heap.size w2 w2.drew := (Below.refl _ _).drew
  refine wp_region_held_drew (S := fun w' => w'.cell? ⟨w.heap.size, 0, none⟩ = some (.int .i64 z1) ∧ w'.cell? ⟨w.heap.size, 1, none⟩ = some (.slice a1 n1 ca1)) (by kernel_rfl) (by exact ⟨caT0, caT1⟩) (fun hS => ?_)
  refine wpAnyH_take (i := 0) (v := (.slice a0 n0 ca0)) rfl (by as_aux_lemma => kernel_rfl) (by as_aux_lemma => kernel_rfl) (by as_aux_lemma => kernel_rfl) (fun _ _ _ h => h) (Or.inl ⟨by kernel_rfl, ?_⟩) hS ?_
  · intro w hSw; (try dsimp only at hSw); go_simp
  (try simp only [Act.put, List.getElem_toArray, List.getElem_cons_zero, List.getElem_cons_succ, List.setIfInBounds_toArray, List.set_cons_zero, List.set_cons_succ])
  refine wpAnyH_take (i := 2) (v := (.agg #[.int .i64 z1, .slice a1 n1 ca1])) rfl (by as_aux_lemma => kernel_rfl) (by as_aux_lemma => kernel_rfl) (by as_aux_lemma => kernel_rfl) (fun _ _ _ h => h) (Or.inl ⟨by kernel_rfl, ?_⟩) hS ?_
  · intro w hSw; (try dsimp only at hSw); go_simp
  (try simp only [Act.put, List.getElem_toArray, List.getElem_cons_zero, List.getElem_cons_succ, List.setIfInBounds_toArray, List.set_cons_zero, List.set_cons_succ])
  refine wpAnyH_ready (rs := [1]) (by as_aux_lemma => kernel_rfl) (by simp) ?_
  refine AllReadyH.cons rfl (fun K hK => ?_) AllReadyH.nil
  go_simp
  refine Calls.mono (toInstS_row a0 n0 ca0 xs0 _ (hr0.below hb.drew) (by omega)) ?_
  rintro e w3 ⟨vt3, rfl, rt3, hc0⟩
  obtain ⟨at3, kt3, rfl, q1, q2⟩ := (RowS.shape inE_len rt3)
  have Kt3 : Hid _ := And.intro q1 q2
  clear q1 q2
  replace rt3 := RowS.mono (lo' := w2.heap.size) rt3 (Nat.le_refl _) (Nat.le_refl _)
  refine hK.out _ _ ⟨cell_later hc0 hS.1, cell_later hc0 hS.2⟩ (fun hS => ?_)
  clear hK K
  have hc : Below w2.heap.size w2 w3 := bd.trans (hc0.mono (Nat.le_refl _))
  clear hc0 bd
  have s3 : w2.heap.size ≤ w3.heap.size := hc.size
  have bq := hc
  replace caT0 := cell_later bq caT0
  replace caT1 := cell_later bq caT1
  replace zaT := Nat.lt_of_lt_of_le zaT bq.size
  replace hb := hb.trans (bq.mono hb.size)
  clear hc bq
  refine wpAnyH_ready (rs := [3]) (by as_aux_lemma => kernel_rfl) (by simp) ?_
  refine AllReadyH.cons rfl (fun K hK => ?_) AllReadyH.nil
  go_simp
  refine Calls.mono (toTable_row z1 a1 n1 ca1 xs1 _ (hr1.below hb) (by omega)) ?_
  rintro e w4 ⟨vt4, rfl, rt4, hc0⟩
  obtain ⟨at4, kt4, rfl, q1, q2⟩ := rt4.shape
  have Kt4 : Hid _ := And.intro q1 q2
  clear q1 q2
  replace rt4 := TabR.mono (lo' := w3.heap.size) rt4 (Nat.le_refl _) (Nat.le_refl _)
  refine hK.out _ _ ⟨cell_later hc0 hS.1, cell_later hc0 hS.2⟩ (fun hS => ?_)
  clear hK K
  have hc := hc0
  clear hc0
  have s4 : w3.heap.size ≤ w4.heap.size := hc.size
  have bq := hc
  replace caT0 := cell_later bq caT0
  replace caT1 := cell_later bq caT1
  replace zaT := Nat.lt_of_lt_of_le zaT bq.size
  replace rt3 := rt3.below bq
  replace hb := hb.trans (bq.mono hb.size)
  clear hc bq
  refine wpAnyH_ready (rs := [4]) (by as_aux_lemma => kernel_rfl) (by simp) ?_
  refine AllReadyH.cons rfl (fun K hK => ?_) AllReadyH.nil
  go_simp
  refine Calls.mono (HSC.out at3 kt3 at4 kt4 _ (RowS.read inE_len rt3) Kt3.out.1 Kt3.out.2 rt4.read Kt4.out.1 Kt4.out.2) ?_
  rintro e w5 ⟨rfl, hc0⟩
  refine hK.out _ _ ⟨cell_later hc0 hS.1, cell_later hc0 hS.2⟩ (fun hS => ?_)
  clear hK K
  have hc := hc0
  clear hc0
  have s5 : w4.heap.size ≤ w5.heap.size := hc.size
  have bq := hc
  replace caT0 := cell_later bq caT0
  replace caT1 := cell_later bq caT1
  replace zaT := Nat.lt_of_lt_of_le zaT bq.size
  replace rt3 := rt3.below bq
  replace rt4 := rt4.below bq
  replace hb := hb.trans (bq.mono hb.size)
  clear hc bq
  clear rt3 Kt3
  clear rt4 Kt4
  refine wpAnyH_take (i := 5) (v := (.bool cd)) rfl (by as_aux_lemma => kernel_rfl) (by as_aux_lemma => kernel_rfl) (by as_aux_lemma => kernel_rfl) (fun _ _ _ h => h) (Or.inl ⟨by kernel_rfl, ?_⟩) hS ?_
  · intro w hSw; (try dsimp only at hSw); go_simp
  (try simp only [Act.put, List.getElem_toArray, List.getElem_cons_zero, List.getElem_cons_succ, List.setIfInBounds_toArray, List.set_cons_zero, List.set_cons_succ])
  refine wpAnyH_done (by kernel_rfl) ?_ _
  clear hS
  go_wp2_with fail
  refine Calls.mono (toInstS_row a0 n0 ca0 xs0 _ (hr0.below hb) (by omega)) ?_
  rintro e w6 ⟨vt6, rfl, rt6, hc⟩
  obtain ⟨at6, kt6, rfl, q1, q2⟩ := (RowS.shape inE_len rt6)
  have Kt6 : Hid _ := And.intro q1 q2
  clear q1 q2
  have s6 : w5.heap.size ≤ w6.heap.size := hc.size
  have bq := hc
  replace caT0 := cell_later bq caT0
  replace caT1 := cell_later bq caT1
  replace zaT := Nat.lt_of_lt_of_le zaT bq.size
  replace hb := hb.trans (bq.mono hb.size)
  clear hc bq
  go_wp2_with fail
  refine Calls.mono (toTable_row z1 a1 n1 ca1 xs1 _ (hr1.below hb) (by omega)) ?_
  rintro e w7 ⟨vt7, rfl, rt7, hc⟩
  obtain ⟨at7, kt7, rfl, q1, q2⟩ := rt7.shape
  have Kt7 : Hid _ := And.intro q1 q2
  clear q1 q2
  have s7 : w6.heap.size ≤ w7.heap.size := hc.size
  have bq := hc
  replace caT0 := cell_later bq caT0
  replace caT1 := cell_later bq caT1
  replace zaT := Nat.lt_of_lt_of_le zaT bq.size
  replace rt6 := rt6.below bq
  replace hb := hb.trans (bq.mono hb.size)
  clear hc bq
  go_wp2_with fail
  have bp : ∀ o0, Below w7.heap.size w7 (w7.alloc o0) := fun o0 => (Below.refl _ _).alloc (Nat.le_refl _) o0
  have hbt : ∀ o0, Below w.heap.size w (w7.alloc o0) := fun o0 => hb.trans ((bp o0).mono hb.size)
  refine Calls.mono (HIC.out at6 kt6 at7 kt7 _ (RowS.read inE_len (rt6.below (bp _))) Kt6.out.1 Kt6.out.2 (rt7.below (bp _)).read Kt7.out.1 Kt7.out.2) ?_
  rintro e w8 ⟨rfl, hc⟩
  have s8 : w7.heap.size + 1 ≤ w8.heap.size := by have := hc.size; simp at this; omega
  have bq : Below w7.heap.size w7 w8 := (bp _).trans (hc.mono (bp _).size)
  replace caT0 := cell_later bq caT0
  replace caT1 := cell_later bq caT1
  replace zaT := Nat.lt_of_lt_of_le zaT bq.size
  have cx10 : w8.cell? ⟨w7.heap.size, 0, none⟩ = some (.int .i64 z1) := cell_later hc (by simp [go_sem])
  have cx11 : w8.cell? ⟨w7.heap.size, 1, none⟩ = some (.slice at7 n1 kt7) := cell_later hc (by simp [go_sem])
  have zx1 : w7.heap.size < w8.heap.size := by omega
  replace rt6 := rt6.below bq
  replace rt7 := rt7.below bq
  replace hb := hb.trans (bq.mono hb.size)
  clear hc bq bp hbt
  go_wp2_with fail
  refine Calls.mono (toInstS_row a0 n0 ca0 xs0 _ (hr0.below hb) (by omega)) ?_
  rintro e w9 ⟨vt9, rfl, rt9, hc⟩
  obtain ⟨at9, kt9, rfl, q1, q2⟩ := (RowS.shape inE_len rt9)
  have Kt9 : Hid _ := And.intro q1 q2
  clear q1 q2
  have s9 : w8.heap.size ≤ w9.heap.size := hc.size
  have bq := hc
  replace caT0 := cell_later bq caT0
  replace caT1 := cell_later bq caT1
  replace zaT := Nat.lt_of_lt_of_le zaT bq.size
  replace cx10 := cell_later bq cx10
  replace cx11 := cell_later bq cx11
  replace zx1 := Nat.lt_of_lt_of_le zx1 bq.size
  replace rt6 := rt6.below bq
  replace rt7 := rt7.below bq
  replace hb := hb.trans (bq.mono hb.size)
  clear hc bq
  go_wp2_with fail
  refine Calls.mono (eqInstS_yes at6 at9 n0 kt6 kt9 xs0 _ (RowS.read inE_len rt6) (RowS.read inE_len rt9) (by first | omega | (unfold maxLen; omega))) ?_
  rintro e w10 ⟨rfl, hc⟩
  have s10 : w9.heap.size ≤ w10.heap.size := hc.size
  have bq := hc
  replace caT0 := cell_later bq caT0
  replace caT1 := cell_later bq caT1
  replace zaT := Nat.lt_of_lt_of_le zaT bq.size
  replace cx10 := cell_later bq cx10
  replace cx11 := cell_later bq cx11
  replace zx1 := Nat.lt_of_lt_of_le zx1 bq.size
  replace rt6 := rt6.below bq
  replace rt7 := rt7.below bq
  replace rt9 := rt9.below bq
  replace hb := hb.trans (bq.mono hb.size)
  clear hc bq
  clear rt9 Kt9
  go_wp2_with fail
  have bd : Below w10.heap.size w10 w10.drew := (Below.refl _ _).drew
  refine wp_region_held_drew (S := fun w' => w'.cell? ⟨w7.heap.size, 0, none⟩ = some (.int .i64 z1) ∧ w'.cell? ⟨w7.heap.size, 1, none⟩ = some (.slice at7 n1 kt7) ∧ w'.cell? ⟨w.heap.size, 0, none⟩ = some (.int .i64 z1) ∧ w'.cell? ⟨w.heap.size, 1, none⟩ = some (.slice a1 n1 ca1)) (by kernel_rfl) (by exact ⟨cx10, cx11, caT0, caT1⟩) (fun hS => ?_)
  refine wpAnyH_take (i := 0) (v := (.agg #[.int .i64 z1, .slice at7 n1 kt7])) rfl (by as_aux_lemma => kernel_rfl) (by as_aux_lemma => kernel_rfl) (by as_aux_lemma => kernel_rfl) (fun _ _ _ h => h) (Or.inl ⟨by kernel_rfl, ?_⟩) hS ?_
  · intro w hSw; (try dsimp only at hSw); go_simp
  (try simp only [Act.put, List.getElem_toArray, List.getElem_cons_zero, List.getElem_cons_succ, List.setIfInBounds_toArray, List.set_cons_zero, List.set_cons_succ])
  refine wpAnyH_take (i := 1) (v := (.agg #[.int .i64 z1, .slice a1 n1 ca1])) rfl (by as_aux_lemma => kernel_rfl) (by as_aux_lemma => kernel_rfl) (by as_aux_lemma => kernel_rfl) (fun _ _ _ h => h) (Or.inl ⟨by kernel_rfl, ?_⟩) hS ?_
  · intro w hSw; (try dsimp only at hSw); go_simp
  (try simp only [Act.put, List.getElem_toArray, List.getElem_cons_zero, List.getElem_cons_succ, List.setIfInBounds_toArray, List.set_cons_zero, List.set_cons_succ])
  refine wpAnyH_ready (rs := [2]) (by as_aux_lemma => kernel_rfl) (by simp) ?_
  refine AllReadyH.cons rfl (fun K hK => ?_) AllReadyH.nil
  go_simp
  refine Calls.mono (toTable_row z1 a1 n1 ca1 xs1 _ (hr1.below hb.drew) (by omega)) ?_
  rintro e w11 ⟨vt11, rfl, rt11, hc0⟩
  obtain ⟨at11, kt11, rfl, q1, q2⟩ := rt11.shape
  have Kt11 : Hid _ := And.intro q1 q2
  clear q1 q2
  replace rt11 := TabR.mono (lo' := w10.heap.size) rt11 (Nat.le_refl _) (Nat.le_refl _)
  refine hK.out _ _ ⟨cell_later hc0 hS.1, cell_later hc0 hS.2.1, cell_later hc0 hS.2.2.1, cell_later hc0 hS.2.2.2⟩ (fun hS => ?_)
  clear hK K
  have hc : Below w10.heap.size w10 w11 := bd.trans (hc0.mono (Nat.le_refl _))
  clear hc0 bd
  have s11 : w10.heap.size ≤ w11.heap.size := hc.size
  have bq := hc
  replace caT0 := cell_later bq caT0
  replace caT1 := cell_later bq caT1
  replace zaT := Nat.lt_of_lt_of_le zaT bq.size
  replace cx10 := cell_later bq cx10
  replace cx11 := cell_later bq cx11
  replace zx1 := Nat.lt_of_lt_of_le zx1 bq.size
  replace rt6 := rt6.below bq
  replace rt7 := rt7.below bq
  replace hb := hb.trans (bq.mono hb.size)
  clear hc bq
  refine wpAnyH_ready (rs := [3]) (by as_aux_lemma => kernel_rfl) (by simp) ?_
  refine AllReadyH.cons rfl (fun K hK => ?_) AllReadyH.nil
  go_simp
  refine Calls.mono (eqTable_yes z1 at7 at11 n1 kt7 kt11 xs1 _ rt7.read rt11.read (by omega)) ?_
  rintro e w12 ⟨rfl, hc0⟩
  refine hK.out _ _ ⟨cell_later hc0 hS.1, cell_later hc0 hS.2.1, cell_later hc0 hS.2.2.1, cell_later hc0 hS.2.2.2⟩ (fun hS => ?_)
  clear hK K
  have hc := hc0
  clear hc0
  have s12 : w11.heap.size ≤ w12.heap.size := hc.size
  have bq := hc
  replace caT0 := cell_later bq caT0
  replace caT1 := cell_later bq caT1
  replace zaT := Nat.lt_of_lt_of_le zaT bq.size
  replace cx10 := cell_later bq cx10
  replace cx11 := cell_later bq cx11
  replace zx1 := Nat.lt_of_lt_of_le zx1 bq.size
  replace rt6 := rt6.below bq
  replace rt7 := rt7.below bq
  replace rt11 := rt11.below bq
  replace hb := hb.trans (bq.mono hb.size)
  clear hc bq
  clear rt11 Kt11
  refine wpAnyH_take (i := 4) (v := (.bool false)) rfl (by as_aux_lemma => kernel_rfl) (by as_aux_lemma => kernel_rfl) (by as_aux_lemma => kernel_rfl) (fun _ _ _ h => h) (Or.inl ⟨by kernel_rfl, ?_⟩) hS ?_
  · intro w hSw; (try dsimp only at hSw); go_simp
  (try simp only [Act.put, List.getElem_toArray, List.getElem_cons_zero, List.getElem_cons_succ, List.setIfInBounds_toArray, List.set_cons_zero, List.set_cons_succ])
  refine wpAnyH_done (by kernel_rfl) ?_ _
  clear hS
  go_wp2
  go_ret
  exact ⟨rfl, hb⟩

theorem own : ownKnob Try.prog.godebug = none := by kernel_rfl
theorem laidOut : laidOutB Try.prog = true := by kernel_rfl

set_option maxRecDepth 100000 in
theorem lifted (os : Os) (started : os.Started) (H : Type) (enc : TypeId × Value → H) :
    ReturnsInHanded {} Try.checked os 9 .any (Rows.fnExactTableTrueSpec.pre6 enc Try.prog Try.f9 Rows.fnExactTableTrueRow.domain false) (Rows.fnExactTableTrueSpec.post enc Try.prog Try.f9 false true false false) := by
  refine returnsInHanded_of_change (C := Try.checked) own started (by kernel_rfl) Try.func9
    (ChangeSpec.witness6 (enc := enc) (C := Try.checked) false ⟨#[], #[.slice none 0 0, .agg #[.int .i64 0, .slice none 0 0]], []⟩ 8 (by kernel_rfl) (by kernel_rfl) (by kernel_rfl) (by kernel_rfl)) ?_
  intro W base args ds gs before hval0 hW hcnd _
  have hval : ∀ (j : Nat) t v, Try.f9.params[j]? = some t → args[j]? = some v → Value.okWide Try.prog W .any base t v := hval0
  have hW' := hW
  obtain ⟨p, q, hA0, hV, rfl, hfz, hnd⟩ := hW
  have hA : DataW.TrodAll enc Try.prog W 0 (fun _ => true) true Try.f9.params.toList args.toList ds p := hA0
  rw [Try.params9] at hA hval
  obtain ⟨v0, v1, d0, d1, p0, p1, rfl, rfl, rfl, h0, h1⟩ := trodAll_two hA
  obtain ⟨rfl, rfl⟩ := trodVars_none hV
  have k0 := h0
  have lt0 : ∀ x ∈ p0, x.block < W.heap.size := by obtain ⟨m, hm⟩ := k0; exact DataW.trod_lt m _ _ _ hm
  obtain ⟨a0, len0, cap0, rfl⟩ := okWide_slice Try.underlying61 (hval 0 61 v0 rfl rfl)
  obtain ⟨x0, hr0, hs0, hl0, hm0⟩ := open_insts h0
  have k1 := h1
  have lt1 : ∀ x ∈ p1, x.block < W.heap.size := by obtain ⟨m, hm⟩ := k1; exact DataW.trod_lt m _ _ _ hm
  obtain ⟨z1, a1, len1, cap1, x1, rfl, hr1, hm1⟩ := open_table (hval 1 64 v1 rfl rfl) h1
  clear hA0 hval0
  refine (walk a0 len0 cap0 x0 z1 a1 len1 cap1 x1 W hr0 hs0 (by omega) hr1 hm1).mono fun e W' ⟨he, bel⟩ => ?_
  subst he
  exact ⟨_, rfl, _, _, _, [], _, [], hW', trodAll_mk1 (shut_bool Try.underlying4 _), trodAll_mk2 (Below.trod laidOut (by kernel_rfl) (of_decide_eq_true (by kernel_rfl)) k0 bel lt0) (Below.trod laidOut (by kernel_rfl) (of_decide_eq_true (by kernel_rfl)) k1 bel lt1), rfl, bel.frame _, fun h => by cases h⟩

theorem proved : Rows.FnExactTableTrueSaid :=
  OpenClaim.holds_of_wide 9 Try.f9 rfl rfl rfl rfl rfl rfl rfl ⟨rfl, rfl, rfl, rfl, rfl⟩ rfl rfl rfl rfl rfl (by kernel_rfl) Try.func9 (by kernel_rfl)
    (of_decide_eq_true (by kernel_rfl)) (by unfold Func.isWrapper; first | (rw [if_pos (by decide +kernel)]; kernel_rfl) | (rw [if_neg (by decide +kernel)]; exact ⟨rfl, rfl⟩))
    (fun os started H enc _ => lifted os started H enc)
end Go.Proofs.Ytoggkcgldckekaa.fnExactTableTrue
namespace Go.Proofs.Ytoggkcgldckekaa
theorem fnExactTableTrue_proved : Rows.FnExactTableTrueSaid := fnExactTableTrue.proved
end Go.Proofs.Ytoggkcgldckekaa
