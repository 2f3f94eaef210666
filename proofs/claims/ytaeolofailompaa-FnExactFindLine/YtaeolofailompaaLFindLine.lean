/-
  For every list of instructions, file, numbers and direction, FnExactFindLine returns true: the program's FindLine answers as the model and writes into no argument; no condition.
-/
import Derived.Test.YtaeolofailompaaFnd4
import Derived.Test.YtaeolofailompaaHlpNA
import Derived.Test.YtaeolofailompaaHlpA
import Derived.Test.YtaeolofailompaaArgsA
import Derived.Test.YtaeolofailompaaJoin
import Derived.Test.YtaeolofailompaaFive
import Derived.ProofKit
import Derived.OpenShut
import Derived.ChangeOld
import Derived.Below
import Derived.Carry
import Derived.Deep.RegionWith
import Derived.Deep.RegionHeld3
namespace Go.Proofs.Ytaeolofailompaa.fnExactFindLine
open Go.ChangeShapes Go.WideShapes Go.ChangeAt Go.RowKit
set_option linter.unusedVariables false
set_option linter.unusedSimpArgs false

set_option maxRecDepth 10000 in
set_option maxHeartbeats 6400000 in
theorem walk (ap0 : Option Addr) (n0 kp0 : Nat) (xs0 : List In) (ap1 : Option Addr) (n1 kp1 : Nat) (xs1 : List Int) (I2 : Int) (I3 : Int) (B4 : Bool) (w : World) (hr0 : RdR inE 8 w ap0 n0 xs0) (hz0 : ∀ y ∈ xs0, y.s.size ≤ maxLen) (hm0 : n0 ≤ maxLen) (hr1 : Rd .u8 w ap1 n1 xs1) (hB1 : Bytes xs1) (hm1 : n1 ≤ maxLen) :
    Calls Try.prog 10 #[.slice ap0 n0 kp0, .agg #[.slice ap1 n1 kp1], .int .i64 I2, .int .i64 I3, .bool B4] w fun e w' => e = .returned (.bool true) ∧ Below w.heap.size w w' := by
  unfold maxLen at hm1
  have hsz := fun w' ha' => szInstS_any ap0 n0 kp0 xs0 1048576 w' ha' hz0 hm0 (by omega) (by omega)
  by_cases hn0 : 1048576 < (n0 : Int) + inSum xs0
  case pos =>
    rw [if_pos hn0] at hsz
    have HZ0 : Hid _ := hsz
    clear hsz
    go_enter Try.func10, Try.ntmps10
    have hb : Below w.heap.size w w := Below.refl _ _
    go_wp2_with fail
    have bp : ∀ o0, Below w.heap.size w (w.alloc o0) := fun o0 => (Below.refl _ _).alloc (Nat.le_refl _) o0
    have hbt : ∀ o0, Below w.heap.size w (w.alloc o0) := fun o0 => hb.trans ((bp o0).mono hb.size)
    refine Calls.mono (HZ0.out _ (hr0.below (hbt _))) ?_
    rintro e w1 ⟨rfl, hc⟩
    have s1 : w.heap.size + 1 ≤ w1.heap.size := by have := hc.size; simp at this; omega
    have bq : Below w.heap.size w w1 := (bp _).trans (hc.mono (bp _).size)
    have cb60 : w1.cell? ⟨w.heap.size, 0, none⟩ = some (.slice ap1 n1 kp1) := cell_later hc (by simp [go_sem])
    have zb6 : w.heap.size < w1.heap.size := by omega
    replace hb := hb.trans (bq.mono hb.size)
    clear hc bq bp hbt
    go_wp2
    go_ret
    exact ⟨rfl, hb⟩
  rw [if_neg hn0] at hsz
  have hN0 : n0 ≤ 1048576 := by omega
  have hS0 : inSum xs0 ≤ 1048576 := by omega
  obtain ⟨left, hleft⟩ : ∃ left, left = (1048576 - (n0 : Int) - inSum xs0) := ⟨_, rfl⟩
  have hl0 : 0 ≤ left := by omega
  have hl1 : left ≤ 1048576 := by omega
  rw [← hleft] at hsz
  have HZ0 : Hid _ := hsz
  clear hsz hleft hn0 hm0
  by_cases hn1 : (n1 : Int) ≤ left
  case neg =>
    go_enter Try.func10, Try.ntmps10
    have hb : Below w.heap.size w w := Below.refl _ _
    go_wp2_with fail
    have bp : ∀ o0, Below w.heap.size w (w.alloc o0) := fun o0 => (Below.refl _ _).alloc (Nat.le_refl _) o0
    have hbt : ∀ o0, Below w.heap.size w (w.alloc o0) := fun o0 => hb.trans ((bp o0).mono hb.size)
    refine Calls.mono (HZ0.out _ (hr0.below (hbt _))) ?_
    rintro e w1 ⟨rfl, hc⟩
    have s1 : w.heap.size + 1 ≤ w1.heap.size := by have := hc.size; simp at this; omega
    have bq : Below w.heap.size w w1 := (bp _).trans (hc.mono (bp _).size)
    have cb60 : w1.cell? ⟨w.heap.size, 0, none⟩ = some (.slice ap1 n1 kp1) := cell_later hc (by simp [go_sem])
    have zb6 : w.heap.size < w1.heap.size := by omega
    replace hb := hb.trans (bq.mono hb.size)
    clear hc bq bp hbt
    have hleft1 : ¬ left < 0 := by omega
    go_wp2_with fail
    refine Calls.mono (szFile_no ap1 n1 kp1 left _ (by omega) (by unfold maxLen; omega) (by omega) (by omega)) ?_
    rintro e w2 ⟨rfl, hc⟩
    have s2 : w1.heap.size ≤ w2.heap.size := hc.size
    have bq := hc
    replace cb60 := cell_later bq cb60
    replace zb6 := Nat.lt_of_lt_of_le zb6 bq.size
    replace hb := hb.trans (bq.mono hb.size)
    clear hc bq
    go_wp2
    go_ret
    exact ⟨rfl, hb⟩
  have SC := fun (A0 : Option Addr) (C0 : Nat) (A1 : Option Addr) (C1 : Nat) (W' : World) (H0 : RdR inE 8 W' A0 n0 xs0) (J0 : n0 ≤ C0) (M0 : C0 ≤ maxLen) (H1 : Rd .u8 W' A1 n1 xs1) (J1 : n1 ≤ C1) (M1 : C1 ≤ maxLen) => specFindLine_any A0 n0 C0 xs0 A1 n1 C1 xs1 I2 I3 B4 W' H0 hS0 hN0 H1 hB1 (by omega) J1 M1
  have IC := fun (A0 : Option Addr) (C0 : Nat) (A1 : Option Addr) (C1 : Nat) (W' : World) (H0 : RdR inE 8 W' A0 n0 xs0) (J0 : n0 ≤ C0) (M0 : C0 ≤ maxLen) (H1 : Rd .u8 W' A1 n1 xs1) (J1 : n1 ≤ C1) (M1 : C1 ≤ maxLen) => implFindLine_any A0 n0 C0 xs0 A1 n1 C1 xs1 I2 I3 B4 W' H0 hS0 hN0 H1 hB1 (by omega) J1 M1
  generalize fdC xs0 xs1 I2 I3 = p0 at *
  generalize fdV xs0 xs1 I2 I3 B4 = p1 at *
  have HSC : Hid _ := SC
  have HIC : Hid _ := IC
  clear SC IC
  go_enter Try.func10, Try.ntmps10
  have hb : Below w.heap.size w w := Below.refl _ _
  go_wp2_with fail
  have bp : ∀ o0, Below w.heap.size w (w.alloc o0) := fun o0 => (Below.refl _ _).alloc (Nat.le_refl _) o0
  have hbt : ∀ o0, Below w.heap.size w (w.alloc o0) := fun o0 => hb.trans ((bp o0).mono hb.size)
  refine Calls.mono (HZ0.out _ (hr0.below (hbt _))) ?_
  rintro e w1 ⟨rfl, hc⟩
  have s1 : w.heap.size + 1 ≤ w1.heap.size := by have := hc.size; simp at this; omega
  have bq : Below w.heap.size w w1 := (bp _).trans (hc.mono (bp _).size)
  have cb60 : w1.cell? ⟨w.heap.size, 0, none⟩ = some (.slice ap1 n1 kp1) := cell_later hc (by simp [go_sem])
  have zb6 : w.heap.size < w1.heap.size := by omega
  replace hb := hb.trans (bq.mono hb.size)
  clear hc bq bp hbt
  have hleft1 : ¬ left < 0 := by omega
  go_wp2_with fail
  refine Calls.mono (szFile_yes ap1 n1 kp1 left _ (by omega) (by omega)) ?_
  rintro e w2 ⟨rfl, hc⟩
  have s2 : w1.heap.size ≤ w2.heap.size := hc.size
  have bq := hc
  replace cb60 := cell_later bq cb60
  replace zb6 := Nat.lt_of_lt_of_le zb6 bq.size
  replace hb := hb.trans (bq.mono hb.size)
  clear hc bq
  have hleft2 : ¬ (left - (n1 : Int)) < 0 := by omega
  go_wp2_with fail
  refine region_join (fun a a' w' => ∃ (B : Nat) (u0 : Option Addr) (q0 : Nat) (u1 : Option Addr) (q1 : Nat), a' = (((((((((a.put (some 26) (.slice ap0 n0 kp0)).put (some 27) ((.slice u0 n0 q0))).put (some 28) (.agg #[.slice ap1 n1 kp1])).put (some 29) (.agg #[(.slice u1 n1 q1)])).put (some 30) (.int .i64 I2)).put (some 31) (.int .i64 I3)).put (some 32) (.bool B4)).put (some 33) (.agg #[.int .i64 p0, .int .i64 p1])).put (some 12) (.pointer (some ⟨B, 0, none⟩))) ∧ Below w2.heap.size w2 w' ∧ w2.heap.size ≤ B ∧ B < w'.heap.size ∧ w'.cell? ⟨B, 0, none⟩ = some (.int .i64 p0) ∧ w'.cell? ⟨B, 1, none⟩ = some (.int .i64 p1)) ?_ ?_
  · skip
    have ob60 := cb60
    have bd : Below w2.heap.size w2 w2.drew := (Below.refl _ _).drew
    refine wp_region_held_drew (S := fun w' => Below w2.heap.size w2 w') (by kernel_rfl) bd (fun hS => ?_)
    obtain ⟨D, hD⟩ : ∃ D, w2.drew = D := ⟨_, rfl⟩
    rw [hD] at hS bd ⊢
    have hc := bd
    clear hD bd
    have s3 : w2.heap.size ≤ D.heap.size := hc.size
    have bq := hc
    replace cb60 := cell_later bq cb60
    replace zb6 := Nat.lt_of_lt_of_le zb6 bq.size
    replace hb := hb.trans (bq.mono hb.size)
    clear hc bq
    refine wpAnyH_take (i := 0) (v := (.slice ap0 n0 kp0)) rfl (by as_aux_lemma => kernel_rfl) (by as_aux_lemma => kernel_rfl) (by as_aux_lemma => kernel_rfl) (fun _ _ _ h => nomatch h.1) (Or.inl ⟨by kernel_rfl, ?_⟩) hS ?_
    · intro w hSw; (try dsimp only at hSw); go_simp
    (try simp only [Act.put, List.getElem_toArray, List.getElem_cons_zero, List.getElem_cons_succ, List.setIfInBounds_toArray, List.set_cons_zero, List.set_cons_succ])
    refine wpAnyH_take (i := 2) (v := (.agg #[.slice ap1 n1 kp1])) rfl (by as_aux_lemma => kernel_rfl) (by as_aux_lemma => kernel_rfl) (by as_aux_lemma => kernel_rfl) (fun _ _ _ h => nomatch h.1) (Or.inl ⟨by kernel_rfl, ?_⟩) hS ?_
    · intro w hSw; (try dsimp only at hSw); have hl0 := cell_later hSw ob60; go_simp
    (try simp only [Act.put, List.getElem_toArray, List.getElem_cons_zero, List.getElem_cons_succ, List.setIfInBounds_toArray, List.set_cons_zero, List.set_cons_succ])
    refine wpAnyH_take (i := 4) (v := (.int .i64 I2)) rfl (by as_aux_lemma => kernel_rfl) (by as_aux_lemma => kernel_rfl) (by as_aux_lemma => kernel_rfl) (fun _ _ _ h => nomatch h.1) (Or.inl ⟨by kernel_rfl, ?_⟩) hS ?_
    · intro w hSw; (try dsimp only at hSw); go_simp
    (try simp only [Act.put, List.getElem_toArray, List.getElem_cons_zero, List.getElem_cons_succ, List.setIfInBounds_toArray, List.set_cons_zero, List.set_cons_succ])
    refine wpAnyH_take (i := 5) (v := (.int .i64 I3)) rfl (by as_aux_lemma => kernel_rfl) (by as_aux_lemma => kernel_rfl) (by as_aux_lemma => kernel_rfl) (fun _ _ _ h => nomatch h.1) (Or.inl ⟨by kernel_rfl, ?_⟩) hS ?_
    · intro w hSw; (try dsimp only at hSw); go_simp
    (try simp only [Act.put, List.getElem_toArray, List.getElem_cons_zero, List.getElem_cons_succ, List.setIfInBounds_toArray, List.set_cons_zero, List.set_cons_succ])
    refine wpAnyH_take (i := 6) (v := (.bool B4)) rfl (by as_aux_lemma => kernel_rfl) (by as_aux_lemma => kernel_rfl) (by as_aux_lemma => kernel_rfl) (fun _ _ _ h => nomatch h.1) (Or.inl ⟨by kernel_rfl, ?_⟩) hS ?_
    · intro w hSw; (try dsimp only at hSw); go_simp
    (try simp only [Act.put, List.getElem_toArray, List.getElem_cons_zero, List.getElem_cons_succ, List.setIfInBounds_toArray, List.set_cons_zero, List.set_cons_succ])
    refine wpAnyH_ready (rs := [1, 8]) (by as_aux_lemma => kernel_rfl) (by simp) ?_
    refine AllReadyH.cons rfl (fun K hK => ?_) (AllReadyH.cons rfl (fun K hK => ?_) AllReadyH.nil)
    · skip
      go_simp
      refine Calls.mono (toInstS_row ap0 n0 kp0 xs0 _ (hr0.below hb) (by omega)) ?_
      rintro e w4 ⟨vt1, rfl, rt1, hc⟩
      obtain ⟨at1, kt1, rfl, q1, q2⟩ := (RowS.shape inE_len rt1)
      have Kt1 : Hid _ := And.intro q1 q2
      clear q1 q2
      refine hK.out _ _ (hS.trans (hc.mono hS.size)) (fun hS => ?_)
      clear hK K
      (try simp only [Act.put, List.getElem_toArray, List.getElem_cons_zero, List.getElem_cons_succ, List.setIfInBounds_toArray, List.set_cons_zero, List.set_cons_succ])
      have s4 : D.heap.size ≤ w4.heap.size := hc.size
      have bq := hc
      replace cb60 := cell_later bq cb60
      replace zb6 := Nat.lt_of_lt_of_le zb6 bq.size
      replace hb := hb.trans (bq.mono hb.size)
      clear hc bq
      refine wpAnyH_ready (rs := [3, 8]) (by as_aux_lemma => kernel_rfl) (by simp) ?_
      refine AllReadyH.cons rfl (fun K hK => ?_) (AllReadyH.cons rfl (fun K hK => ?_) AllReadyH.nil)
      · skip
        go_simp
        refine Calls.mono (toFile_any ap1 n1 kp1 xs1 _ (hr1.below hb) (by omega)) ?_
        rintro e w5 ⟨vt2, rfl, rt2, hc⟩
        obtain ⟨at2, kt2, rfl, q1, q2⟩ := rt2.shape
        have Kt2 : Hid _ := And.intro q1 q2
        clear q1 q2
        refine hK.out _ _ (hS.trans (hc.mono hS.size)) (fun hS => ?_)
        clear hK K
        (try simp only [Act.put, List.getElem_toArray, List.getElem_cons_zero, List.getElem_cons_succ, List.setIfInBounds_toArray, List.set_cons_zero, List.set_cons_succ])
        have s5 : w4.heap.size ≤ w5.heap.size := hc.size
        have bq := hc
        replace cb60 := cell_later bq cb60
        replace zb6 := Nat.lt_of_lt_of_le zb6 bq.size
        replace rt1 := rt1.below bq
        replace hb := hb.trans (bq.mono hb.size)
        clear hc bq
        refine wpAnyH_ready (rs := [7, 8]) (by as_aux_lemma => kernel_rfl) (by simp) ?_
        refine AllReadyH.cons rfl (fun K hK => ?_) (AllReadyH.cons rfl (fun K hK => ?_) AllReadyH.nil)
        · skip
          go_simp
          refine Calls.mono (HSC.out at1 kt1 at2 kt2 _ (RowS.read inE_len rt1) Kt1.out.1 Kt1.out.2 rt2.read Kt2.out.1 Kt2.out.2) ?_
          rintro e w6 ⟨rfl, hc⟩
          refine hK.out _ _ (hS.trans (hc.mono hS.size)) (fun hS => ?_)
          clear hK K
          (try simp only [Act.put, List.getElem_toArray, List.getElem_cons_zero, List.getElem_cons_succ, List.setIfInBounds_toArray, List.set_cons_zero, List.set_cons_succ])
          have s6 : w5.heap.size ≤ w6.heap.size := hc.size
          have bq := hc
          replace cb60 := cell_later bq cb60
          replace zb6 := Nat.lt_of_lt_of_le zb6 bq.size
          replace rt1 := rt1.below bq
          replace rt2 := rt2.below bq
          replace hb := hb.trans (bq.mono hb.size)
          clear hc bq
          refine wpAnyH_ready (rs := [8]) (by as_aux_lemma => kernel_rfl) (by simp) ?_
          refine AllReadyH.cons rfl (fun K hK => ?_) AllReadyH.nil
          go_simp
          refine hK.out _ _ (hS.alloc hS.size _) (fun hS => ?_)
          clear hK K
          (try simp only [Act.put, List.getElem_toArray, List.getElem_cons_zero, List.getElem_cons_succ, List.setIfInBounds_toArray, List.set_cons_zero, List.set_cons_succ])
          have hB := Blk.new w6 #[.int .i64 0, .int .i64 0] 83
          have hc : Below w6.heap.size w6 (w6.alloc (.cells #[.int .i64 0, .int .i64 0] 83)) := (Below.refl _ _).alloc (Nat.le_refl _) _
          have ltA := hB.lt
          generalize w6.alloc (.cells #[.int .i64 0, .int .i64 0] 83) = yA at *
          have s7 : w6.heap.size ≤ yA.heap.size := hc.size
          have bq := hc
          replace cb60 := cell_later bq cb60
          replace zb6 := Nat.lt_of_lt_of_le zb6 bq.size
          replace rt1 := rt1.below bq
          replace rt2 := rt2.below bq
          replace hb := hb.trans (bq.mono hb.size)
          clear hc bq
          have d0 : yA.cell? ⟨w6.heap.size, 0, none⟩ = some (.int .i64 0) := hB.cell 0
          have df0 := hB.frozen 0
          have d1 : yA.cell? ⟨w6.heap.size, 1, none⟩ = some (.int .i64 0) := hB.cell 1
          have df1 := hB.frozen 1
          refine wpAnyH_ready (rs := [9]) (by as_aux_lemma => kernel_rfl) (by simp) ?_
          refine AllReadyH.cons rfl (fun K hK => ?_) AllReadyH.nil
          have HBB := hid hB
          clear hB
          go_simp
          have hWs : w2.heap.size ≤ w6.heap.size := by omega
          refine hK.out _ _ (((hS.setCell hWs _).setCell hWs _)) (fun hS => ?_)
          clear hK K
          (try simp only [Act.put, List.getElem_toArray, List.getElem_cons_zero, List.getElem_cons_succ, List.setIfInBounds_toArray, List.set_cons_zero, List.set_cons_succ])
          have hbl := ((HBB.out.set (i := 0) (.int .i64 p0)).set (i := 1) (.int .i64 p1))
          simp only [List.setIfInBounds_toArray, List.set_cons_zero, List.set_cons_succ] at hbl
          have hx0 := hbl.cell 0
          simp only [List.getElem?_toArray, List.getElem?_cons_zero, List.getElem?_cons_succ] at hx0
          have hx1 := hbl.cell 1
          simp only [List.getElem?_toArray, List.getElem?_cons_zero, List.getElem?_cons_succ] at hx1
          refine wpAnyH_done (by kernel_rfl) ?_ _
          refine ⟨rfl, w6.heap.size, at1, kt1, at2, kt2, ?_, hS, hWs, ?_, hx0, hx1⟩
          · simp only [Act.put, List.getElem_toArray, List.getElem_cons_zero, List.getElem_cons_succ, List.setIfInBounds_toArray, List.set_cons_zero, List.set_cons_succ]
          all_goals (try simp only [size_set])
          all_goals omega
        · skip
          go_simp
          refine hK.out _ _ (hS.alloc hS.size _) (fun hS => ?_)
          clear hK K
          (try simp only [Act.put, List.getElem_toArray, List.getElem_cons_zero, List.getElem_cons_succ, List.setIfInBounds_toArray, List.set_cons_zero, List.set_cons_succ])
          have hB := Blk.new w5 #[.int .i64 0, .int .i64 0] 83
          have hc : Below w5.heap.size w5 (w5.alloc (.cells #[.int .i64 0, .int .i64 0] 83)) := (Below.refl _ _).alloc (Nat.le_refl _) _
          have ltA := hB.lt
          generalize w5.alloc (.cells #[.int .i64 0, .int .i64 0] 83) = yA at *
          have s6 : w5.heap.size ≤ yA.heap.size := hc.size
          have bq := hc
          replace cb60 := cell_later bq cb60
          replace zb6 := Nat.lt_of_lt_of_le zb6 bq.size
          replace rt1 := rt1.below bq
          replace rt2 := rt2.below bq
          replace hb := hb.trans (bq.mono hb.size)
          clear hc bq
          refine wpAnyH_ready (rs := [7]) (by as_aux_lemma => kernel_rfl) (by simp) ?_
          refine AllReadyH.cons rfl (fun K hK => ?_) AllReadyH.nil
          go_simp
          refine Calls.mono (HSC.out at1 kt1 at2 kt2 _ (RowS.read inE_len rt1) Kt1.out.1 Kt1.out.2 rt2.read Kt2.out.1 Kt2.out.2) ?_
          rintro e w7 ⟨rfl, hc⟩
          replace hB := hB.below hc
          refine hK.out _ _ (hS.trans (hc.mono hS.size)) (fun hS => ?_)
          clear hK K
          (try simp only [Act.put, List.getElem_toArray, List.getElem_cons_zero, List.getElem_cons_succ, List.setIfInBounds_toArray, List.set_cons_zero, List.set_cons_succ])
          have s7 : yA.heap.size ≤ w7.heap.size := hc.size
          have bq := hc
          replace cb60 := cell_later bq cb60
          replace zb6 := Nat.lt_of_lt_of_le zb6 bq.size
          replace rt1 := rt1.below bq
          replace rt2 := rt2.below bq
          replace hb := hb.trans (bq.mono hb.size)
          clear hc bq
          have d0 : w7.cell? ⟨w5.heap.size, 0, none⟩ = some (.int .i64 0) := hB.cell 0
          have df0 := hB.frozen 0
          have d1 : w7.cell? ⟨w5.heap.size, 1, none⟩ = some (.int .i64 0) := hB.cell 1
          have df1 := hB.frozen 1
          refine wpAnyH_ready (rs := [9]) (by as_aux_lemma => kernel_rfl) (by simp) ?_
          refine AllReadyH.cons rfl (fun K hK => ?_) AllReadyH.nil
          have HBB := hid hB
          clear hB
          go_simp
          have hWs : w2.heap.size ≤ w5.heap.size := by omega
          refine hK.out _ _ (((hS.setCell hWs _).setCell hWs _)) (fun hS => ?_)
          clear hK K
          (try simp only [Act.put, List.getElem_toArray, List.getElem_cons_zero, List.getElem_cons_succ, List.setIfInBounds_toArray, List.set_cons_zero, List.set_cons_succ])
          have hbl := ((HBB.out.set (i := 0) (.int .i64 p0)).set (i := 1) (.int .i64 p1))
          simp only [List.setIfInBounds_toArray, List.set_cons_zero, List.set_cons_succ] at hbl
          have hx0 := hbl.cell 0
          simp only [List.getElem?_toArray, List.getElem?_cons_zero, List.getElem?_cons_succ] at hx0
          have hx1 := hbl.cell 1
          simp only [List.getElem?_toArray, List.getElem?_cons_zero, List.getElem?_cons_succ] at hx1
          refine wpAnyH_done (by kernel_rfl) ?_ _
          refine ⟨rfl, w5.heap.size, at1, kt1, at2, kt2, ?_, hS, hWs, ?_, hx0, hx1⟩
          · simp only [Act.put, List.getElem_toArray, List.getElem_cons_zero, List.getElem_cons_succ, List.setIfInBounds_toArray, List.set_cons_zero, List.set_cons_succ]
          all_goals (try simp only [size_set])
          all_goals omega
      · skip
        go_simp
        refine hK.out _ _ (hS.alloc hS.size _) (fun hS => ?_)
        clear hK K
        (try simp only [Act.put, List.getElem_toArray, List.getElem_cons_zero, List.getElem_cons_succ, List.setIfInBounds_toArray, List.set_cons_zero, List.set_cons_succ])
        have hB := Blk.new w4 #[.int .i64 0, .int .i64 0] 83
        have hc : Below w4.heap.size w4 (w4.alloc (.cells #[.int .i64 0, .int .i64 0] 83)) := (Below.refl _ _).alloc (Nat.le_refl _) _
        have ltA := hB.lt
        generalize w4.alloc (.cells #[.int .i64 0, .int .i64 0] 83) = yA at *
        have s5 : w4.heap.size ≤ yA.heap.size := hc.size
        have bq := hc
        replace cb60 := cell_later bq cb60
        replace zb6 := Nat.lt_of_lt_of_le zb6 bq.size
        replace rt1 := rt1.below bq
        replace hb := hb.trans (bq.mono hb.size)
        clear hc bq
        refine wpAnyH_ready (rs := [3]) (by as_aux_lemma => kernel_rfl) (by simp) ?_
        refine AllReadyH.cons rfl (fun K hK => ?_) AllReadyH.nil
        go_simp
        refine Calls.mono (toFile_any ap1 n1 kp1 xs1 _ (hr1.below hb) (by omega)) ?_
        rintro e w6 ⟨vt2, rfl, rt2, hc⟩
        obtain ⟨at2, kt2, rfl, q1, q2⟩ := rt2.shape
        have Kt2 : Hid _ := And.intro q1 q2
        clear q1 q2
        replace hB := hB.below hc
        refine hK.out _ _ (hS.trans (hc.mono hS.size)) (fun hS => ?_)
        clear hK K
        (try simp only [Act.put, List.getElem_toArray, List.getElem_cons_zero, List.getElem_cons_succ, List.setIfInBounds_toArray, List.set_cons_zero, List.set_cons_succ])
        have s6 : yA.heap.size ≤ w6.heap.size := hc.size
        have bq := hc
        replace cb60 := cell_later bq cb60
        replace zb6 := Nat.lt_of_lt_of_le zb6 bq.size
        replace rt1 := rt1.below bq
        replace hb := hb.trans (bq.mono hb.size)
        clear hc bq
        refine wpAnyH_ready (rs := [7]) (by as_aux_lemma => kernel_rfl) (by simp) ?_
        refine AllReadyH.cons rfl (fun K hK => ?_) AllReadyH.nil
        go_simp
        refine Calls.mono (HSC.out at1 kt1 at2 kt2 _ (RowS.read inE_len rt1) Kt1.out.1 Kt1.out.2 rt2.read Kt2.out.1 Kt2.out.2) ?_
        rintro e w7 ⟨rfl, hc⟩
        replace hB := hB.below hc
        refine hK.out _ _ (hS.trans (hc.mono hS.size)) (fun hS => ?_)
        clear hK K
        (try simp only [Act.put, List.getElem_toArray, List.getElem_cons_zero, List.getElem_cons_succ, List.setIfInBounds_toArray, List.set_cons_zero, List.set_cons_succ])
        have s7 : w6.heap.size ≤ w7.heap.size := hc.size
        have bq := hc
        replace cb60 := cell_later bq cb60
        replace zb6 := Nat.lt_of_lt_of_le zb6 bq.size
        replace rt1 := rt1.below bq
        replace rt2 := rt2.below bq
        replace hb := hb.trans (bq.mono hb.size)
        clear hc bq
        have d0 : w7.cell? ⟨w4.heap.size, 0, none⟩ = some (.int .i64 0) := hB.cell 0
        have df0 := hB.frozen 0
        have d1 : w7.cell? ⟨w4.heap.size, 1, none⟩ = some (.int .i64 0) := hB.cell 1
        have df1 := hB.frozen 1
        refine wpAnyH_ready (rs := [9]) (by as_aux_lemma => kernel_rfl) (by simp) ?_
        refine AllReadyH.cons rfl (fun K hK => ?_) AllReadyH.nil
        have HBB := hid hB
        clear hB
        go_simp
        have hWs : w2.heap.size ≤ w4.heap.size := by omega
        refine hK.out _ _ (((hS.setCell hWs _).setCell hWs _)) (fun hS => ?_)
        clear hK K
        (try simp only [Act.put, List.getElem_toArray, List.getElem_cons_zero, List.getElem_cons_succ, List.setIfInBounds_toArray, List.set_cons_zero, List.set_cons_succ])
        have hbl := ((HBB.out.set (i := 0) (.int .i64 p0)).set (i := 1) (.int .i64 p1))
        simp only [List.setIfInBounds_toArray, List.set_cons_zero, List.set_cons_succ] at hbl
        have hx0 := hbl.cell 0
        simp only [List.getElem?_toArray, List.getElem?_cons_zero, List.getElem?_cons_succ] at hx0
        have hx1 := hbl.cell 1
        simp only [List.getElem?_toArray, List.getElem?_cons_zero, List.getElem?_cons_succ] at hx1
        refine wpAnyH_done (by kernel_rfl) ?_ _
        refine ⟨rfl, w4.heap.size, at1, kt1, at2, kt2, ?_, hS, hWs, ?_, hx0, hx1⟩
        · simp only [Act.put, List.getElem_toArray, List.getElem_cons_zero, List.getElem_cons_succ, List.setIfInBounds_toArray, List.set_cons_zero, List.set_cons_succ]
        all_goals (try simp only [size_set])
        all_goals omega
    · skip
      go_simp
      refine hK.out _ _ (hS.alloc hS.size _) (fun hS => ?_)
      clear hK K
      (try simp only [Act.put, List.getElem_toArray, List.getElem_cons_zero, List.getElem_cons_succ, List.setIfInBounds_toArray, List.set_cons_zero, List.set_cons_succ])
      have hB := Blk.new D #[.int .i64 0, .int .i64 0] 83
      have hc : Below D.heap.size D (D.alloc (.cells #[.int .i64 0, .int .i64 0] 83)) := (Below.refl _ _).alloc (Nat.le_refl _) _
      have ltA := hB.lt
      generalize D.alloc (.cells #[.int .i64 0, .int .i64 0] 83) = yA at *
      have s4 : D.heap.size ≤ yA.heap.size := hc.size
      have bq := hc
      replace cb60 := cell_later bq cb60
      replace zb6 := Nat.lt_of_lt_of_le zb6 bq.size
      replace hb := hb.trans (bq.mono hb.size)
      clear hc bq
      refine wpAnyH_ready (rs := [1]) (by as_aux_lemma => kernel_rfl) (by simp) ?_
      refine AllReadyH.cons rfl (fun K hK => ?_) AllReadyH.nil
      go_simp
      refine Calls.mono (toInstS_row ap0 n0 kp0 xs0 _ (hr0.below hb) (by omega)) ?_
      rintro e w5 ⟨vt1, rfl, rt1, hc⟩
      obtain ⟨at1, kt1, rfl, q1, q2⟩ := (RowS.shape inE_len rt1)
      have Kt1 : Hid _ := And.intro q1 q2
      clear q1 q2
      replace hB := hB.below hc
      refine hK.out _ _ (hS.trans (hc.mono hS.size)) (fun hS => ?_)
      clear hK K
      (try simp only [Act.put, List.getElem_toArray, List.getElem_cons_zero, List.getElem_cons_succ, List.setIfInBounds_toArray, List.set_cons_zero, List.set_cons_succ])
      have s5 : yA.heap.size ≤ w5.heap.size := hc.size
      have bq := hc
      replace cb60 := cell_later bq cb60
      replace zb6 := Nat.lt_of_lt_of_le zb6 bq.size
      replace hb := hb.trans (bq.mono hb.size)
      clear hc bq
      refine wpAnyH_ready (rs := [3]) (by as_aux_lemma => kernel_rfl) (by simp) ?_
      refine AllReadyH.cons rfl (fun K hK => ?_) AllReadyH.nil
      go_simp
      refine Calls.mono (toFile_any ap1 n1 kp1 xs1 _ (hr1.below hb) (by omega)) ?_
      rintro e w6 ⟨vt2, rfl, rt2, hc⟩
      obtain ⟨at2, kt2, rfl, q1, q2⟩ := rt2.shape
      have Kt2 : Hid _ := And.intro q1 q2
      clear q1 q2
      replace hB := hB.below hc
      refine hK.out _ _ (hS.trans (hc.mono hS.size)) (fun hS => ?_)
      clear hK K
      (try simp only [Act.put, List.getElem_toArray, List.getElem_cons_zero, List.getElem_cons_succ, List.setIfInBounds_toArray, List.set_cons_zero, List.set_cons_succ])
      have s6 : w5.heap.size ≤ w6.heap.size := hc.size
      have bq := hc
      replace cb60 := cell_later bq cb60
      replace zb6 := Nat.lt_of_lt_of_le zb6 bq.size
      replace rt1 := rt1.below bq
      replace hb := hb.trans (bq.mono hb.size)
      clear hc bq
      refine wpAnyH_ready (rs := [7]) (by as_aux_lemma => kernel_rfl) (by simp) ?_
      refine AllReadyH.cons rfl (fun K hK => ?_) AllReadyH.nil
      go_simp
      refine Calls.mono (HSC.out at1 kt1 at2 kt2 _ (RowS.read inE_len rt1) Kt1.out.1 Kt1.out.2 rt2.read Kt2.out.1 Kt2.out.2) ?_
      rintro e w7 ⟨rfl, hc⟩
      replace hB := hB.below hc
      refine hK.out _ _ (hS.trans (hc.mono hS.size)) (fun hS => ?_)
      clear hK K
      (try simp only [Act.put, List.getElem_toArray, List.getElem_cons_zero, List.getElem_cons_succ, List.setIfInBounds_toArray, List.set_cons_zero, List.set_cons_succ])
      have s7 : w6.heap.size ≤ w7.heap.size := hc.size
      have bq := hc
      replace cb60 := cell_later bq cb60
      replace zb6 := Nat.lt_of_lt_of_le zb6 bq.size
      replace rt1 := rt1.below bq
      replace rt2 := rt2.below bq
      replace hb := hb.trans (bq.mono hb.size)
      clear hc bq
      have d0 : w7.cell? ⟨D.heap.size, 0, none⟩ = some (.int .i64 0) := hB.cell 0
      have df0 := hB.frozen 0
      have d1 : w7.cell? ⟨D.heap.size, 1, none⟩ = some (.int .i64 0) := hB.cell 1
      have df1 := hB.frozen 1
      refine wpAnyH_ready (rs := [9]) (by as_aux_lemma => kernel_rfl) (by simp) ?_
      refine AllReadyH.cons rfl (fun K hK => ?_) AllReadyH.nil
      have HBB := hid hB
      clear hB
      go_simp
      have hWs : w2.heap.size ≤ D.heap.size := by omega
      refine hK.out _ _ (((hS.setCell hWs _).setCell hWs _)) (fun hS => ?_)
      clear hK K
      (try simp only [Act.put, List.getElem_toArray, List.getElem_cons_zero, List.getElem_cons_succ, List.setIfInBounds_toArray, List.set_cons_zero, List.set_cons_succ])
      have hbl := ((HBB.out.set (i := 0) (.int .i64 p0)).set (i := 1) (.int .i64 p1))
      simp only [List.setIfInBounds_toArray, List.set_cons_zero, List.set_cons_succ] at hbl
      have hx0 := hbl.cell 0
      simp only [List.getElem?_toArray, List.getElem?_cons_zero, List.getElem?_cons_succ] at hx0
      have hx1 := hbl.cell 1
      simp only [List.getElem?_toArray, List.getElem?_cons_zero, List.getElem?_cons_succ] at hx1
      refine wpAnyH_done (by kernel_rfl) ?_ _
      refine ⟨rfl, D.heap.size, at1, kt1, at2, kt2, ?_, hS, hWs, ?_, hx0, hx1⟩
      · simp only [Act.put, List.getElem_toArray, List.getElem_cons_zero, List.getElem_cons_succ, List.setIfInBounds_toArray, List.set_cons_zero, List.set_cons_succ]
      all_goals (try simp only [size_set])
      all_goals omega
  · skip
    rintro a' w32 ⟨B32, u32_0, q32_0, u32_1, q32_1, rfl, hc, bl32, bu32, cb120, cb121⟩
    simp only [Act.put, List.getElem_toArray, List.getElem_cons_zero, List.getElem_cons_succ, List.setIfInBounds_toArray, List.set_cons_zero, List.set_cons_succ]
    have s32 : w2.heap.size ≤ w32.heap.size := hc.size
    have bq := hc
    replace cb60 := cell_later bq cb60
    replace zb6 := Nat.lt_of_lt_of_le zb6 bq.size
    replace hb := hb.trans (bq.mono hb.size)
    clear hc bq
    have zb12 := bu32
    go_wp2_with fail
    refine Calls.mono (toInstS_row ap0 n0 kp0 xs0 _ (hr0.below hb) (by omega)) ?_
    rintro e w33 ⟨vt4, rfl, rt4, hc⟩
    obtain ⟨at4, kt4, rfl, q1, q2⟩ := (RowS.shape inE_len rt4)
    have Kt4 : Hid _ := And.intro q1 q2
    clear q1 q2
    have s33 : w32.heap.size ≤ w33.heap.size := hc.size
    have bq := hc
    replace cb60 := cell_later bq cb60
    replace zb6 := Nat.lt_of_lt_of_le zb6 bq.size
    replace cb120 := cell_later bq cb120
    replace cb121 := cell_later bq cb121
    replace zb12 := Nat.lt_of_lt_of_le zb12 bq.size
    replace hb := hb.trans (bq.mono hb.size)
    clear hc bq
    go_wp2_with fail
    refine Calls.mono (toFile_any ap1 n1 kp1 xs1 _ (hr1.below hb) (by omega)) ?_
    rintro e w34 ⟨vt5, rfl, rt5, hc⟩
    obtain ⟨at5, kt5, rfl, q1, q2⟩ := rt5.shape
    have Kt5 : Hid _ := And.intro q1 q2
    clear q1 q2
    have s34 : w33.heap.size ≤ w34.heap.size := hc.size
    have bq := hc
    replace cb60 := cell_later bq cb60
    replace zb6 := Nat.lt_of_lt_of_le zb6 bq.size
    replace cb120 := cell_later bq cb120
    replace cb121 := cell_later bq cb121
    replace zb12 := Nat.lt_of_lt_of_le zb12 bq.size
    replace rt4 := rt4.below bq
    replace hb := hb.trans (bq.mono hb.size)
    clear hc bq
    go_wp2_with fail
    have bp : ∀ o0, Below w34.heap.size w34 (w34.alloc o0) := fun o0 => (Below.refl _ _).alloc (Nat.le_refl _) o0
    have hbt : ∀ o0, Below w.heap.size w (w34.alloc o0) := fun o0 => hb.trans ((bp o0).mono hb.size)
    refine Calls.mono (HIC.out at4 kt4 at5 kt5 _ (RowS.read inE_len (rt4.below (bp _))) Kt4.out.1 Kt4.out.2 (rt5.below (bp _)).read Kt5.out.1 Kt5.out.2) ?_
    rintro e w35 ⟨rfl, hc⟩
    have s35 : w34.heap.size + 1 ≤ w35.heap.size := by have := hc.size; simp at this; omega
    have bq : Below w34.heap.size w34 w35 := (bp _).trans (hc.mono (bp _).size)
    replace cb60 := cell_later bq cb60
    replace zb6 := Nat.lt_of_lt_of_le zb6 bq.size
    replace cb120 := cell_later bq cb120
    replace cb121 := cell_later bq cb121
    replace zb12 := Nat.lt_of_lt_of_le zb12 bq.size
    have cb140 : w35.cell? ⟨w34.heap.size, 0, none⟩ = some (.slice at5 n1 kt5) := cell_later hc (by simp [go_sem])
    have zb14 : w34.heap.size < w35.heap.size := by omega
    replace rt4 := rt4.below bq
    replace rt5 := rt5.below bq
    replace hb := hb.trans (bq.mono hb.size)
    clear hc bq bp hbt
    go_wp2_with fail
    have bp : ∀ o0, Below w35.heap.size w35 (w35.alloc o0) := fun o0 => (Below.refl _ _).alloc (Nat.le_refl _) o0
    have hbt : ∀ o0, Below w.heap.size w (w35.alloc o0) := fun o0 => hb.trans ((bp o0).mono hb.size)
    refine Calls.mono (eqIntRes9_yes p0 p1 _) ?_
    rintro e w36 ⟨rfl, hc⟩
    have s36 : w35.heap.size + 1 ≤ w36.heap.size := by have := hc.size; simp at this; omega
    have bq : Below w35.heap.size w35 w36 := (bp _).trans (hc.mono (bp _).size)
    replace cb60 := cell_later bq cb60
    replace zb6 := Nat.lt_of_lt_of_le zb6 bq.size
    replace cb120 := cell_later bq cb120
    replace cb121 := cell_later bq cb121
    replace zb12 := Nat.lt_of_lt_of_le zb12 bq.size
    replace cb140 := cell_later bq cb140
    replace zb14 := Nat.lt_of_lt_of_le zb14 bq.size
    have cb150 : w36.cell? ⟨w35.heap.size, 0, none⟩ = some (.int .i64 p0) := cell_later hc (by simp [go_sem])
    have cb151 : w36.cell? ⟨w35.heap.size, 1, none⟩ = some (.int .i64 p1) := cell_later hc (by simp [go_sem])
    have zb15 : w35.heap.size < w36.heap.size := by omega
    replace rt4 := rt4.below bq
    replace rt5 := rt5.below bq
    replace hb := hb.trans (bq.mono hb.size)
    clear hc bq bp hbt
    go_wp2_with fail
    refine Calls.mono (toInstS_row ap0 n0 kp0 xs0 _ (hr0.below hb) (by omega)) ?_
    rintro e w37 ⟨vt6, rfl, rt6, hc⟩
    obtain ⟨at6, kt6, rfl, q1, q2⟩ := (RowS.shape inE_len rt6)
    have Kt6 : Hid _ := And.intro q1 q2
    clear q1 q2
    have s37 : w36.heap.size ≤ w37.heap.size := hc.size
    have bq := hc
    replace cb60 := cell_later bq cb60
    replace zb6 := Nat.lt_of_lt_of_le zb6 bq.size
    replace cb120 := cell_later bq cb120
    replace cb121 := cell_later bq cb121
    replace zb12 := Nat.lt_of_lt_of_le zb12 bq.size
    replace cb140 := cell_later bq cb140
    replace zb14 := Nat.lt_of_lt_of_le zb14 bq.size
    replace cb150 := cell_later bq cb150
    replace cb151 := cell_later bq cb151
    replace zb15 := Nat.lt_of_lt_of_le zb15 bq.size
    replace rt4 := rt4.below bq
    replace rt5 := rt5.below bq
    replace hb := hb.trans (bq.mono hb.size)
    clear hc bq
    go_wp2_with fail
    refine Calls.mono (eqInstS_yes at4 at6 n0 kt4 kt6 xs0 _ (RowS.read inE_len rt4) (RowS.read inE_len rt6) (by first | omega | (unfold maxLen; omega))) ?_
    rintro e w38 ⟨rfl, hc⟩
    have s38 : w37.heap.size ≤ w38.heap.size := hc.size
    have bq := hc
    replace cb60 := cell_later bq cb60
    replace zb6 := Nat.lt_of_lt_of_le zb6 bq.size
    replace cb120 := cell_later bq cb120
    replace cb121 := cell_later bq cb121
    replace zb12 := Nat.lt_of_lt_of_le zb12 bq.size
    replace cb140 := cell_later bq cb140
    replace zb14 := Nat.lt_of_lt_of_le zb14 bq.size
    replace cb150 := cell_later bq cb150
    replace cb151 := cell_later bq cb151
    replace zb15 := Nat.lt_of_lt_of_le zb15 bq.size
    replace rt4 := rt4.below bq
    replace rt5 := rt5.below bq
    replace rt6 := rt6.below bq
    replace hb := hb.trans (bq.mono hb.size)
    clear hc bq
    go_wp2_with fail
    have ob60 := cb60
    have ob120 := cb120
    have ob121 := cb121
    have ob140 := cb140
    have ob150 := cb150
    have ob151 := cb151
    have bd : Below w38.heap.size w38 w38.drew := (Below.refl _ _).drew
    refine wp_region_held_drew (S := fun w' => Below w38.heap.size w38 w') (by kernel_rfl) bd (fun hS => ?_)
    obtain ⟨D, hD⟩ : ∃ D, w38.drew = D := ⟨_, rfl⟩
    rw [hD] at hS bd ⊢
    have hc := bd
    clear hD bd
    have s39 : w38.heap.size ≤ D.heap.size := hc.size
    have bq := hc
    replace cb60 := cell_later bq cb60
    replace zb6 := Nat.lt_of_lt_of_le zb6 bq.size
    replace cb120 := cell_later bq cb120
    replace cb121 := cell_later bq cb121
    replace zb12 := Nat.lt_of_lt_of_le zb12 bq.size
    replace cb140 := cell_later bq cb140
    replace zb14 := Nat.lt_of_lt_of_le zb14 bq.size
    replace cb150 := cell_later bq cb150
    replace cb151 := cell_later bq cb151
    replace zb15 := Nat.lt_of_lt_of_le zb15 bq.size
    replace rt4 := rt4.below bq
    replace rt5 := rt5.below bq
    replace rt6 := rt6.below bq
    replace hb := hb.trans (bq.mono hb.size)
    clear hc bq
    refine wpAnyH_take (i := 0) (v := (.agg #[.slice at5 n1 kt5])) rfl (by as_aux_lemma => kernel_rfl) (by as_aux_lemma => kernel_rfl) (by as_aux_lemma => kernel_rfl) (fun _ _ _ h => h) (Or.inl ⟨by kernel_rfl, ?_⟩) hS ?_
    · intro w hSw; (try dsimp only at hSw); have hl0 := cell_later hSw ob140; go_simp
    (try simp only [Act.put, List.getElem_toArray, List.getElem_cons_zero, List.getElem_cons_succ, List.setIfInBounds_toArray, List.set_cons_zero, List.set_cons_succ])
    refine wpAnyH_take (i := 1) (v := (.agg #[.slice ap1 n1 kp1])) rfl (by as_aux_lemma => kernel_rfl) (by as_aux_lemma => kernel_rfl) (by as_aux_lemma => kernel_rfl) (fun _ _ _ h => h) (Or.inl ⟨by kernel_rfl, ?_⟩) hS ?_
    · intro w hSw; (try dsimp only at hSw); have hl0 := cell_later hSw ob60; go_simp
    (try simp only [Act.put, List.getElem_toArray, List.getElem_cons_zero, List.getElem_cons_succ, List.setIfInBounds_toArray, List.set_cons_zero, List.set_cons_succ])
    refine wpAnyH_ready (rs := [2]) (by as_aux_lemma => kernel_rfl) (by simp) ?_
    refine AllReadyH.cons rfl (fun K hK => ?_) AllReadyH.nil
    go_simp
    refine Calls.mono (toFile_any ap1 n1 kp1 xs1 _ (hr1.below hb) (by omega)) ?_
    rintro e w40 ⟨vt7, rfl, rt7, hc⟩
    obtain ⟨at7, kt7, rfl, q1, q2⟩ := rt7.shape
    have Kt7 : Hid _ := And.intro q1 q2
    clear q1 q2
    refine hK.out _ _ (hS.trans (hc.mono hS.size)) (fun hS => ?_)
    clear hK K
    (try simp only [Act.put, List.getElem_toArray, List.getElem_cons_zero, List.getElem_cons_succ, List.setIfInBounds_toArray, List.set_cons_zero, List.set_cons_succ])
    have s40 : D.heap.size ≤ w40.heap.size := hc.size
    have bq := hc
    replace cb60 := cell_later bq cb60
    replace zb6 := Nat.lt_of_lt_of_le zb6 bq.size
    replace cb120 := cell_later bq cb120
    replace cb121 := cell_later bq cb121
    replace zb12 := Nat.lt_of_lt_of_le zb12 bq.size
    replace cb140 := cell_later bq cb140
    replace zb14 := Nat.lt_of_lt_of_le zb14 bq.size
    replace cb150 := cell_later bq cb150
    replace cb151 := cell_later bq cb151
    replace zb15 := Nat.lt_of_lt_of_le zb15 bq.size
    replace rt4 := rt4.below bq
    replace rt5 := rt5.below bq
    replace rt6 := rt6.below bq
    replace hb := hb.trans (bq.mono hb.size)
    clear hc bq
    refine wpAnyH_ready (rs := [3]) (by as_aux_lemma => kernel_rfl) (by simp) ?_
    refine AllReadyH.cons rfl (fun K hK => ?_) AllReadyH.nil
    go_simp
    refine Calls.mono (eqFile_yes at5 at7 n1 kt5 kt7 xs1 _ rt5.read rt7.read (by first | omega | (unfold maxLen; omega))) ?_
    rintro e w41 ⟨rfl, hc⟩
    refine hK.out _ _ (hS.trans (hc.mono hS.size)) (fun hS => ?_)
    clear hK K
    (try simp only [Act.put, List.getElem_toArray, List.getElem_cons_zero, List.getElem_cons_succ, List.setIfInBounds_toArray, List.set_cons_zero, List.set_cons_succ])
    have s41 : w40.heap.size ≤ w41.heap.size := hc.size
    have bq := hc
    replace cb60 := cell_later bq cb60
    replace zb6 := Nat.lt_of_lt_of_le zb6 bq.size
    replace cb120 := cell_later bq cb120
    replace cb121 := cell_later bq cb121
    replace zb12 := Nat.lt_of_lt_of_le zb12 bq.size
    replace cb140 := cell_later bq cb140
    replace zb14 := Nat.lt_of_lt_of_le zb14 bq.size
    replace cb150 := cell_later bq cb150
    replace cb151 := cell_later bq cb151
    replace zb15 := Nat.lt_of_lt_of_le zb15 bq.size
    replace rt4 := rt4.below bq
    replace rt5 := rt5.below bq
    replace rt6 := rt6.below bq
    replace rt7 := rt7.below bq
    replace hb := hb.trans (bq.mono hb.size)
    clear hc bq
    refine wpAnyH_take (i := 4) (v := (.bool false)) rfl (by as_aux_lemma => kernel_rfl) (by as_aux_lemma => kernel_rfl) (by as_aux_lemma => kernel_rfl) (fun _ _ _ h => h) (Or.inl ⟨by kernel_rfl, ?_⟩) hS ?_
    · intro w hSw; (try dsimp only at hSw); go_simp
    (try simp only [Act.put, List.getElem_toArray, List.getElem_cons_zero, List.getElem_cons_succ, List.setIfInBounds_toArray, List.set_cons_zero, List.set_cons_succ])
    refine wpAnyH_done (by kernel_rfl) ?_ _
    clear hS
    clear ob60
    clear ob120
    clear ob121
    clear ob140
    clear ob150
    clear ob151
    go_wp2
    go_ret
    exact ⟨rfl, hb⟩

theorem own : ownKnob Try.prog.godebug = none := by kernel_rfl
theorem laidOut : laidOutB Try.prog = true := by kernel_rfl

set_option maxRecDepth 100000 in
theorem lifted (os : Os) (started : os.Started) (H : Type) (enc : TypeId × Value → H) :
    ReturnsInHanded {} Try.checked os 10 .any (Rows.fnExactFindLineSpec.pre6 enc Try.prog Try.f10 Rows.fnExactFindLineRow.domain false) (Rows.fnExactFindLineSpec.post enc Try.prog Try.f10 false true false false) := by
  refine returnsInHanded_of_change (C := Try.checked) own started (by kernel_rfl) Try.func10
    (ChangeSpec.witness6 (enc := enc) (C := Try.checked) false ⟨#[], #[.slice none 0 0, .agg #[.slice none 0 0], .int .i64 0, .int .i64 0, .bool false], []⟩ 8 (by kernel_rfl) (by kernel_rfl) (by kernel_rfl) (by kernel_rfl)) ?_
  intro W base args ds gs before hval0 hW hcnd _
  have hval : ∀ (j : Nat) t v, Try.f10.params[j]? = some t → args[j]? = some v → Value.okWide Try.prog W .any base t v := hval0
  have hW' := hW
  obtain ⟨p, q, hA0, hV, rfl, hfz, hnd⟩ := hW
  have hA : DataW.TrodAll enc Try.prog W 0 (fun _ => true) true Try.f10.params.toList args.toList ds p := hA0
  rw [Try.params10] at hA hval
  obtain ⟨v0, v1, v2, v3, v4, d0, d1, d2, d3, d4, p0, p1, p2, p3, p4, rfl, rfl, rfl, h0, h1, h2, h3, h4⟩ := trodAll_five hA
  obtain ⟨rfl, rfl⟩ := trodVars_none hV
  have k0 := h0
  have lt0 : ∀ x ∈ p0, x.block < W.heap.size := by obtain ⟨m, hm⟩ := k0; exact DataW.trod_lt m _ _ _ hm
  obtain ⟨a0, len0, cap0, rfl⟩ := okWide_slice Try.underlying108 (hval 0 108 v0 rfl rfl)
  obtain ⟨x0, hr0, hs0, hl0, hm0⟩ := open_insts h0
  have k1 := h1
  have lt1 : ∀ x ∈ p1, x.block < W.heap.size := by obtain ⟨m, hm⟩ := k1; exact DataW.trod_lt m _ _ _ hm
  obtain ⟨a1, len1, cap1, x1, rfl, hr1, hB1, hm1⟩ := open_file (hval 1 109 v1 rfl rfl) h1
  obtain ⟨I2, rfl, rfl, rfl, wI2⟩ := open_int Try.underlying2 (hval 2 2 v2 rfl rfl) h2
  obtain ⟨I3, rfl, rfl, rfl, wI3⟩ := open_int Try.underlying2 (hval 3 2 v3 rfl rfl) h3
  obtain ⟨B4, rfl, rfl, rfl⟩ := open_bool Try.underlying4 (hval 4 4 v4 rfl rfl) h4
  clear hA0 hval0
  refine (walk a0 len0 cap0 x0 a1 len1 cap1 x1 I2 I3 B4 W hr0 hs0 (by omega) hr1 hB1 hm1).mono fun e W' ⟨he, bel⟩ => ?_
  subst he
  exact ⟨_, rfl, _, _, _, [], _, [], hW', trodAll_mk1 (shut_bool Try.underlying4 _), trodAll_mk5 (Below.trod laidOut (by kernel_rfl) (of_decide_eq_true (by kernel_rfl)) k0 bel lt0) (Below.trod laidOut (by kernel_rfl) (of_decide_eq_true (by kernel_rfl)) k1 bel lt1) (shut_int Try.underlying2 wI2) (shut_int Try.underlying2 wI3) (shut_bool Try.underlying4 _), rfl, bel.frame _, fun h => by cases h⟩

theorem proved : Rows.FnExactFindLineSaid :=
  OpenClaim.holds_of_wide 10 Try.f10 rfl rfl rfl rfl rfl rfl rfl ⟨rfl, rfl, rfl, rfl, rfl⟩ rfl rfl rfl rfl rfl (by kernel_rfl) Try.func10 (by kernel_rfl)
    (of_decide_eq_true (by kernel_rfl)) (by unfold Func.isWrapper; first | (rw [if_pos (by decide +kernel)]; kernel_rfl) | (rw [if_neg (by decide +kernel)]; exact ⟨rfl, rfl⟩))
    (fun os started H enc _ => lifted os started H enc)
end Go.Proofs.Ytaeolofailompaa.fnExactFindLine
namespace Go.Proofs.Ytaeolofailompaa
theorem fnExactFindLine_proved : Rows.FnExactFindLineSaid := fnExactFindLine.proved
end Go.Proofs.Ytaeolofailompaa
