/-
  For every list of instructions and every table, every text and place, FnExactRunTable returns true: the program's RunTable answers as the model, writes into no argument, and its answer owns its memory; no condition.
-/
import Derived.Test.YtlemdjgpkmjihaaGreatHlpNA
import Derived.Test.YtlemdjgpkmjihaaGreatHlpU
import Derived.Test.YtlemdjgpkmjihaaGreatHlpA
import Derived.Test.YtlemdjgpkmjihaaGreatRtbA
import Derived.Test.YtlemdjgpkmjihaaGreatStpA
import Derived.Test.YtlemdjgpkmjihaaGreatHlpX
import Derived.ProofKit
import Derived.OpenShut
import Derived.ChangeOld
import Derived.Below
import Derived.Carry
import Derived.Deep.RegionWith
import Derived.Deep.RegionHeld3
namespace Go.Proofs.YtlemdjgpkmjihaaGreat.fnExactRunTable
open Go.ChangeShapes Go.WideShapes Go.ChangeAt Go.RowKit
set_option linter.unusedVariables false
set_option linter.unusedSimpArgs false

set_option maxRecDepth 10000 in
set_option maxHeartbeats 6400000 in
theorem walk (a0 : Option Addr) (n0 ca0 : Nat) (xs0 : List In) (z1 : Int) (a1 : Option Addr) (n1 ca1 : Nat) (xs1 : List St) (a2 : Option Addr) (n2 ca2 : Nat) (xs2 : List Int) (I3 : Int) (w : World) (hr0 : RdR inE 8 w a0 n0 xs0) (hz0 : ∀ y ∈ xs0, y.s.size ≤ maxLen) (hm0 : n0 ≤ maxLen) (hr1 : RdT w a1 n1 xs1) (hm1 : n1 ≤ maxLen) (hr2 : Rd .u8 w a2 n2 xs2) (hB2 : Bytes xs2) (hm2 : n2 ≤ maxLen) :
    Calls Tryz.prog 4 #[.slice a0 n0 ca0, .agg #[.int .i64 z1, .slice a1 n1 ca1], .slice a2 n2 ca2, .int .i64 I3] w fun e w' => e = .returned (.bool true) ∧ Below w.heap.size w w' := by
  have HM0 : Hid (n0 ≤ maxLen) := hm0
  have HM1 : Hid (n1 ≤ maxLen) := hm1
  have HM2 : Hid (n2 ≤ maxLen) := hm2
  unfold maxLen at hm2
  by_cases hn2 : n2 ≤ 1048576
  case neg =>
    clear hm0 hm1
    go_enter Tryz.func4, Tryz.ntmps4
    go_wp2
    go_ret
    exact ⟨rfl, (Below.refl _ _).alloc (Nat.le_refl _) _⟩
  have hsz0 := fun w' ha' => szInstS_any a0 n0 ca0 xs0 1048576 w' ha' hz0 HM0.out (by omega) (by omega)
  by_cases hn0 : 1048576 < (n0 : Int) + inSum xs0
  case pos =>
    rw [if_pos hn0] at hsz0
    have HZ0 : Hid _ := hsz0
    clear hsz0 hm0 hm1 hm2
    go_enter Tryz.func4, Tryz.ntmps4
    have hb : Below w.heap.size w w := Below.refl _ _
    go_wp2_with fail
    have bp : ∀ o0, Below w.heap.size w (w.alloc o0) := fun o0 => (Below.refl _ _).alloc (Nat.le_refl _) o0
    have hbt : ∀ o0, Below w.heap.size w (w.alloc o0) := fun o0 => hb.trans ((bp o0).mono hb.size)
    refine Calls.mono (HZ0.out _ (hr0.below (hbt _))) ?_
    rintro e w1 ⟨rfl, hc⟩
    have s1 : w.heap.size + 1 ≤ w1.heap.size := by have := hc.size; simp at this; omega
    have bq : Below w.heap.size w w1 := (bp _).trans (hc.mono (bp _).size)
    have caT0 : w1.cell? ⟨w.heap.size, 0, none⟩ = some (.int .i64 z1) := cell_later hc (by simp [go_sem])
    have caT1 : w1.cell? ⟨w.heap.size, 1, none⟩ = some (.slice a1 n1 ca1) := cell_later hc (by simp [go_sem])
    have zaT : w.heap.size < w1.heap.size := by omega
    replace hb := hb.trans (bq.mono hb.size)
    clear hc bq bp hbt
    go_wp2
    go_ret
    exact ⟨rfl, hb⟩
  rw [if_neg hn0] at hsz0
  obtain ⟨left0, hleft0⟩ : ∃ left0 : Int, left0 = (1048576 - (n0 : Int) - inSum xs0) := ⟨_, rfl⟩
  have hl0 : 0 ≤ left0 ∧ left0 ≤ 1048576 := by omega
  have hN0 : n0 ≤ 1048576 := by omega
  have hS0 : (n0 : Int) + inSum xs0 ≤ 1048576 := by omega
  rw [← hleft0] at hsz0
  have HZ0 : Hid _ := hsz0
  clear hsz0 hleft0 hn0 hm0
  have hsz1 := fun w' ha' => szTable_any z1 a1 n1 ca1 xs1 left0 w' ha' HM1.out (by omega) (by omega)
  by_cases hn1 : left0 < (n1 : Int) + stN xs1
  case pos =>
    rw [if_pos hn1] at hsz1
    have HZ1 : Hid _ := hsz1
    clear hsz1 hm1 hm2
    go_enter Tryz.func4, Tryz.ntmps4
    have hb : Below w.heap.size w w := Below.refl _ _
    go_wp2_with fail
    have bp : ∀ o0, Below w.heap.size w (w.alloc o0) := fun o0 => (Below.refl _ _).alloc (Nat.le_refl _) o0
    have hbt : ∀ o0, Below w.heap.size w (w.alloc o0) := fun o0 => hb.trans ((bp o0).mono hb.size)
    refine Calls.mono (HZ0.out _ (hr0.below (hbt _))) ?_
    rintro e w1 ⟨rfl, hc⟩
    have s1 : w.heap.size + 1 ≤ w1.heap.size := by have := hc.size; simp at this; omega
    have bq : Below w.heap.size w w1 := (bp _).trans (hc.mono (bp _).size)
    have caT0 : w1.cell? ⟨w.heap.size, 0, none⟩ = some (.int .i64 z1) := cell_later hc (by simp [go_sem])
    have caT1 : w1.cell? ⟨w.heap.size, 1, none⟩ = some (.slice a1 n1 ca1) := cell_later hc (by simp [go_sem])
    have zaT : w.heap.size < w1.heap.size := by omega
    replace hb := hb.trans (bq.mono hb.size)
    clear hc bq bp hbt
    have hleft0 : ¬ left0 < 0 := by omega
    go_wp2_with fail
    refine Calls.mono (HZ1.out _ (hr1.below hb)) ?_
    rintro e w2 ⟨rfl, hc⟩
    have s2 : w1.heap.size ≤ w2.heap.size := hc.size
    have bq := hc
    replace caT0 := cell_later bq caT0
    replace caT1 := cell_later bq caT1
    replace zaT := Nat.lt_of_lt_of_le zaT bq.size
    replace hb := hb.trans (bq.mono hb.size)
    clear hc bq
    go_wp2
    go_ret
    exact ⟨rfl, hb⟩
  rw [if_neg hn1] at hsz1
  obtain ⟨left1, hleft1⟩ : ∃ left1 : Int, left1 = (left0 - (n1 : Int) - stN xs1) := ⟨_, rfl⟩
  have hl1 : 0 ≤ left1 ∧ left1 ≤ 1048576 := by omega
  have hN1 : n1 ≤ 1048576 := by omega
  have hS1 : (n1 : Int) + stN xs1 ≤ 1048576 := by omega
  rw [← hleft1] at hsz1
  have HZ1 : Hid _ := hsz1
  clear hsz1 hleft1 hn1 hm1
  have SC := fun (A0 : Option Addr) (C0 : Nat) (A1 : Option Addr) (C1 : Nat) (A2 : Option Addr) (C2 : Nat) (W' : World) (H0 : RdR inE 8 W' A0 n0 xs0) (J0 : n0 ≤ C0) (M0 : C0 ≤ maxLen) (H1 : RdT W' A1 n1 xs1) (J1 : n1 ≤ C1) (M1 : C1 ≤ maxLen) (H2 : Rd .u8 W' A2 n2 xs2) (J2 : n2 ≤ C2) (M2 : C2 ≤ maxLen) => specRunTable_any A0 n0 C0 xs0 z1 A1 n1 C1 xs1 A2 n2 C2 xs2 I3 W' H0 (by omega) hN0 H1 hS1 H2 hB2 hn2
  have IC := fun (A0 : Option Addr) (C0 : Nat) (A1 : Option Addr) (C1 : Nat) (A2 : Option Addr) (C2 : Nat) (W' : World) (H0 : RdR inE 8 W' A0 n0 xs0) (J0 : n0 ≤ C0) (M0 : C0 ≤ maxLen) (H1 : RdT W' A1 n1 xs1) (J1 : n1 ≤ C1) (M1 : C1 ≤ maxLen) (H2 : Rd .u8 W' A2 n2 xs2) (J2 : n2 ≤ C2) (M2 : C2 ≤ maxLen) => implRunTable_any A0 n0 C0 xs0 z1 A1 n1 C1 xs1 A2 n2 C2 xs2 I3 W' H0 (by omega) hN0 H1 hS1 J1 M1 H2 hB2 hn2
  have hrl := rtRows_len xs0 z1 xs1 xs2 I3
  generalize rtCode xs0 z1 xs1 xs2 I3 = cd at *
  generalize rtVal xs0 z1 xs1 xs2 I3 = vd at *
  generalize rtSize xs0 z1 xs1 xs2 I3 = zd at *
  generalize rtRows xs0 z1 xs1 xs2 I3 = rs at *
  have hcl := stC_le rs
  generalize hml : rs.length = m at *
  clear hml
  have hcl1 := stC_le xs1
  have HSC : Hid _ := SC
  have HIC : Hid _ := IC
  clear SC IC
  go_enter Tryz.func4, Tryz.ntmps4
  have hb : Below w.heap.size w w := Below.refl _ _
  go_wp2_with fail
  have bp : ∀ o0, Below w.heap.size w (w.alloc o0) := fun o0 => (Below.refl _ _).alloc (Nat.le_refl _) o0
  have hbt : ∀ o0, Below w.heap.size w (w.alloc o0) := fun o0 => hb.trans ((bp o0).mono hb.size)
  refine Calls.mono (HZ0.out _ (hr0.below (hbt _))) ?_
  rintro e w1 ⟨rfl, hc⟩
  have s1 : w.heap.size + 1 ≤ w1.heap.size := by have := hc.size; simp at this; omega
  have bq : Below w.heap.size w w1 := (bp _).trans (hc.mono (bp _).size)
  have caT0 : w1.cell? ⟨w.heap.size, 0, none⟩ = some (.int .i64 z1) := cell_later hc (by simp [go_sem])
  have caT1 : w1.cell? ⟨w.heap.size, 1, none⟩ = some (.slice a1 n1 ca1) := cell_later hc (by simp [go_sem])
  have zaT : w.heap.size < w1.heap.size := by omega
  replace hb := hb.trans (bq.mono hb.size)
  clear hc bq bp hbt
  have hleft0 : ¬ left0 < 0 := by omega
  go_wp2_with fail
  refine Calls.mono (HZ1.out _ (hr1.below hb)) ?_
  rintro e w2 ⟨rfl, hc⟩
  have s2 : w1.heap.size ≤ w2.heap.size := hc.size
  have bq := hc
  replace caT0 := cell_later bq caT0
  replace caT1 := cell_later bq caT1
  replace zaT := Nat.lt_of_lt_of_le zaT bq.size
  replace hb := hb.trans (bq.mono hb.size)
  clear hc bq
  have hleft1 : ¬ left1 < 0 := by omega
  go_wp2_with fail
  refine region_join (fun a a' w' => ∃ (B lo hi : Nat) (v v0 v1 v2 : Value), a' = (((((((((a.put (some 32) (.slice a0 n0 ca0)).put (some 34) (.agg #[.int .i64 z1, .slice a1 n1 ca1])).put (some 36) (.slice a2 n2 ca2)).put (some 38) (.int .i64 I3)).put (some 33) v0).put (some 35) v1).put (some 37) v2).put (some 39) (.agg #[.int .i64 cd, .int .i64 vd, .int .i64 zd, v])).put (some 10) (.pointer (some ⟨B, 0, none⟩))) ∧ Below w2.heap.size w2 w' ∧ w2.heap.size ≤ B ∧ B < w'.heap.size ∧ w2.heap.size ≤ lo ∧ hi ≤ w'.heap.size ∧ (B < lo ∨ hi ≤ B) ∧ TabR true w' lo hi v m rs ∧ w'.cell? ⟨B, 0, none⟩ = some (.int .i64 cd) ∧ w'.cell? ⟨B, 1, none⟩ = some (.int .i64 vd) ∧ w'.cell? ⟨B, 2, none⟩ = some (.int .i64 zd) ∧ w'.cell? ⟨B, 3, none⟩ = some (v)) ?_ ?_
  · skip
    refine wp_region_held_drew (S := fun w' => Below w2.heap.size w2 w') (by kernel_rfl) (Below.refl _ _).drew (fun hS => ?_)
    have hdz : w2.drew.heap.size = w2.heap.size := rfl
    refine wpAnyH_take (i := 0) (v := (.slice a0 n0 ca0)) rfl (by as_aux_lemma => kernel_rfl) (by as_aux_lemma => kernel_rfl) (by as_aux_lemma => kernel_rfl) (fun _ _ _ h => nomatch h.1) (Or.inl ⟨by kernel_rfl, ?_⟩) hS ?_
    · intro w hSw; (try dsimp only at hSw); go_simp
    (try simp only [Act.put, List.getElem_toArray, List.getElem_cons_zero, List.getElem_cons_succ, List.setIfInBounds_toArray, List.set_cons_zero, List.set_cons_succ])
    refine wpAnyH_take (i := 2) (v := (.agg #[.int .i64 z1, .slice a1 n1 ca1])) rfl (by as_aux_lemma => kernel_rfl) (by as_aux_lemma => kernel_rfl) (by as_aux_lemma => kernel_rfl) (fun _ _ _ h => nomatch h.1) (Or.inl ⟨by kernel_rfl, ?_⟩) hS ?_
    · intro w hSw; (try dsimp only at hSw); have hl0 := cell_later hSw caT0; have hl1 := cell_later hSw caT1; go_simp
    (try simp only [Act.put, List.getElem_toArray, List.getElem_cons_zero, List.getElem_cons_succ, List.setIfInBounds_toArray, List.set_cons_zero, List.set_cons_succ])
    refine wpAnyH_take (i := 4) (v := (.slice a2 n2 ca2)) rfl (by as_aux_lemma => kernel_rfl) (by as_aux_lemma => kernel_rfl) (by as_aux_lemma => kernel_rfl) (fun _ _ _ h => nomatch h.1) (Or.inl ⟨by kernel_rfl, ?_⟩) hS ?_
    · intro w hSw; (try dsimp only at hSw); go_simp
    (try simp only [Act.put, List.getElem_toArray, List.getElem_cons_zero, List.getElem_cons_succ, List.setIfInBounds_toArray, List.set_cons_zero, List.set_cons_succ])
    refine wpAnyH_take (i := 6) (v := (.int .i64 I3)) rfl (by as_aux_lemma => kernel_rfl) (by as_aux_lemma => kernel_rfl) (by as_aux_lemma => kernel_rfl) (fun _ _ _ h => nomatch h.1) (Or.inl ⟨by kernel_rfl, ?_⟩) hS ?_
    · intro w hSw; (try dsimp only at hSw); go_simp
    (try simp only [Act.put, List.getElem_toArray, List.getElem_cons_zero, List.getElem_cons_succ, List.setIfInBounds_toArray, List.set_cons_zero, List.set_cons_succ])
    refine wpAnyH_ready (rs := [1, 8]) (by as_aux_lemma => kernel_rfl) (by simp) ?_
    refine AllReadyH.cons rfl (fun K hK => ?_) (AllReadyH.cons rfl (fun K hK => ?_) AllReadyH.nil)
    · skip
      go_simp
      refine Calls.mono (toInstS_row a0 n0 ca0 xs0 _ (hr0.below (hb.trans (hS.mono hb.size))) (by omega)) ?_
      rintro e y0 ⟨x0, rfl, q0, hc⟩
      obtain ⟨ax0, kx0, rfl, g1, g2⟩ := (RowS.shape inE_len q0)
      have KQ0 : Hid _ := And.intro g1 g2
      clear g1 g2
      have sz0 := hc.size
      refine hK.out _ _ (hS.trans (hc.mono hS.size)) (fun hS => ?_)
      clear hK K
      (try simp only [Act.put, List.getElem_toArray, List.getElem_cons_zero, List.getElem_cons_succ, List.setIfInBounds_toArray, List.set_cons_zero, List.set_cons_succ])
      clear hc
      refine wpAnyH_ready (rs := [3, 8]) (by as_aux_lemma => kernel_rfl) (by simp) ?_
      refine AllReadyH.cons rfl (fun K hK => ?_) (AllReadyH.cons rfl (fun K hK => ?_) AllReadyH.nil)
      · skip
        go_simp
        refine Calls.mono (toTable_row z1 a1 n1 ca1 xs1 _ (hr1.below (hb.trans (hS.mono hb.size))) (by omega)) ?_
        rintro e y1 ⟨x1, rfl, q1, hc⟩
        obtain ⟨ax1, kx1, rfl, g1, g2⟩ := q1.shape
        have KQ1 : Hid _ := And.intro g1 g2
        clear g1 g2
        replace q0 := q0.below hc
        have sz1 := hc.size
        refine hK.out _ _ (hS.trans (hc.mono hS.size)) (fun hS => ?_)
        clear hK K
        (try simp only [Act.put, List.getElem_toArray, List.getElem_cons_zero, List.getElem_cons_succ, List.setIfInBounds_toArray, List.set_cons_zero, List.set_cons_succ])
        clear hc
        refine wpAnyH_ready (rs := [5, 8]) (by as_aux_lemma => kernel_rfl) (by simp) ?_
        refine AllReadyH.cons rfl (fun K hK => ?_) (AllReadyH.cons rfl (fun K hK => ?_) AllReadyH.nil)
        · skip
          go_simp
          refine Calls.mono (toByteS_row a2 n2 ca2 xs2 _ (hr2.below (hb.trans (hS.mono hb.size))) (by omega)) ?_
          rintro e y2 ⟨x2, rfl, q2, hc⟩
          obtain ⟨ax2, kx2, rfl, g1, g2⟩ := q2.shape
          have KQ2 : Hid _ := And.intro g1 g2
          clear g1 g2
          replace q0 := q0.below hc
          replace q1 := q1.below hc
          have sz2 := hc.size
          refine hK.out _ _ (hS.trans (hc.mono hS.size)) (fun hS => ?_)
          clear hK K
          (try simp only [Act.put, List.getElem_toArray, List.getElem_cons_zero, List.getElem_cons_succ, List.setIfInBounds_toArray, List.set_cons_zero, List.set_cons_succ])
          clear hc
          refine wpAnyH_ready (rs := [7, 8]) (by as_aux_lemma => kernel_rfl) (by simp) ?_
          refine AllReadyH.cons rfl (fun K hK => ?_) (AllReadyH.cons rfl (fun K hK => ?_) AllReadyH.nil)
          · skip
            go_simp
            refine Calls.mono (HSC.out ax0 kx0 ax1 kx1 ax2 kx2 _ (RowS.read inE_len q0) KQ0.out.1 KQ0.out.2 q1.read KQ1.out.1 KQ1.out.2 q2.read KQ2.out.1 KQ2.out.2) ?_
            rintro e y3 ⟨x3, rfl, q3, hc⟩
            obtain ⟨ax3, kx3, rfl, -⟩ := q3.shape
            replace q0 := q0.below hc
            replace q1 := q1.below hc
            replace q2 := q2.below hc
            have sz3 := hc.size
            refine hK.out _ _ (hS.trans (hc.mono hS.size)) (fun hS => ?_)
            clear hK K
            (try simp only [Act.put, List.getElem_toArray, List.getElem_cons_zero, List.getElem_cons_succ, List.setIfInBounds_toArray, List.set_cons_zero, List.set_cons_succ])
            clear hc
            refine wpAnyH_ready (rs := [8]) (by as_aux_lemma => kernel_rfl) (by simp) ?_
            refine AllReadyH.cons rfl (fun K hK => ?_) AllReadyH.nil
            go_simp
            refine hK.out _ _ (hS.alloc hS.size _) (fun hS => ?_)
            clear hK K
            (try simp only [Act.put, List.getElem_toArray, List.getElem_cons_zero, List.getElem_cons_succ, List.setIfInBounds_toArray, List.set_cons_zero, List.set_cons_succ])
            have NB : Below y3.heap.size y3 (y3.alloc (.cells #[.int .i64 0, .int .i64 0, .int .i64 0, .slice none 0 0] 32)) := (Below.refl _ _).alloc (Nat.le_refl _) _
            have hB := Blk.new y3 #[.int .i64 0, .int .i64 0, .int .i64 0, .slice none 0 0] 32
            replace q0 := q0.below NB
            replace q1 := q1.below NB
            replace q2 := q2.below NB
            replace q3 := q3.below NB
            have szA := NB.size
            have ltA := hB.lt
            clear NB
            generalize y3.alloc (.cells #[.int .i64 0, .int .i64 0, .int .i64 0, .slice none 0 0] 32) = yA at *
            have d0 : yA.cell? ⟨y3.heap.size, 0, none⟩ = some (.int .i64 0) := hB.cell 0
            have df0 := hB.frozen 0
            have d1 : yA.cell? ⟨y3.heap.size, 1, none⟩ = some (.int .i64 0) := hB.cell 1
            have df1 := hB.frozen 1
            have d2 : yA.cell? ⟨y3.heap.size, 2, none⟩ = some (.int .i64 0) := hB.cell 2
            have df2 := hB.frozen 2
            have d3 : yA.cell? ⟨y3.heap.size, 3, none⟩ = some (.slice none 0 0) := hB.cell 3
            have df3 := hB.frozen 3
            refine wpAnyH_ready (rs := [9]) (by as_aux_lemma => kernel_rfl) (by simp) ?_
            refine AllReadyH.cons rfl (fun K hK => ?_) AllReadyH.nil
            have HBB := hid hB
            clear hB
            go_simp
            have hWs : w2.heap.size ≤ y3.heap.size := by have := hS.size; omega
            refine hK.out _ _ (((((hS.setCell hWs _).setCell hWs _).setCell hWs _).setCell hWs _)) (fun hS => ?_)
            clear hK K
            (try simp only [Act.put, List.getElem_toArray, List.getElem_cons_zero, List.getElem_cons_succ, List.setIfInBounds_toArray, List.set_cons_zero, List.set_cons_succ])
            have hbl := ((((HBB.out.set (i := 0) (.int .i64 cd)).set (i := 1) (.int .i64 vd)).set (i := 2) (.int .i64 zd)).set (i := 3) (.slice ax3 m kx3))
            simp only [List.setIfInBounds_toArray, List.set_cons_zero, List.set_cons_succ] at hbl
            have hdj : y3.heap.size < y2.heap.size ∨ y3.heap.size ≤ y3.heap.size := by omega
            have hrow := ((((q3.setB hdj 0 (.int .i64 cd)).setB hdj 1 (.int .i64 vd)).setB hdj 2 (.int .i64 zd)).setB hdj 3 (.slice ax3 m kx3))
            have hx0 := hbl.cell 0
            simp only [List.getElem?_toArray, List.getElem?_cons_zero, List.getElem?_cons_succ] at hx0
            have hx1 := hbl.cell 1
            simp only [List.getElem?_toArray, List.getElem?_cons_zero, List.getElem?_cons_succ] at hx1
            have hx2 := hbl.cell 2
            simp only [List.getElem?_toArray, List.getElem?_cons_zero, List.getElem?_cons_succ] at hx2
            have hx3 := hbl.cell 3
            simp only [List.getElem?_toArray, List.getElem?_cons_zero, List.getElem?_cons_succ] at hx3
            refine wpAnyH_done (by kernel_rfl) ?_ _
            refine ⟨rfl, y3.heap.size, y2.heap.size, y3.heap.size, .slice ax3 m kx3, .slice ax0 n0 kx0, .agg #[.int .i64 z1, .slice ax1 n1 kx1], .slice ax2 n2 kx2, ?_, hS, hWs, ?_, ?_, ?_, ?_, hrow, hx0, hx1, hx2, hx3⟩
            · simp only [Act.put, List.getElem_toArray, List.getElem_cons_zero, List.getElem_cons_succ, List.setIfInBounds_toArray, List.set_cons_zero, List.set_cons_succ]
            all_goals (try simp only [size_set])
            all_goals omega
          · skip
            go_simp
            refine hK.out _ _ (hS.alloc hS.size _) (fun hS => ?_)
            clear hK K
            (try simp only [Act.put, List.getElem_toArray, List.getElem_cons_zero, List.getElem_cons_succ, List.setIfInBounds_toArray, List.set_cons_zero, List.set_cons_succ])
            have NB : Below y2.heap.size y2 (y2.alloc (.cells #[.int .i64 0, .int .i64 0, .int .i64 0, .slice none 0 0] 32)) := (Below.refl _ _).alloc (Nat.le_refl _) _
            have hB := Blk.new y2 #[.int .i64 0, .int .i64 0, .int .i64 0, .slice none 0 0] 32
            replace q0 := q0.below NB
            replace q1 := q1.below NB
            replace q2 := q2.below NB
            have szA := NB.size
            have ltA := hB.lt
            clear NB
            generalize y2.alloc (.cells #[.int .i64 0, .int .i64 0, .int .i64 0, .slice none 0 0] 32) = yA at *
            refine wpAnyH_ready (rs := [7]) (by as_aux_lemma => kernel_rfl) (by simp) ?_
            refine AllReadyH.cons rfl (fun K hK => ?_) AllReadyH.nil
            go_simp
            refine Calls.mono (HSC.out ax0 kx0 ax1 kx1 ax2 kx2 _ (RowS.read inE_len q0) KQ0.out.1 KQ0.out.2 q1.read KQ1.out.1 KQ1.out.2 q2.read KQ2.out.1 KQ2.out.2) ?_
            rintro e y3 ⟨x3, rfl, q3, hc⟩
            obtain ⟨ax3, kx3, rfl, -⟩ := q3.shape
            replace q0 := q0.below hc
            replace q1 := q1.below hc
            replace q2 := q2.below hc
            replace hB := hB.below hc
            have sz3 := hc.size
            refine hK.out _ _ (hS.trans (hc.mono hS.size)) (fun hS => ?_)
            clear hK K
            (try simp only [Act.put, List.getElem_toArray, List.getElem_cons_zero, List.getElem_cons_succ, List.setIfInBounds_toArray, List.set_cons_zero, List.set_cons_succ])
            clear hc
            have d0 : y3.cell? ⟨y2.heap.size, 0, none⟩ = some (.int .i64 0) := hB.cell 0
            have df0 := hB.frozen 0
            have d1 : y3.cell? ⟨y2.heap.size, 1, none⟩ = some (.int .i64 0) := hB.cell 1
            have df1 := hB.frozen 1
            have d2 : y3.cell? ⟨y2.heap.size, 2, none⟩ = some (.int .i64 0) := hB.cell 2
            have df2 := hB.frozen 2
            have d3 : y3.cell? ⟨y2.heap.size, 3, none⟩ = some (.slice none 0 0) := hB.cell 3
            have df3 := hB.frozen 3
            refine wpAnyH_ready (rs := [9]) (by as_aux_lemma => kernel_rfl) (by simp) ?_
            refine AllReadyH.cons rfl (fun K hK => ?_) AllReadyH.nil
            have HBB := hid hB
            clear hB
            go_simp
            have hWs : w2.heap.size ≤ y2.heap.size := by have := hS.size; omega
            refine hK.out _ _ (((((hS.setCell hWs _).setCell hWs _).setCell hWs _).setCell hWs _)) (fun hS => ?_)
            clear hK K
            (try simp only [Act.put, List.getElem_toArray, List.getElem_cons_zero, List.getElem_cons_succ, List.setIfInBounds_toArray, List.set_cons_zero, List.set_cons_succ])
            have hbl := ((((HBB.out.set (i := 0) (.int .i64 cd)).set (i := 1) (.int .i64 vd)).set (i := 2) (.int .i64 zd)).set (i := 3) (.slice ax3 m kx3))
            simp only [List.setIfInBounds_toArray, List.set_cons_zero, List.set_cons_succ] at hbl
            have hdj : y2.heap.size < yA.heap.size ∨ y3.heap.size ≤ y2.heap.size := by omega
            have hrow := ((((q3.setB hdj 0 (.int .i64 cd)).setB hdj 1 (.int .i64 vd)).setB hdj 2 (.int .i64 zd)).setB hdj 3 (.slice ax3 m kx3))
            have hx0 := hbl.cell 0
            simp only [List.getElem?_toArray, List.getElem?_cons_zero, List.getElem?_cons_succ] at hx0
            have hx1 := hbl.cell 1
            simp only [List.getElem?_toArray, List.getElem?_cons_zero, List.getElem?_cons_succ] at hx1
            have hx2 := hbl.cell 2
            simp only [List.getElem?_toArray, List.getElem?_cons_zero, List.getElem?_cons_succ] at hx2
            have hx3 := hbl.cell 3
            simp only [List.getElem?_toArray, List.getElem?_cons_zero, List.getElem?_cons_succ] at hx3
            refine wpAnyH_done (by kernel_rfl) ?_ _
            refine ⟨rfl, y2.heap.size, yA.heap.size, y3.heap.size, .slice ax3 m kx3, .slice ax0 n0 kx0, .agg #[.int .i64 z1, .slice ax1 n1 kx1], .slice ax2 n2 kx2, ?_, hS, hWs, ?_, ?_, ?_, ?_, hrow, hx0, hx1, hx2, hx3⟩
            · simp only [Act.put, List.getElem_toArray, List.getElem_cons_zero, List.getElem_cons_succ, List.setIfInBounds_toArray, List.set_cons_zero, List.set_cons_succ]
            all_goals (try simp only [size_set])
            all_goals omega
        · skip
          go_simp
          refine hK.out _ _ (hS.alloc hS.size _) (fun hS => ?_)
          clear hK K
          (try simp only [Act.put, List.getElem_toArray, List.getElem_cons_zero, List.getElem_cons_succ, List.setIfInBounds_toArray, List.set_cons_zero, List.set_cons_succ])
          have NB : Below y1.heap.size y1 (y1.alloc (.cells #[.int .i64 0, .int .i64 0, .int .i64 0, .slice none 0 0] 32)) := (Below.refl _ _).alloc (Nat.le_refl _) _
          have hB := Blk.new y1 #[.int .i64 0, .int .i64 0, .int .i64 0, .slice none 0 0] 32
          replace q0 := q0.below NB
          replace q1 := q1.below NB
          have szA := NB.size
          have ltA := hB.lt
          clear NB
          generalize y1.alloc (.cells #[.int .i64 0, .int .i64 0, .int .i64 0, .slice none 0 0] 32) = yA at *
          refine wpAnyH_ready (rs := [5]) (by as_aux_lemma => kernel_rfl) (by simp) ?_
          refine AllReadyH.cons rfl (fun K hK => ?_) AllReadyH.nil
          go_simp
          refine Calls.mono (toByteS_row a2 n2 ca2 xs2 _ (hr2.below (hb.trans (hS.mono hb.size))) (by omega)) ?_
          rintro e y2 ⟨x2, rfl, q2, hc⟩
          obtain ⟨ax2, kx2, rfl, g1, g2⟩ := q2.shape
          have KQ2 : Hid _ := And.intro g1 g2
          clear g1 g2
          replace q0 := q0.below hc
          replace q1 := q1.below hc
          replace hB := hB.below hc
          have sz2 := hc.size
          refine hK.out _ _ (hS.trans (hc.mono hS.size)) (fun hS => ?_)
          clear hK K
          (try simp only [Act.put, List.getElem_toArray, List.getElem_cons_zero, List.getElem_cons_succ, List.setIfInBounds_toArray, List.set_cons_zero, List.set_cons_succ])
          clear hc
          refine wpAnyH_ready (rs := [7]) (by as_aux_lemma => kernel_rfl) (by simp) ?_
          refine AllReadyH.cons rfl (fun K hK => ?_) AllReadyH.nil
          go_simp
          refine Calls.mono (HSC.out ax0 kx0 ax1 kx1 ax2 kx2 _ (RowS.read inE_len q0) KQ0.out.1 KQ0.out.2 q1.read KQ1.out.1 KQ1.out.2 q2.read KQ2.out.1 KQ2.out.2) ?_
          rintro e y3 ⟨x3, rfl, q3, hc⟩
          obtain ⟨ax3, kx3, rfl, -⟩ := q3.shape
          replace q0 := q0.below hc
          replace q1 := q1.below hc
          replace q2 := q2.below hc
          replace hB := hB.below hc
          have sz3 := hc.size
          refine hK.out _ _ (hS.trans (hc.mono hS.size)) (fun hS => ?_)
          clear hK K
          (try simp only [Act.put, List.getElem_toArray, List.getElem_cons_zero, List.getElem_cons_succ, List.setIfInBounds_toArray, List.set_cons_zero, List.set_cons_succ])
          clear hc
          have d0 : y3.cell? ⟨y1.heap.size, 0, none⟩ = some (.int .i64 0) := hB.cell 0
          have df0 := hB.frozen 0
          have d1 : y3.cell? ⟨y1.heap.size, 1, none⟩ = some (.int .i64 0) := hB.cell 1
          have df1 := hB.frozen 1
          have d2 : y3.cell? ⟨y1.heap.size, 2, none⟩ = some (.int .i64 0) := hB.cell 2
          have df2 := hB.frozen 2
          have d3 : y3.cell? ⟨y1.heap.size, 3, none⟩ = some (.slice none 0 0) := hB.cell 3
          have df3 := hB.frozen 3
          refine wpAnyH_ready (rs := [9]) (by as_aux_lemma => kernel_rfl) (by simp) ?_
          refine AllReadyH.cons rfl (fun K hK => ?_) AllReadyH.nil
          have HBB := hid hB
          clear hB
          go_simp
          have hWs : w2.heap.size ≤ y1.heap.size := by have := hS.size; omega
          refine hK.out _ _ (((((hS.setCell hWs _).setCell hWs _).setCell hWs _).setCell hWs _)) (fun hS => ?_)
          clear hK K
          (try simp only [Act.put, List.getElem_toArray, List.getElem_cons_zero, List.getElem_cons_succ, List.setIfInBounds_toArray, List.set_cons_zero, List.set_cons_succ])
          have hbl := ((((HBB.out.set (i := 0) (.int .i64 cd)).set (i := 1) (.int .i64 vd)).set (i := 2) (.int .i64 zd)).set (i := 3) (.slice ax3 m kx3))
          simp only [List.setIfInBounds_toArray, List.set_cons_zero, List.set_cons_succ] at hbl
          have hdj : y1.heap.size < y2.heap.size ∨ y3.heap.size ≤ y1.heap.size := by omega
          have hrow := ((((q3.setB hdj 0 (.int .i64 cd)).setB hdj 1 (.int .i64 vd)).setB hdj 2 (.int .i64 zd)).setB hdj 3 (.slice ax3 m kx3))
          have hx0 := hbl.cell 0
          simp only [List.getElem?_toArray, List.getElem?_cons_zero, List.getElem?_cons_succ] at hx0
          have hx1 := hbl.cell 1
          simp only [List.getElem?_toArray, List.getElem?_cons_zero, List.getElem?_cons_succ] at hx1
          have hx2 := hbl.cell 2
          simp only [List.getElem?_toArray, List.getElem?_cons_zero, List.getElem?_cons_succ] at hx2
          have hx3 := hbl.cell 3
          simp only [List.getElem?_toArray, List.getElem?_cons_zero, List.getElem?_cons_succ] at hx3
          refine wpAnyH_done (by kernel_rfl) ?_ _
          refine ⟨rfl, y1.heap.size, y2.heap.size, y3.heap.size, .slice ax3 m kx3, .slice ax0 n0 kx0, .agg #[.int .i64 z1, .slice ax1 n1 kx1], .slice ax2 n2 kx2, ?_, hS, hWs, ?_, ?_, ?_, ?_, hrow, hx0, hx1, hx2, hx3⟩
          · simp only [Act.put, List.getElem_toArray, List.getElem_cons_zero, List.getElem_cons_succ, List.setIfInBounds_toArray, List.set_cons_zero, List.set_cons_succ]
          all_goals (try simp only [size_set])
          all_goals omega
      · skip
        go_simp
        refine hK.out _ _ (hS.alloc hS.size _) (fun hS => ?_)
        clear hK K
        (try simp only [Act.put, List.getElem_toArray, List.getElem_cons_zero, List.getElem_cons_succ, List.setIfInBounds_toArray, List.set_cons_zero, List.set_cons_succ])
        have NB : Below y0.heap.size y0 (y0.alloc (.cells #[.int .i64 0, .int .i64 0, .int .i64 0, .slice none 0 0] 32)) := (Below.refl _ _).alloc (Nat.le_refl _) _
        have hB := Blk.new y0 #[.int .i64 0, .int .i64 0, .int .i64 0, .slice none 0 0] 32
        replace q0 := q0.below NB
        have szA := NB.size
        have ltA := hB.lt
        clear NB
        generalize y0.alloc (.cells #[.int .i64 0, .int .i64 0, .int .i64 0, .slice none 0 0] 32) = yA at *
        refine wpAnyH_ready (rs := [3]) (by as_aux_lemma => kernel_rfl) (by simp) ?_
        refine AllReadyH.cons rfl (fun K hK => ?_) AllReadyH.nil
        go_simp
        refine Calls.mono (toTable_row z1 a1 n1 ca1 xs1 _ (hr1.below (hb.trans (hS.mono hb.size))) (by omega)) ?_
        rintro e y1 ⟨x1, rfl, q1, hc⟩
        obtain ⟨ax1, kx1, rfl, g1, g2⟩ := q1.shape
        have KQ1 : Hid _ := And.intro g1 g2
        clear g1 g2
        replace q0 := q0.below hc
        replace hB := hB.below hc
        have sz1 := hc.size
        refine hK.out _ _ (hS.trans (hc.mono hS.size)) (fun hS => ?_)
        clear hK K
        (try simp only [Act.put, List.getElem_toArray, List.getElem_cons_zero, List.getElem_cons_succ, List.setIfInBounds_toArray, List.set_cons_zero, List.set_cons_succ])
        clear hc
        refine wpAnyH_ready (rs := [5]) (by as_aux_lemma => kernel_rfl) (by simp) ?_
        refine AllReadyH.cons rfl (fun K hK => ?_) AllReadyH.nil
        go_simp
        refine Calls.mono (toByteS_row a2 n2 ca2 xs2 _ (hr2.below (hb.trans (hS.mono hb.size))) (by omega)) ?_
        rintro e y2 ⟨x2, rfl, q2, hc⟩
        obtain ⟨ax2, kx2, rfl, g1, g2⟩ := q2.shape
        have KQ2 : Hid _ := And.intro g1 g2
        clear g1 g2
        replace q0 := q0.below hc
        replace q1 := q1.below hc
        replace hB := hB.below hc
        have sz2 := hc.size
        refine hK.out _ _ (hS.trans (hc.mono hS.size)) (fun hS => ?_)
        clear hK K
        (try simp only [Act.put, List.getElem_toArray, List.getElem_cons_zero, List.getElem_cons_succ, List.setIfInBounds_toArray, List.set_cons_zero, List.set_cons_succ])
        clear hc
        refine wpAnyH_ready (rs := [7]) (by as_aux_lemma => kernel_rfl) (by simp) ?_
        refine AllReadyH.cons rfl (fun K hK => ?_) AllReadyH.nil
        go_simp
        refine Calls.mono (HSC.out ax0 kx0 ax1 kx1 ax2 kx2 _ (RowS.read inE_len q0) KQ0.out.1 KQ0.out.2 q1.read KQ1.out.1 KQ1.out.2 q2.read KQ2.out.1 KQ2.out.2) ?_
        rintro e y3 ⟨x3, rfl, q3, hc⟩
        obtain ⟨ax3, kx3, rfl, -⟩ := q3.shape
        replace q0 := q0.below hc
        replace q1 := q1.below hc
        replace q2 := q2.below hc
        replace hB := hB.below hc
        have sz3 := hc.size
        refine hK.out _ _ (hS.trans (hc.mono hS.size)) (fun hS => ?_)
        clear hK K
        (try simp only [Act.put, List.getElem_toArray, List.getElem_cons_zero, List.getElem_cons_succ, List.setIfInBounds_toArray, List.set_cons_zero, List.set_cons_succ])
        clear hc
        have d0 : y3.cell? ⟨y0.heap.size, 0, none⟩ = some (.int .i64 0) := hB.cell 0
        have df0 := hB.frozen 0
        have d1 : y3.cell? ⟨y0.heap.size, 1, none⟩ = some (.int .i64 0) := hB.cell 1
        have df1 := hB.frozen 1
        have d2 : y3.cell? ⟨y0.heap.size, 2, none⟩ = some (.int .i64 0) := hB.cell 2
        have df2 := hB.frozen 2
        have d3 : y3.cell? ⟨y0.heap.size, 3, none⟩ = some (.slice none 0 0) := hB.cell 3
        have df3 := hB.frozen 3
        refine wpAnyH_ready (rs := [9]) (by as_aux_lemma => kernel_rfl) (by simp) ?_
        refine AllReadyH.cons rfl (fun K hK => ?_) AllReadyH.nil
        have HBB := hid hB
        clear hB
        go_simp
        have hWs : w2.heap.size ≤ y0.heap.size := by have := hS.size; omega
        refine hK.out _ _ (((((hS.setCell hWs _).setCell hWs _).setCell hWs _).setCell hWs _)) (fun hS => ?_)
        clear hK K
        (try simp only [Act.put, List.getElem_toArray, List.getElem_cons_zero, List.getElem_cons_succ, List.setIfInBounds_toArray, List.set_cons_zero, List.set_cons_succ])
        have hbl := ((((HBB.out.set (i := 0) (.int .i64 cd)).set (i := 1) (.int .i64 vd)).set (i := 2) (.int .i64 zd)).set (i := 3) (.slice ax3 m kx3))
        simp only [List.setIfInBounds_toArray, List.set_cons_zero, List.set_cons_succ] at hbl
        have hdj : y0.heap.size < y2.heap.size ∨ y3.heap.size ≤ y0.heap.size := by omega
        have hrow := ((((q3.setB hdj 0 (.int .i64 cd)).setB hdj 1 (.int .i64 vd)).setB hdj 2 (.int .i64 zd)).setB hdj 3 (.slice ax3 m kx3))
        have hx0 := hbl.cell 0
        simp only [List.getElem?_toArray, List.getElem?_cons_zero, List.getElem?_cons_succ] at hx0
        have hx1 := hbl.cell 1
        simp only [List.getElem?_toArray, List.getElem?_cons_zero, List.getElem?_cons_succ] at hx1
        have hx2 := hbl.cell 2
        simp only [List.getElem?_toArray, List.getElem?_cons_zero, List.getElem?_cons_succ] at hx2
        have hx3 := hbl.cell 3
        simp only [List.getElem?_toArray, List.getElem?_cons_zero, List.getElem?_cons_succ] at hx3
        refine wpAnyH_done (by kernel_rfl) ?_ _
        refine ⟨rfl, y0.heap.size, y2.heap.size, y3.heap.size, .slice ax3 m kx3, .slice ax0 n0 kx0, .agg #[.int .i64 z1, .slice ax1 n1 kx1], .slice ax2 n2 kx2, ?_, hS, hWs, ?_, ?_, ?_, ?_, hrow, hx0, hx1, hx2, hx3⟩
        · simp only [Act.put, List.getElem_toArray, List.getElem_cons_zero, List.getElem_cons_succ, List.setIfInBounds_toArray, List.set_cons_zero, List.set_cons_succ]
        all_goals (try simp only [size_set])
        all_goals omega
    · skip
      go_simp
      refine hK.out _ _ (hS.alloc hS.size _) (fun hS => ?_)
      clear hK K
      (try simp only [Act.put, List.getElem_toArray, List.getElem_cons_zero, List.getElem_cons_succ, List.setIfInBounds_toArray, List.set_cons_zero, List.set_cons_succ])
      have NB : Below w2.heap.size w2 (w2.alloc (.cells #[.int .i64 0, .int .i64 0, .int .i64 0, .slice none 0 0] 32)).drew := ((Below.refl _ _).alloc (Nat.le_refl _) _).drew
      have hB : Blk (w2.alloc (.cells #[.int .i64 0, .int .i64 0, .int .i64 0, .slice none 0 0] 32)).drew w2.heap.size #[.int .i64 0, .int .i64 0, .int .i64 0, .slice none 0 0] 32 := Blk.new w2 #[.int .i64 0, .int .i64 0, .int .i64 0, .slice none 0 0] 32
      have szA := NB.size
      have ltA := hB.lt
      clear NB
      generalize (w2.alloc (.cells #[.int .i64 0, .int .i64 0, .int .i64 0, .slice none 0 0] 32)).drew = yA at *
      refine wpAnyH_ready (rs := [1]) (by as_aux_lemma => kernel_rfl) (by simp) ?_
      refine AllReadyH.cons rfl (fun K hK => ?_) AllReadyH.nil
      go_simp
      refine Calls.mono (toInstS_row a0 n0 ca0 xs0 _ (hr0.below (hb.trans (hS.mono hb.size))) (by omega)) ?_
      rintro e y0 ⟨x0, rfl, q0, hc⟩
      obtain ⟨ax0, kx0, rfl, g1, g2⟩ := (RowS.shape inE_len q0)
      have KQ0 : Hid _ := And.intro g1 g2
      clear g1 g2
      replace hB := hB.below hc
      have sz0 := hc.size
      refine hK.out _ _ (hS.trans (hc.mono hS.size)) (fun hS => ?_)
      clear hK K
      (try simp only [Act.put, List.getElem_toArray, List.getElem_cons_zero, List.getElem_cons_succ, List.setIfInBounds_toArray, List.set_cons_zero, List.set_cons_succ])
      clear hc
      refine wpAnyH_ready (rs := [3]) (by as_aux_lemma => kernel_rfl) (by simp) ?_
      refine AllReadyH.cons rfl (fun K hK => ?_) AllReadyH.nil
      go_simp
      refine Calls.mono (toTable_row z1 a1 n1 ca1 xs1 _ (hr1.below (hb.trans (hS.mono hb.size))) (by omega)) ?_
      rintro e y1 ⟨x1, rfl, q1, hc⟩
      obtain ⟨ax1, kx1, rfl, g1, g2⟩ := q1.shape
      have KQ1 : Hid _ := And.intro g1 g2
      clear g1 g2
      replace q0 := q0.below hc
      replace hB := hB.below hc
      have sz1 := hc.size
      refine hK.out _ _ (hS.trans (hc.mono hS.size)) (fun hS => ?_)
      clear hK K
      (try simp only [Act.put, List.getElem_toArray, List.getElem_cons_zero, List.getElem_cons_succ, List.setIfInBounds_toArray, List.set_cons_zero, List.set_cons_succ])
      clear hc
      refine wpAnyH_ready (rs := [5]) (by as_aux_lemma => kernel_rfl) (by simp) ?_
      refine AllReadyH.cons rfl (fun K hK => ?_) AllReadyH.nil
      go_simp
      refine Calls.mono (toByteS_row a2 n2 ca2 xs2 _ (hr2.below (hb.trans (hS.mono hb.size))) (by omega)) ?_
      rintro e y2 ⟨x2, rfl, q2, hc⟩
      obtain ⟨ax2, kx2, rfl, g1, g2⟩ := q2.shape
      have KQ2 : Hid _ := And.intro g1 g2
      clear g1 g2
      replace q0 := q0.below hc
      replace q1 := q1.below hc
      replace hB := hB.below hc
      have sz2 := hc.size
      refine hK.out _ _ (hS.trans (hc.mono hS.size)) (fun hS => ?_)
      clear hK K
      (try simp only [Act.put, List.getElem_toArray, List.getElem_cons_zero, List.getElem_cons_succ, List.setIfInBounds_toArray, List.set_cons_zero, List.set_cons_succ])
      clear hc
      refine wpAnyH_ready (rs := [7]) (by as_aux_lemma => kernel_rfl) (by simp) ?_
      refine AllReadyH.cons rfl (fun K hK => ?_) AllReadyH.nil
      go_simp
      refine Calls.mono (HSC.out ax0 kx0 ax1 kx1 ax2 kx2 _ (RowS.read inE_len q0) KQ0.out.1 KQ0.out.2 q1.read KQ1.out.1 KQ1.out.2 q2.read KQ2.out.1 KQ2.out.2) ?_
      rintro e y3 ⟨x3, rfl, q3, hc⟩
      obtain ⟨ax3, kx3, rfl, -⟩ := q3.shape
      replace q0 := q0.below hc
      replace q1 := q1.below hc
      replace q2 := q2.below hc
      replace hB := hB.below hc
      have sz3 := hc.size
      refine hK.out _ _ (hS.trans (hc.mono hS.size)) (fun hS => ?_)
      clear hK K
      (try simp only [Act.put, List.getElem_toArray, List.getElem_cons_zero, List.getElem_cons_succ, List.setIfInBounds_toArray, List.set_cons_zero, List.set_cons_succ])
      clear hc
      have d0 : y3.cell? ⟨w2.heap.size, 0, none⟩ = some (.int .i64 0) := hB.cell 0
      have df0 := hB.frozen 0
      have d1 : y3.cell? ⟨w2.heap.size, 1, none⟩ = some (.int .i64 0) := hB.cell 1
      have df1 := hB.frozen 1
      have d2 : y3.cell? ⟨w2.heap.size, 2, none⟩ = some (.int .i64 0) := hB.cell 2
      have df2 := hB.frozen 2
      have d3 : y3.cell? ⟨w2.heap.size, 3, none⟩ = some (.slice none 0 0) := hB.cell 3
      have df3 := hB.frozen 3
      refine wpAnyH_ready (rs := [9]) (by as_aux_lemma => kernel_rfl) (by simp) ?_
      refine AllReadyH.cons rfl (fun K hK => ?_) AllReadyH.nil
      have HBB := hid hB
      clear hB
      go_simp
      have hWs : w2.heap.size ≤ w2.heap.size := by have := hS.size; omega
      refine hK.out _ _ (((((hS.setCell hWs _).setCell hWs _).setCell hWs _).setCell hWs _)) (fun hS => ?_)
      clear hK K
      (try simp only [Act.put, List.getElem_toArray, List.getElem_cons_zero, List.getElem_cons_succ, List.setIfInBounds_toArray, List.set_cons_zero, List.set_cons_succ])
      have hbl := ((((HBB.out.set (i := 0) (.int .i64 cd)).set (i := 1) (.int .i64 vd)).set (i := 2) (.int .i64 zd)).set (i := 3) (.slice ax3 m kx3))
      simp only [List.setIfInBounds_toArray, List.set_cons_zero, List.set_cons_succ] at hbl
      have hdj : w2.heap.size < y2.heap.size ∨ y3.heap.size ≤ w2.heap.size := by omega
      have hrow := ((((q3.setB hdj 0 (.int .i64 cd)).setB hdj 1 (.int .i64 vd)).setB hdj 2 (.int .i64 zd)).setB hdj 3 (.slice ax3 m kx3))
      have hx0 := hbl.cell 0
      simp only [List.getElem?_toArray, List.getElem?_cons_zero, List.getElem?_cons_succ] at hx0
      have hx1 := hbl.cell 1
      simp only [List.getElem?_toArray, List.getElem?_cons_zero, List.getElem?_cons_succ] at hx1
      have hx2 := hbl.cell 2
      simp only [List.getElem?_toArray, List.getElem?_cons_zero, List.getElem?_cons_succ] at hx2
      have hx3 := hbl.cell 3
      simp only [List.getElem?_toArray, List.getElem?_cons_zero, List.getElem?_cons_succ] at hx3
      refine wpAnyH_done (by kernel_rfl) ?_ _
      refine ⟨rfl, w2.heap.size, y2.heap.size, y3.heap.size, .slice ax3 m kx3, .slice ax0 n0 kx0, .agg #[.int .i64 z1, .slice ax1 n1 kx1], .slice ax2 n2 kx2, ?_, hS, hWs, ?_, ?_, ?_, ?_, hrow, hx0, hx1, hx2, hx3⟩
      · simp only [Act.put, List.getElem_toArray, List.getElem_cons_zero, List.getElem_cons_succ, List.setIfInBounds_toArray, List.set_cons_zero, List.set_cons_succ]
      all_goals (try simp only [size_set])
      all_goals omega
  · skip
    rintro a' w3 ⟨B3, lo3, hi3, vg3, u3_0, u3_1, u3_2, rfl, hc, bl3, bu3, ll3, hu3, dj3, rg3, cw00, cw01, cw02, cw03⟩
    obtain ⟨ag3, kg3, rfl, -⟩ := rg3.shape
    simp only [Act.put, List.getElem_toArray, List.getElem_cons_zero, List.getElem_cons_succ, List.setIfInBounds_toArray, List.set_cons_zero, List.set_cons_succ]
    have s3 : w2.heap.size ≤ w3.heap.size := hc.size
    have bq := hc
    replace caT0 := cell_later bq caT0
    replace caT1 := cell_later bq caT1
    replace zaT := Nat.lt_of_lt_of_le zaT bq.size
    replace hb := hb.trans (bq.mono hb.size)
    clear hc bq
    have zw0 := bu3
    go_wp2_with fail
    refine Calls.mono (toInstS_row a0 n0 ca0 xs0 _ (hr0.below hb) (by omega)) ?_
    rintro e w4 ⟨vt4, rfl, rt4, hc⟩
    obtain ⟨at4, kt4, rfl, q1, q2⟩ := (RowS.shape inE_len rt4)
    have Kt4 : Hid _ := And.intro q1 q2
    clear q1 q2
    have s4 : w3.heap.size ≤ w4.heap.size := hc.size
    have bq := hc
    replace caT0 := cell_later bq caT0
    replace caT1 := cell_later bq caT1
    replace zaT := Nat.lt_of_lt_of_le zaT bq.size
    replace cw00 := cell_later bq cw00
    replace cw01 := cell_later bq cw01
    replace cw02 := cell_later bq cw02
    replace cw03 := cell_later bq cw03
    replace zw0 := Nat.lt_of_lt_of_le zw0 bq.size
    replace rg3 := rg3.below bq
    replace hb := hb.trans (bq.mono hb.size)
    clear hc bq
    go_wp2_with fail
    refine Calls.mono (toTable_row z1 a1 n1 ca1 xs1 _ (hr1.below hb) (by omega)) ?_
    rintro e w5 ⟨vt5, rfl, rt5, hc⟩
    obtain ⟨at5, kt5, rfl, q1, q2⟩ := rt5.shape
    have Kt5 : Hid _ := And.intro q1 q2
    clear q1 q2
    have s5 : w4.heap.size ≤ w5.heap.size := hc.size
    have bq := hc
    replace caT0 := cell_later bq caT0
    replace caT1 := cell_later bq caT1
    replace zaT := Nat.lt_of_lt_of_le zaT bq.size
    replace cw00 := cell_later bq cw00
    replace cw01 := cell_later bq cw01
    replace cw02 := cell_later bq cw02
    replace cw03 := cell_later bq cw03
    replace zw0 := Nat.lt_of_lt_of_le zw0 bq.size
    replace rg3 := rg3.below bq
    replace rt4 := rt4.below bq
    replace hb := hb.trans (bq.mono hb.size)
    clear hc bq
    go_wp2_with fail
    have bp : ∀ o0, Below w5.heap.size w5 (w5.alloc o0) := fun o0 => (Below.refl _ _).alloc (Nat.le_refl _) o0
    have hbt : ∀ o0, Below w.heap.size w (w5.alloc o0) := fun o0 => hb.trans ((bp o0).mono hb.size)
    refine Calls.mono (toByteS_row a2 n2 ca2 xs2 _ (hr2.below (hbt _)) (by omega)) ?_
    rintro e w6 ⟨vt6, rfl, rt6, hc⟩
    obtain ⟨at6, kt6, rfl, q1, q2⟩ := rt6.shape
    have Kt6 : Hid _ := And.intro q1 q2
    clear q1 q2
    replace rt6 := RowI.mono (lo' := w5.heap.size + 1) rt6 (by simp) (Nat.le_refl _)
    have s6 : w5.heap.size + 1 ≤ w6.heap.size := by have := hc.size; simp at this; omega
    have bq : Below w5.heap.size w5 w6 := (bp _).trans (hc.mono (bp _).size)
    replace caT0 := cell_later bq caT0
    replace caT1 := cell_later bq caT1
    replace zaT := Nat.lt_of_lt_of_le zaT bq.size
    replace cw00 := cell_later bq cw00
    replace cw01 := cell_later bq cw01
    replace cw02 := cell_later bq cw02
    replace cw03 := cell_later bq cw03
    replace zw0 := Nat.lt_of_lt_of_le zw0 bq.size
    have cx10 : w6.cell? ⟨w5.heap.size, 0, none⟩ = some (.int .i64 z1) := cell_later hc (by simp [go_sem])
    have cx11 : w6.cell? ⟨w5.heap.size, 1, none⟩ = some (.slice at5 n1 kt5) := cell_later hc (by simp [go_sem])
    have zx1 : w5.heap.size < w6.heap.size := by omega
    replace rg3 := rg3.below bq
    replace rt4 := rt4.below bq
    replace rt5 := rt5.below bq
    replace hb := hb.trans (bq.mono hb.size)
    clear hc bq bp hbt
    go_wp2_with fail
    refine Calls.mono (HIC.out at4 kt4 at5 kt5 at6 kt6 _ (RowS.read inE_len rt4) Kt4.out.1 Kt4.out.2 rt5.read Kt5.out.1 Kt5.out.2 rt6.read Kt6.out.1 Kt6.out.2) ?_
    rintro e w7 ⟨vg7, rfl, rg7, hc⟩
    obtain ⟨ag7, kg7, rfl, -⟩ := rg7.shape
    have s7 : w6.heap.size ≤ w7.heap.size := hc.size
    have bq := hc
    replace caT0 := cell_later bq caT0
    replace caT1 := cell_later bq caT1
    replace zaT := Nat.lt_of_lt_of_le zaT bq.size
    replace cw00 := cell_later bq cw00
    replace cw01 := cell_later bq cw01
    replace cw02 := cell_later bq cw02
    replace cw03 := cell_later bq cw03
    replace zw0 := Nat.lt_of_lt_of_le zw0 bq.size
    replace cx10 := cell_later bq cx10
    replace cx11 := cell_later bq cx11
    replace zx1 := Nat.lt_of_lt_of_le zx1 bq.size
    replace rg3 := rg3.below bq
    replace rt4 := rt4.below bq
    replace rt5 := rt5.below bq
    replace rt6 := rt6.below bq
    replace hb := hb.trans (bq.mono hb.size)
    clear hc bq
    go_wp2_with fail
    have bp : ∀ o0, Below w7.heap.size w7 (w7.alloc o0) := fun o0 => (Below.refl _ _).alloc (Nat.le_refl _) o0
    have hbt : ∀ o0, Below w.heap.size w (w7.alloc o0) := fun o0 => hb.trans ((bp o0).mono hb.size)
    refine Calls.mono (eqTableResult_yes cd vd zd ag7 ag3 m kg7 kg3 rs _ (rg7.below (bp _)).read (rg3.below (bp _)).read (by omega)) ?_
    rintro e w8 ⟨rfl, hc⟩
    have s8 : w7.heap.size + 1 ≤ w8.heap.size := by have := hc.size; simp at this; omega
    have bq : Below w7.heap.size w7 w8 := (bp _).trans (hc.mono (bp _).size)
    replace caT0 := cell_later bq caT0
    replace caT1 := cell_later bq caT1
    replace zaT := Nat.lt_of_lt_of_le zaT bq.size
    replace cw00 := cell_later bq cw00
    replace cw01 := cell_later bq cw01
    replace cw02 := cell_later bq cw02
    replace cw03 := cell_later bq cw03
    replace zw0 := Nat.lt_of_lt_of_le zw0 bq.size
    replace cx10 := cell_later bq cx10
    replace cx11 := cell_later bq cx11
    replace zx1 := Nat.lt_of_lt_of_le zx1 bq.size
    have cg00 : w8.cell? ⟨w7.heap.size, 0, none⟩ = some (.int .i64 cd) := cell_later hc (by simp [go_sem])
    have cg01 : w8.cell? ⟨w7.heap.size, 1, none⟩ = some (.int .i64 vd) := cell_later hc (by simp [go_sem])
    have cg02 : w8.cell? ⟨w7.heap.size, 2, none⟩ = some (.int .i64 zd) := cell_later hc (by simp [go_sem])
    have cg03 : w8.cell? ⟨w7.heap.size, 3, none⟩ = some (.slice ag7 m kg7) := cell_later hc (by simp [go_sem])
    have zg0 : w7.heap.size < w8.heap.size := by omega
    replace rg3 := rg3.below bq
    replace rt4 := rt4.below bq
    replace rt5 := rt5.below bq
    replace rt6 := rt6.below bq
    replace rg7 := rg7.below bq
    replace hb := hb.trans (bq.mono hb.size)
    clear hc bq bp hbt
    go_wp2_with fail
    refine Calls.mono (toInstS_row a0 n0 ca0 xs0 _ (hr0.below hb) (by omega)) ?_
    rintro e w9 ⟨vt9, rfl, rt9, hc⟩
    obtain ⟨at9, kt9, rfl, q1, q2⟩ := (RowS.shape inE_len rt9)
    have Kt9 : Hid _ := And.intro q1 q2
    clear q1 q2
    have s9 : w8.heap.size ≤ w9.heap.size := hc.size
    have bq := hc
    replace caT0 := cell_later bq caT0
    replace caT1 := cell_later bq caT1
    replace zaT := Nat.lt_of_lt_of_le zaT bq.size
    replace cw00 := cell_later bq cw00
    replace cw01 := cell_later bq cw01
    replace cw02 := cell_later bq cw02
    replace cw03 := cell_later bq cw03
    replace zw0 := Nat.lt_of_lt_of_le zw0 bq.size
    replace cx10 := cell_later bq cx10
    replace cx11 := cell_later bq cx11
    replace zx1 := Nat.lt_of_lt_of_le zx1 bq.size
    replace cg00 := cell_later bq cg00
    replace cg01 := cell_later bq cg01
    replace cg02 := cell_later bq cg02
    replace cg03 := cell_later bq cg03
    replace zg0 := Nat.lt_of_lt_of_le zg0 bq.size
    replace rg3 := rg3.below bq
    replace rt4 := rt4.below bq
    replace rt5 := rt5.below bq
    replace rt6 := rt6.below bq
    replace rg7 := rg7.below bq
    replace hb := hb.trans (bq.mono hb.size)
    clear hc bq
    go_wp2_with fail
    refine Calls.mono (eqInstS_yes at4 at9 n0 kt4 kt9 xs0 _ (RowS.read inE_len rt4) (RowS.read inE_len rt9) (by first | omega | (unfold maxLen; omega))) ?_
    rintro e w10 ⟨rfl, hc⟩
    have s10 : w9.heap.size ≤ w10.heap.size := hc.size
    have bq := hc
    replace caT0 := cell_later bq caT0
    replace caT1 := cell_later bq caT1
    replace zaT := Nat.lt_of_lt_of_le zaT bq.size
    replace cw00 := cell_later bq cw00
    replace cw01 := cell_later bq cw01
    replace cw02 := cell_later bq cw02
    replace cw03 := cell_later bq cw03
    replace zw0 := Nat.lt_of_lt_of_le zw0 bq.size
    replace cx10 := cell_later bq cx10
    replace cx11 := cell_later bq cx11
    replace zx1 := Nat.lt_of_lt_of_le zx1 bq.size
    replace cg00 := cell_later bq cg00
    replace cg01 := cell_later bq cg01
    replace cg02 := cell_later bq cg02
    replace cg03 := cell_later bq cg03
    replace zg0 := Nat.lt_of_lt_of_le zg0 bq.size
    replace rg3 := rg3.below bq
    replace rt4 := rt4.below bq
    replace rt5 := rt5.below bq
    replace rt6 := rt6.below bq
    replace rg7 := rg7.below bq
    replace rt9 := rt9.below bq
    replace hb := hb.trans (bq.mono hb.size)
    clear hc bq
    clear rt9 Kt9
    go_wp2_with fail
    have bd : Below w10.heap.size w10 w10.drew := (Below.refl _ _).drew
    refine wp_region_held_drew (S := fun w' => w'.cell? ⟨w5.heap.size, 0, none⟩ = some (.int .i64 z1) ∧ w'.cell? ⟨w5.heap.size, 1, none⟩ = some (.slice at5 n1 kt5) ∧ w'.cell? ⟨w.heap.size, 0, none⟩ = some (.int .i64 z1) ∧ w'.cell? ⟨w.heap.size, 1, none⟩ = some (.slice a1 n1 ca1)) (by kernel_rfl) (by exact ⟨cx10, cx11, caT0, caT1⟩) (fun hS => ?_)
    refine wpAnyH_take (i := 0) (v := (.agg #[.int .i64 z1, .slice at5 n1 kt5])) rfl (by as_aux_lemma => kernel_rfl) (by as_aux_lemma => kernel_rfl) (by as_aux_lemma => kernel_rfl) (fun _ _ _ h => h) (Or.inl ⟨by kernel_rfl, ?_⟩) hS ?_
    · intro w hSw; (try dsimp only at hSw); go_simp
    (try simp only [Act.put, List.getElem_toArray, List.getElem_cons_zero, List.getElem_cons_succ, List.setIfInBounds_toArray, List.set_cons_zero, List.set_cons_succ])
    refine wpAnyH_take (i := 1) (v := (.agg #[.int .i64 z1, .slice a1 n1 ca1])) rfl (by as_aux_lemma => kernel_rfl) (by as_aux_lemma => kernel_rfl) (by as_aux_lemma => kernel_rfl) (fun _ _ _ h => h) (Or.inl ⟨by kernel_rfl, ?_⟩) hS ?_
    · intro w hSw; (try dsimp only at hSw); go_simp
    (try simp only [Act.put, List.getElem_toArray, List.getElem_cons_zero, List.getElem_cons_succ, List.setIfInBounds_toArray, List.set_cons_zero, List.set_cons_succ])
    refine wpAnyH_ready (rs := [2]) (by as_aux_lemma => kernel_rfl) (by simp) ?_
    refine AllReadyH.cons rfl (fun K hK => ?_) AllReadyH.nil
    go_simp
    refine Calls.mono (toTable_row z1 a1 n1 ca1 xs1 _ (hr1.below hb.drew) (by omega)) ?_
    rintro e w11 ⟨vt11, rfl, rt11, hc0⟩
    obtain ⟨at11, kt11, rfl, q1, q2⟩ := rt11.shape
    have Kt11 : Hid _ := And.intro q1 q2
    clear q1 q2
    replace rt11 := TabR.mono (lo' := w10.heap.size) rt11 (Nat.le_refl _) (Nat.le_refl _)
    refine hK.out _ _ ⟨cell_later hc0 hS.1, cell_later hc0 hS.2.1, cell_later hc0 hS.2.2.1, cell_later hc0 hS.2.2.2⟩ (fun hS => ?_)
    clear hK K
    have hc : Below w10.heap.size w10 w11 := bd.trans (hc0.mono (Nat.le_refl _))
    clear hc0 bd
    have s11 : w10.heap.size ≤ w11.heap.size := hc.size
    have bq := hc
    replace caT0 := cell_later bq caT0
    replace caT1 := cell_later bq caT1
    replace zaT := Nat.lt_of_lt_of_le zaT bq.size
    replace cw00 := cell_later bq cw00
    replace cw01 := cell_later bq cw01
    replace cw02 := cell_later bq cw02
    replace cw03 := cell_later bq cw03
    replace zw0 := Nat.lt_of_lt_of_le zw0 bq.size
    replace cx10 := cell_later bq cx10
    replace cx11 := cell_later bq cx11
    replace zx1 := Nat.lt_of_lt_of_le zx1 bq.size
    replace cg00 := cell_later bq cg00
    replace cg01 := cell_later bq cg01
    replace cg02 := cell_later bq cg02
    replace cg03 := cell_later bq cg03
    replace zg0 := Nat.lt_of_lt_of_le zg0 bq.size
    replace rg3 := rg3.below bq
    replace rt4 := rt4.below bq
    replace rt5 := rt5.below bq
    replace rt6 := rt6.below bq
    replace rg7 := rg7.below bq
    replace hb := hb.trans (bq.mono hb.size)
    clear hc bq
    refine wpAnyH_ready (rs := [3]) (by as_aux_lemma => kernel_rfl) (by simp) ?_
    refine AllReadyH.cons rfl (fun K hK => ?_) AllReadyH.nil
    go_simp
    refine Calls.mono (eqTable_yes z1 at5 at11 n1 kt5 kt11 xs1 _ rt5.read rt11.read (by omega)) ?_
    rintro e w12 ⟨rfl, hc0⟩
    refine hK.out _ _ ⟨cell_later hc0 hS.1, cell_later hc0 hS.2.1, cell_later hc0 hS.2.2.1, cell_later hc0 hS.2.2.2⟩ (fun hS => ?_)
    clear hK K
    have hc := hc0
    clear hc0
    have s12 : w11.heap.size ≤ w12.heap.size := hc.size
    have bq := hc
    replace caT0 := cell_later bq caT0
    replace caT1 := cell_later bq caT1
    replace zaT := Nat.lt_of_lt_of_le zaT bq.size
    replace cw00 := cell_later bq cw00
    replace cw01 := cell_later bq cw01
    replace cw02 := cell_later bq cw02
    replace cw03 := cell_later bq cw03
    replace zw0 := Nat.lt_of_lt_of_le zw0 bq.size
    replace cx10 := cell_later bq cx10
    replace cx11 := cell_later bq cx11
    replace zx1 := Nat.lt_of_lt_of_le zx1 bq.size
    replace cg00 := cell_later bq cg00
    replace cg01 := cell_later bq cg01
    replace cg02 := cell_later bq cg02
    replace cg03 := cell_later bq cg03
    replace zg0 := Nat.lt_of_lt_of_le zg0 bq.size
    replace rg3 := rg3.below bq
    replace rt4 := rt4.below bq
    replace rt5 := rt5.below bq
    replace rt6 := rt6.below bq
    replace rg7 := rg7.below bq
    replace rt11 := rt11.below bq
    replace hb := hb.trans (bq.mono hb.size)
    clear hc bq
    clear rt11 Kt11
    refine wpAnyH_take (i := 4) (v := (.bool false)) rfl (by as_aux_lemma => kernel_rfl) (by as_aux_lemma => kernel_rfl) (by as_aux_lemma => kernel_rfl) (fun _ _ _ h => h) (Or.inl ⟨by kernel_rfl, ?_⟩) hS ?_
    · intro w hSw; (try dsimp only at hSw); go_simp
    (try simp only [Act.put, List.getElem_toArray, List.getElem_cons_zero, List.getElem_cons_succ, List.setIfInBounds_toArray, List.set_cons_zero, List.set_cons_succ])
    refine wpAnyH_done (by kernel_rfl) ?_ _
    clear hS
    go_wp2_with fail
    refine Calls.mono (toByteS_row a2 n2 ca2 xs2 _ (hr2.below hb) (by omega)) ?_
    rintro e w13 ⟨vt13, rfl, rt13, hc⟩
    obtain ⟨at13, kt13, rfl, q1, q2⟩ := rt13.shape
    have Kt13 : Hid _ := And.intro q1 q2
    clear q1 q2
    have s13 : w12.heap.size ≤ w13.heap.size := hc.size
    have bq := hc
    replace caT0 := cell_later bq caT0
    replace caT1 := cell_later bq caT1
    replace zaT := Nat.lt_of_lt_of_le zaT bq.size
    replace cw00 := cell_later bq cw00
    replace cw01 := cell_later bq cw01
    replace cw02 := cell_later bq cw02
    replace cw03 := cell_later bq cw03
    replace zw0 := Nat.lt_of_lt_of_le zw0 bq.size
    replace cx10 := cell_later bq cx10
    replace cx11 := cell_later bq cx11
    replace zx1 := Nat.lt_of_lt_of_le zx1 bq.size
    replace cg00 := cell_later bq cg00
    replace cg01 := cell_later bq cg01
    replace cg02 := cell_later bq cg02
    replace cg03 := cell_later bq cg03
    replace zg0 := Nat.lt_of_lt_of_le zg0 bq.size
    replace rg3 := rg3.below bq
    replace rt4 := rt4.below bq
    replace rt5 := rt5.below bq
    replace rt6 := rt6.below bq
    replace rg7 := rg7.below bq
    replace hb := hb.trans (bq.mono hb.size)
    clear hc bq
    go_wp2_with fail
    refine Calls.mono (eqByteS_yes at6 at13 n2 kt6 kt13 xs2 _ rt6.read rt13.read (by first | omega | (unfold maxLen; omega))) ?_
    rintro e w14 ⟨rfl, hc⟩
    have s14 : w13.heap.size ≤ w14.heap.size := hc.size
    have bq := hc
    replace caT0 := cell_later bq caT0
    replace caT1 := cell_later bq caT1
    replace zaT := Nat.lt_of_lt_of_le zaT bq.size
    replace cw00 := cell_later bq cw00
    replace cw01 := cell_later bq cw01
    replace cw02 := cell_later bq cw02
    replace cw03 := cell_later bq cw03
    replace zw0 := Nat.lt_of_lt_of_le zw0 bq.size
    replace cx10 := cell_later bq cx10
    replace cx11 := cell_later bq cx11
    replace zx1 := Nat.lt_of_lt_of_le zx1 bq.size
    replace cg00 := cell_later bq cg00
    replace cg01 := cell_later bq cg01
    replace cg02 := cell_later bq cg02
    replace cg03 := cell_later bq cg03
    replace zg0 := Nat.lt_of_lt_of_le zg0 bq.size
    replace rg3 := rg3.below bq
    replace rt4 := rt4.below bq
    replace rt5 := rt5.below bq
    replace rt6 := rt6.below bq
    replace rg7 := rg7.below bq
    replace rt13 := rt13.below bq
    replace hb := hb.trans (bq.mono hb.size)
    clear hc bq
    clear rt13 Kt13
    go_wp2_with fail
    refine Calls.mono (markInstS_row _ n0 _ _ xs0 1 _ rt4 (by omega) (by omega) (by omega)) ?_
    clear rt4
    rintro e w15 ⟨rfl, rt4, hc⟩
    have s15 : w14.heap.size ≤ w15.heap.size := hc.size
    have cq := hc
    replace caT0 := cq.at caT0 zaT (by omega)
    replace caT1 := cq.at caT1 zaT (by omega)
    replace zaT := Nat.lt_of_lt_of_le zaT cq.size
    replace cw00 := cq.at cw00 zw0 (by omega)
    replace cw01 := cq.at cw01 zw0 (by omega)
    replace cw02 := cq.at cw02 zw0 (by omega)
    replace cw03 := cq.at cw03 zw0 (by omega)
    replace zw0 := Nat.lt_of_lt_of_le zw0 cq.size
    replace cx10 := cq.at cx10 zx1 (by omega)
    replace cx11 := cq.at cx11 zx1 (by omega)
    replace zx1 := Nat.lt_of_lt_of_le zx1 cq.size
    replace cg00 := cq.at cg00 zg0 (by omega)
    replace cg01 := cq.at cg01 zg0 (by omega)
    replace cg02 := cq.at cg02 zg0 (by omega)
    replace cg03 := cq.at cg03 zg0 (by omega)
    replace zg0 := Nat.lt_of_lt_of_le zg0 cq.size
    replace rg3 := rg3.chg cq (by omega)
    replace rt5 := rt5.chg cq (by omega)
    replace rt6 := rt6.chg cq (by omega)
    replace rg7 := rg7.chg cq (by omega)
    replace hb := below_chg hb cq hb.size (by omega)
    clear hc cq
    have hk15 : ¬ (1 + 8 * (n0 : Int)) < 0 := by omega
    go_wp2_with fail
    refine Calls.mono (markTable_tab false z1 (1 + 8 * (n0 : Int)) _ n1 _ _ xs1 _ rt5 (by omega) (by omega) (by omega)) ?_
    clear rt5
    rintro e w16 ⟨rfl, rt5, hc⟩
    have s16 : w15.heap.size ≤ w16.heap.size := hc.size
    have cq := hc
    replace caT0 := cq.at caT0 zaT (by omega)
    replace caT1 := cq.at caT1 zaT (by omega)
    replace zaT := Nat.lt_of_lt_of_le zaT cq.size
    replace cw00 := cq.at cw00 zw0 (by omega)
    replace cw01 := cq.at cw01 zw0 (by omega)
    replace cw02 := cq.at cw02 zw0 (by omega)
    replace cw03 := cq.at cw03 zw0 (by omega)
    replace zw0 := Nat.lt_of_lt_of_le zw0 cq.size
    replace cx10 := cq.at cx10 zx1 (by omega)
    replace cx11 := cq.at cx11 zx1 (by omega)
    replace zx1 := Nat.lt_of_lt_of_le zx1 cq.size
    replace cg00 := cq.at cg00 zg0 (by omega)
    replace cg01 := cq.at cg01 zg0 (by omega)
    replace cg02 := cq.at cg02 zg0 (by omega)
    replace cg03 := cq.at cg03 zg0 (by omega)
    replace zg0 := Nat.lt_of_lt_of_le zg0 cq.size
    replace rg3 := rg3.chg cq (by omega)
    replace rt4 := rt4.chg cq (by omega)
    replace rt6 := rt6.chg cq (by omega)
    replace rg7 := rg7.chg cq (by omega)
    replace hb := below_chg hb cq hb.size (by omega)
    clear hc cq
    have hk16 : ¬ ((1 + 8 * (n0 : Int)) + (stC xs1 : Int)) < 0 := by omega
    go_wp2_with fail
    refine Calls.mono (markByteS_row _ n2 _ _ xs2 ((1 + 8 * (n0 : Int)) + (stC xs1 : Int)) _ rt6 (by omega) (by omega) (by omega)) ?_
    clear rt6
    rintro e w17 ⟨rfl, rt6, hc⟩
    have s17 : w16.heap.size ≤ w17.heap.size := hc.size
    have cq := hc
    replace caT0 := cq.at caT0 zaT (by omega)
    replace caT1 := cq.at caT1 zaT (by omega)
    replace zaT := Nat.lt_of_lt_of_le zaT cq.size
    replace cw00 := cq.at cw00 zw0 (by omega)
    replace cw01 := cq.at cw01 zw0 (by omega)
    replace cw02 := cq.at cw02 zw0 (by omega)
    replace cw03 := cq.at cw03 zw0 (by omega)
    replace zw0 := Nat.lt_of_lt_of_le zw0 cq.size
    replace cx10 := cq.at cx10 zx1 (by omega)
    replace cx11 := cq.at cx11 zx1 (by omega)
    replace zx1 := Nat.lt_of_lt_of_le zx1 cq.size
    replace cg00 := cq.at cg00 zg0 (by omega)
    replace cg01 := cq.at cg01 zg0 (by omega)
    replace cg02 := cq.at cg02 zg0 (by omega)
    replace cg03 := cq.at cg03 zg0 (by omega)
    replace zg0 := Nat.lt_of_lt_of_le zg0 cq.size
    replace rg3 := rg3.chg cq (by omega)
    replace rt4 := rt4.chg cq (by omega)
    replace rt5 := rt5.chg cq (by omega)
    replace rg7 := rg7.chg cq (by omega)
    replace hb := below_chg hb cq hb.size (by omega)
    clear hc cq
    have hk17 : ¬ (((1 + 8 * (n0 : Int)) + (stC xs1 : Int)) + (n2 : Int)) < 0 := by omega
    go_wp2_with fail
    refine Calls.mono (eqTableResult_yes cd vd zd ag7 ag3 m kg7 kg3 rs _ rg7.read rg3.read (by omega)) ?_
    rintro e w18 ⟨rfl, hc⟩
    have s18 : w17.heap.size ≤ w18.heap.size := hc.size
    have bq := hc
    replace caT0 := cell_later bq caT0
    replace caT1 := cell_later bq caT1
    replace zaT := Nat.lt_of_lt_of_le zaT bq.size
    replace cw00 := cell_later bq cw00
    replace cw01 := cell_later bq cw01
    replace cw02 := cell_later bq cw02
    replace cw03 := cell_later bq cw03
    replace zw0 := Nat.lt_of_lt_of_le zw0 bq.size
    replace cx10 := cell_later bq cx10
    replace cx11 := cell_later bq cx11
    replace zx1 := Nat.lt_of_lt_of_le zx1 bq.size
    replace cg00 := cell_later bq cg00
    replace cg01 := cell_later bq cg01
    replace cg02 := cell_later bq cg02
    replace cg03 := cell_later bq cg03
    replace zg0 := Nat.lt_of_lt_of_le zg0 bq.size
    replace rg3 := rg3.below bq
    replace rt4 := rt4.below bq
    replace rt5 := rt5.below bq
    replace rt6 := rt6.below bq
    replace rg7 := rg7.below bq
    replace hb := hb.trans (bq.mono hb.size)
    clear hc bq
    go_wp2_with fail
    refine Calls.mono (markTableResult_tab true cd vd zd 1 _ m _ _ rs _ rg7 (by omega) (by omega) (by omega)) ?_
    clear rg7
    rintro e w19 ⟨rfl, rg7, hc⟩
    have s19 : w18.heap.size ≤ w19.heap.size := hc.size
    have cq := hc
    replace caT0 := cq.at caT0 zaT (by omega)
    replace caT1 := cq.at caT1 zaT (by omega)
    replace zaT := Nat.lt_of_lt_of_le zaT cq.size
    replace cw00 := cq.at cw00 zw0 (by omega)
    replace cw01 := cq.at cw01 zw0 (by omega)
    replace cw02 := cq.at cw02 zw0 (by omega)
    replace cw03 := cq.at cw03 zw0 (by omega)
    replace zw0 := Nat.lt_of_lt_of_le zw0 cq.size
    replace cx10 := cq.at cx10 zx1 (by omega)
    replace cx11 := cq.at cx11 zx1 (by omega)
    replace zx1 := Nat.lt_of_lt_of_le zx1 cq.size
    replace cg00 := cq.at cg00 zg0 (by omega)
    replace cg01 := cq.at cg01 zg0 (by omega)
    replace cg02 := cq.at cg02 zg0 (by omega)
    replace cg03 := cq.at cg03 zg0 (by omega)
    replace zg0 := Nat.lt_of_lt_of_le zg0 cq.size
    replace rg3 := rg3.chg cq (by omega)
    replace rt4 := rt4.chg cq (by omega)
    replace rt5 := rt5.chg cq (by omega)
    replace rt6 := rt6.chg cq (by omega)
    replace hb := below_chg hb cq hb.size (by omega)
    clear hc cq
    have hk19 : ¬ (1 + (stC rs : Int)) < 0 := by omega
    go_wp2_with fail
    refine Calls.mono (heldTableResult_yes cd vd zd 1 ag7 m kg7 rs _ rg7.read (by omega) (by omega) (by omega)) ?_
    rintro e w20 ⟨rfl, hc⟩
    have s20 : w19.heap.size ≤ w20.heap.size := hc.size
    have bq := hc
    replace caT0 := cell_later bq caT0
    replace caT1 := cell_later bq caT1
    replace zaT := Nat.lt_of_lt_of_le zaT bq.size
    replace cw00 := cell_later bq cw00
    replace cw01 := cell_later bq cw01
    replace cw02 := cell_later bq cw02
    replace cw03 := cell_later bq cw03
    replace zw0 := Nat.lt_of_lt_of_le zw0 bq.size
    replace cx10 := cell_later bq cx10
    replace cx11 := cell_later bq cx11
    replace zx1 := Nat.lt_of_lt_of_le zx1 bq.size
    replace cg00 := cell_later bq cg00
    replace cg01 := cell_later bq cg01
    replace cg02 := cell_later bq cg02
    replace cg03 := cell_later bq cg03
    replace zg0 := Nat.lt_of_lt_of_le zg0 bq.size
    replace rg3 := rg3.below bq
    replace rt4 := rt4.below bq
    replace rt5 := rt5.below bq
    replace rt6 := rt6.below bq
    replace rg7 := rg7.below bq
    replace hb := hb.trans (bq.mono hb.size)
    clear hc bq
    go_wp2_with fail
    refine region_join (fun a a' w' => ∃ (B lo hi : Nat) (v v0 v1 v2 : Value), a' = (((((((((a.put (some 98) (.slice a0 n0 ca0)).put (some 100) (.agg #[.int .i64 z1, .slice a1 n1 ca1])).put (some 102) (.slice a2 n2 ca2)).put (some 104) (.int .i64 I3)).put (some 99) v0).put (some 101) v1).put (some 103) v2).put (some 105) (.agg #[.int .i64 cd, .int .i64 vd, .int .i64 zd, v])).put (some 18) (.pointer (some ⟨B, 0, none⟩))) ∧ Below w20.heap.size w20 w' ∧ w20.heap.size ≤ B ∧ B < w'.heap.size ∧ w20.heap.size ≤ lo ∧ hi ≤ w'.heap.size ∧ (B < lo ∨ hi ≤ B) ∧ TabR true w' lo hi v m rs ∧ w'.cell? ⟨B, 0, none⟩ = some (.int .i64 cd) ∧ w'.cell? ⟨B, 1, none⟩ = some (.int .i64 vd) ∧ w'.cell? ⟨B, 2, none⟩ = some (.int .i64 zd) ∧ w'.cell? ⟨B, 3, none⟩ = some (v)) ?_ ?_
    · skip
      refine wp_region_held_drew (S := fun w' => Below w20.heap.size w20 w') (by kernel_rfl) (Below.refl _ _).drew (fun hS => ?_)
      have hdz : w20.drew.heap.size = w20.heap.size := rfl
      refine wpAnyH_take (i := 0) (v := (.slice a0 n0 ca0)) rfl (by as_aux_lemma => kernel_rfl) (by as_aux_lemma => kernel_rfl) (by as_aux_lemma => kernel_rfl) (fun _ _ _ h => nomatch h.1) (Or.inl ⟨by kernel_rfl, ?_⟩) hS ?_
      · intro w hSw; (try dsimp only at hSw); go_simp
      (try simp only [Act.put, List.getElem_toArray, List.getElem_cons_zero, List.getElem_cons_succ, List.setIfInBounds_toArray, List.set_cons_zero, List.set_cons_succ])
      refine wpAnyH_take (i := 2) (v := (.agg #[.int .i64 z1, .slice a1 n1 ca1])) rfl (by as_aux_lemma => kernel_rfl) (by as_aux_lemma => kernel_rfl) (by as_aux_lemma => kernel_rfl) (fun _ _ _ h => nomatch h.1) (Or.inl ⟨by kernel_rfl, ?_⟩) hS ?_
      · intro w hSw; (try dsimp only at hSw); have hl0 := cell_later hSw caT0; have hl1 := cell_later hSw caT1; go_simp
      (try simp only [Act.put, List.getElem_toArray, List.getElem_cons_zero, List.getElem_cons_succ, List.setIfInBounds_toArray, List.set_cons_zero, List.set_cons_succ])
      refine wpAnyH_take (i := 4) (v := (.slice a2 n2 ca2)) rfl (by as_aux_lemma => kernel_rfl) (by as_aux_lemma => kernel_rfl) (by as_aux_lemma => kernel_rfl) (fun _ _ _ h => nomatch h.1) (Or.inl ⟨by kernel_rfl, ?_⟩) hS ?_
      · intro w hSw; (try dsimp only at hSw); go_simp
      (try simp only [Act.put, List.getElem_toArray, List.getElem_cons_zero, List.getElem_cons_succ, List.setIfInBounds_toArray, List.set_cons_zero, List.set_cons_succ])
      refine wpAnyH_take (i := 6) (v := (.int .i64 I3)) rfl (by as_aux_lemma => kernel_rfl) (by as_aux_lemma => kernel_rfl) (by as_aux_lemma => kernel_rfl) (fun _ _ _ h => nomatch h.1) (Or.inl ⟨by kernel_rfl, ?_⟩) hS ?_
      · intro w hSw; (try dsimp only at hSw); go_simp
      (try simp only [Act.put, List.getElem_toArray, List.getElem_cons_zero, List.getElem_cons_succ, List.setIfInBounds_toArray, List.set_cons_zero, List.set_cons_succ])
      refine wpAnyH_ready (rs := [1, 8]) (by as_aux_lemma => kernel_rfl) (by simp) ?_
      refine AllReadyH.cons rfl (fun K hK => ?_) (AllReadyH.cons rfl (fun K hK => ?_) AllReadyH.nil)
      · skip
        go_simp
        refine Calls.mono (toInstS_row a0 n0 ca0 xs0 _ (hr0.below (hb.trans (hS.mono hb.size))) (by omega)) ?_
        rintro e y0 ⟨x0, rfl, q0, hc⟩
        obtain ⟨ax0, kx0, rfl, g1, g2⟩ := (RowS.shape inE_len q0)
        have KQ0 : Hid _ := And.intro g1 g2
        clear g1 g2
        have sz0 := hc.size
        refine hK.out _ _ (hS.trans (hc.mono hS.size)) (fun hS => ?_)
        clear hK K
        (try simp only [Act.put, List.getElem_toArray, List.getElem_cons_zero, List.getElem_cons_succ, List.setIfInBounds_toArray, List.set_cons_zero, List.set_cons_succ])
        clear hc
        refine wpAnyH_ready (rs := [3, 8]) (by as_aux_lemma => kernel_rfl) (by simp) ?_
        refine AllReadyH.cons rfl (fun K hK => ?_) (AllReadyH.cons rfl (fun K hK => ?_) AllReadyH.nil)
        · skip
          go_simp
          refine Calls.mono (toTable_row z1 a1 n1 ca1 xs1 _ (hr1.below (hb.trans (hS.mono hb.size))) (by omega)) ?_
          rintro e y1 ⟨x1, rfl, q1, hc⟩
          obtain ⟨ax1, kx1, rfl, g1, g2⟩ := q1.shape
          have KQ1 : Hid _ := And.intro g1 g2
          clear g1 g2
          replace q0 := q0.below hc
          have sz1 := hc.size
          refine hK.out _ _ (hS.trans (hc.mono hS.size)) (fun hS => ?_)
          clear hK K
          (try simp only [Act.put, List.getElem_toArray, List.getElem_cons_zero, List.getElem_cons_succ, List.setIfInBounds_toArray, List.set_cons_zero, List.set_cons_succ])
          clear hc
          refine wpAnyH_ready (rs := [5, 8]) (by as_aux_lemma => kernel_rfl) (by simp) ?_
          refine AllReadyH.cons rfl (fun K hK => ?_) (AllReadyH.cons rfl (fun K hK => ?_) AllReadyH.nil)
          · skip
            go_simp
            refine Calls.mono (toByteS_row a2 n2 ca2 xs2 _ (hr2.below (hb.trans (hS.mono hb.size))) (by omega)) ?_
            rintro e y2 ⟨x2, rfl, q2, hc⟩
            obtain ⟨ax2, kx2, rfl, g1, g2⟩ := q2.shape
            have KQ2 : Hid _ := And.intro g1 g2
            clear g1 g2
            replace q0 := q0.below hc
            replace q1 := q1.below hc
            have sz2 := hc.size
            refine hK.out _ _ (hS.trans (hc.mono hS.size)) (fun hS => ?_)
            clear hK K
            (try simp only [Act.put, List.getElem_toArray, List.getElem_cons_zero, List.getElem_cons_succ, List.setIfInBounds_toArray, List.set_cons_zero, List.set_cons_succ])
            clear hc
            refine wpAnyH_ready (rs := [7, 8]) (by as_aux_lemma => kernel_rfl) (by simp) ?_
            refine AllReadyH.cons rfl (fun K hK => ?_) (AllReadyH.cons rfl (fun K hK => ?_) AllReadyH.nil)
            · skip
              go_simp
              refine Calls.mono (HIC.out ax0 kx0 ax1 kx1 ax2 kx2 _ (RowS.read inE_len q0) KQ0.out.1 KQ0.out.2 q1.read KQ1.out.1 KQ1.out.2 q2.read KQ2.out.1 KQ2.out.2) ?_
              rintro e y3 ⟨x3, rfl, q3, hc⟩
              obtain ⟨ax3, kx3, rfl, -⟩ := q3.shape
              replace q0 := q0.below hc
              replace q1 := q1.below hc
              replace q2 := q2.below hc
              have sz3 := hc.size
              refine hK.out _ _ (hS.trans (hc.mono hS.size)) (fun hS => ?_)
              clear hK K
              (try simp only [Act.put, List.getElem_toArray, List.getElem_cons_zero, List.getElem_cons_succ, List.setIfInBounds_toArray, List.set_cons_zero, List.set_cons_succ])
              clear hc
              refine wpAnyH_ready (rs := [8]) (by as_aux_lemma => kernel_rfl) (by simp) ?_
              refine AllReadyH.cons rfl (fun K hK => ?_) AllReadyH.nil
              go_simp
              refine hK.out _ _ (hS.alloc hS.size _) (fun hS => ?_)
              clear hK K
              (try simp only [Act.put, List.getElem_toArray, List.getElem_cons_zero, List.getElem_cons_succ, List.setIfInBounds_toArray, List.set_cons_zero, List.set_cons_succ])
              have NB : Below y3.heap.size y3 (y3.alloc (.cells #[.int .i64 0, .int .i64 0, .int .i64 0, .slice none 0 0] 32)) := (Below.refl _ _).alloc (Nat.le_refl _) _
              have hB := Blk.new y3 #[.int .i64 0, .int .i64 0, .int .i64 0, .slice none 0 0] 32
              replace q0 := q0.below NB
              replace q1 := q1.below NB
              replace q2 := q2.below NB
              replace q3 := q3.below NB
              have szA := NB.size
              have ltA := hB.lt
              clear NB
              generalize y3.alloc (.cells #[.int .i64 0, .int .i64 0, .int .i64 0, .slice none 0 0] 32) = yA at *
              have d0 : yA.cell? ⟨y3.heap.size, 0, none⟩ = some (.int .i64 0) := hB.cell 0
              have df0 := hB.frozen 0
              have d1 : yA.cell? ⟨y3.heap.size, 1, none⟩ = some (.int .i64 0) := hB.cell 1
              have df1 := hB.frozen 1
              have d2 : yA.cell? ⟨y3.heap.size, 2, none⟩ = some (.int .i64 0) := hB.cell 2
              have df2 := hB.frozen 2
              have d3 : yA.cell? ⟨y3.heap.size, 3, none⟩ = some (.slice none 0 0) := hB.cell 3
              have df3 := hB.frozen 3
              refine wpAnyH_ready (rs := [9]) (by as_aux_lemma => kernel_rfl) (by simp) ?_
              refine AllReadyH.cons rfl (fun K hK => ?_) AllReadyH.nil
              have HBB := hid hB
              clear hB
              go_simp
              have hWs : w20.heap.size ≤ y3.heap.size := by have := hS.size; omega
              refine hK.out _ _ (((((hS.setCell hWs _).setCell hWs _).setCell hWs _).setCell hWs _)) (fun hS => ?_)
              clear hK K
              (try simp only [Act.put, List.getElem_toArray, List.getElem_cons_zero, List.getElem_cons_succ, List.setIfInBounds_toArray, List.set_cons_zero, List.set_cons_succ])
              have hbl := ((((HBB.out.set (i := 0) (.int .i64 cd)).set (i := 1) (.int .i64 vd)).set (i := 2) (.int .i64 zd)).set (i := 3) (.slice ax3 m kx3))
              simp only [List.setIfInBounds_toArray, List.set_cons_zero, List.set_cons_succ] at hbl
              have hdj : y3.heap.size < y2.heap.size ∨ y3.heap.size ≤ y3.heap.size := by omega
              have hrow := ((((q3.setB hdj 0 (.int .i64 cd)).setB hdj 1 (.int .i64 vd)).setB hdj 2 (.int .i64 zd)).setB hdj 3 (.slice ax3 m kx3))
              have hx0 := hbl.cell 0
              simp only [List.getElem?_toArray, List.getElem?_cons_zero, List.getElem?_cons_succ] at hx0
              have hx1 := hbl.cell 1
              simp only [List.getElem?_toArray, List.getElem?_cons_zero, List.getElem?_cons_succ] at hx1
              have hx2 := hbl.cell 2
              simp only [List.getElem?_toArray, List.getElem?_cons_zero, List.getElem?_cons_succ] at hx2
              have hx3 := hbl.cell 3
              simp only [List.getElem?_toArray, List.getElem?_cons_zero, List.getElem?_cons_succ] at hx3
              refine wpAnyH_done (by kernel_rfl) ?_ _
              refine ⟨rfl, y3.heap.size, y2.heap.size, y3.heap.size, .slice ax3 m kx3, .slice ax0 n0 kx0, .agg #[.int .i64 z1, .slice ax1 n1 kx1], .slice ax2 n2 kx2, ?_, hS, hWs, ?_, ?_, ?_, ?_, hrow, hx0, hx1, hx2, hx3⟩
              · simp only [Act.put, List.getElem_toArray, List.getElem_cons_zero, List.getElem_cons_succ, List.setIfInBounds_toArray, List.set_cons_zero, List.set_cons_succ]
              all_goals (try simp only [size_set])
              all_goals omega
            · skip
              go_simp
              refine hK.out _ _ (hS.alloc hS.size _) (fun hS => ?_)
              clear hK K
              (try simp only [Act.put, List.getElem_toArray, List.getElem_cons_zero, List.getElem_cons_succ, List.setIfInBounds_toArray, List.set_cons_zero, List.set_cons_succ])
              have NB : Below y2.heap.size y2 (y2.alloc (.cells #[.int .i64 0, .int .i64 0, .int .i64 0, .slice none 0 0] 32)) := (Below.refl _ _).alloc (Nat.le_refl _) _
              have hB := Blk.new y2 #[.int .i64 0, .int .i64 0, .int .i64 0, .slice none 0 0] 32
              replace q0 := q0.below NB
              replace q1 := q1.below NB
              replace q2 := q2.below NB
              have szA := NB.size
              have ltA := hB.lt
              clear NB
              generalize y2.alloc (.cells #[.int .i64 0, .int .i64 0, .int .i64 0, .slice none 0 0] 32) = yA at *
              refine wpAnyH_ready (rs := [7]) (by as_aux_lemma => kernel_rfl) (by simp) ?_
              refine AllReadyH.cons rfl (fun K hK => ?_) AllReadyH.nil
              go_simp
              refine Calls.mono (HIC.out ax0 kx0 ax1 kx1 ax2 kx2 _ (RowS.read inE_len q0) KQ0.out.1 KQ0.out.2 q1.read KQ1.out.1 KQ1.out.2 q2.read KQ2.out.1 KQ2.out.2) ?_
              rintro e y3 ⟨x3, rfl, q3, hc⟩
              obtain ⟨ax3, kx3, rfl, -⟩ := q3.shape
              replace q0 := q0.below hc
              replace q1 := q1.below hc
              replace q2 := q2.below hc
              replace hB := hB.below hc
              have sz3 := hc.size
              refine hK.out _ _ (hS.trans (hc.mono hS.size)) (fun hS => ?_)
              clear hK K
              (try simp only [Act.put, List.getElem_toArray, List.getElem_cons_zero, List.getElem_cons_succ, List.setIfInBounds_toArray, List.set_cons_zero, List.set_cons_succ])
              clear hc
              have d0 : y3.cell? ⟨y2.heap.size, 0, none⟩ = some (.int .i64 0) := hB.cell 0
              have df0 := hB.frozen 0
              have d1 : y3.cell? ⟨y2.heap.size, 1, none⟩ = some (.int .i64 0) := hB.cell 1
              have df1 := hB.frozen 1
              have d2 : y3.cell? ⟨y2.heap.size, 2, none⟩ = some (.int .i64 0) := hB.cell 2
              have df2 := hB.frozen 2
              have d3 : y3.cell? ⟨y2.heap.size, 3, none⟩ = some (.slice none 0 0) := hB.cell 3
              have df3 := hB.frozen 3
              refine wpAnyH_ready (rs := [9]) (by as_aux_lemma => kernel_rfl) (by simp) ?_
              refine AllReadyH.cons rfl (fun K hK => ?_) AllReadyH.nil
              have HBB := hid hB
              clear hB
              go_simp
              have hWs : w20.heap.size ≤ y2.heap.size := by have := hS.size; omega
              refine hK.out _ _ (((((hS.setCell hWs _).setCell hWs _).setCell hWs _).setCell hWs _)) (fun hS => ?_)
              clear hK K
              (try simp only [Act.put, List.getElem_toArray, List.getElem_cons_zero, List.getElem_cons_succ, List.setIfInBounds_toArray, List.set_cons_zero, List.set_cons_succ])
              have hbl := ((((HBB.out.set (i := 0) (.int .i64 cd)).set (i := 1) (.int .i64 vd)).set (i := 2) (.int .i64 zd)).set (i := 3) (.slice ax3 m kx3))
              simp only [List.setIfInBounds_toArray, List.set_cons_zero, List.set_cons_succ] at hbl
              have hdj : y2.heap.size < yA.heap.size ∨ y3.heap.size ≤ y2.heap.size := by omega
              have hrow := ((((q3.setB hdj 0 (.int .i64 cd)).setB hdj 1 (.int .i64 vd)).setB hdj 2 (.int .i64 zd)).setB hdj 3 (.slice ax3 m kx3))
              have hx0 := hbl.cell 0
              simp only [List.getElem?_toArray, List.getElem?_cons_zero, List.getElem?_cons_succ] at hx0
              have hx1 := hbl.cell 1
              simp only [List.getElem?_toArray, List.getElem?_cons_zero, List.getElem?_cons_succ] at hx1
              have hx2 := hbl.cell 2
              simp only [List.getElem?_toArray, List.getElem?_cons_zero, List.getElem?_cons_succ] at hx2
              have hx3 := hbl.cell 3
              simp only [List.getElem?_toArray, List.getElem?_cons_zero, List.getElem?_cons_succ] at hx3
              refine wpAnyH_done (by kernel_rfl) ?_ _
              refine ⟨rfl, y2.heap.size, yA.heap.size, y3.heap.size, .slice ax3 m kx3, .slice ax0 n0 kx0, .agg #[.int .i64 z1, .slice ax1 n1 kx1], .slice ax2 n2 kx2, ?_, hS, hWs, ?_, ?_, ?_, ?_, hrow, hx0, hx1, hx2, hx3⟩
              · simp only [Act.put, List.getElem_toArray, List.getElem_cons_zero, List.getElem_cons_succ, List.setIfInBounds_toArray, List.set_cons_zero, List.set_cons_succ]
              all_goals (try simp only [size_set])
              all_goals omega
          · skip
            go_simp
            refine hK.out _ _ (hS.alloc hS.size _) (fun hS => ?_)
            clear hK K
            (try simp only [Act.put, List.getElem_toArray, List.getElem_cons_zero, List.getElem_cons_succ, List.setIfInBounds_toArray, List.set_cons_zero, List.set_cons_succ])
            have NB : Below y1.heap.size y1 (y1.alloc (.cells #[.int .i64 0, .int .i64 0, .int .i64 0, .slice none 0 0] 32)) := (Below.refl _ _).alloc (Nat.le_refl _) _
            have hB := Blk.new y1 #[.int .i64 0, .int .i64 0, .int .i64 0, .slice none 0 0] 32
            replace q0 := q0.below NB
            replace q1 := q1.below NB
            have szA := NB.size
            have ltA := hB.lt
            clear NB
            generalize y1.alloc (.cells #[.int .i64 0, .int .i64 0, .int .i64 0, .slice none 0 0] 32) = yA at *
            refine wpAnyH_ready (rs := [5]) (by as_aux_lemma => kernel_rfl) (by simp) ?_
            refine AllReadyH.cons rfl (fun K hK => ?_) AllReadyH.nil
            go_simp
            refine Calls.mono (toByteS_row a2 n2 ca2 xs2 _ (hr2.below (hb.trans (hS.mono hb.size))) (by omega)) ?_
            rintro e y2 ⟨x2, rfl, q2, hc⟩
            obtain ⟨ax2, kx2, rfl, g1, g2⟩ := q2.shape
            have KQ2 : Hid _ := And.intro g1 g2
            clear g1 g2
            replace q0 := q0.below hc
            replace q1 := q1.below hc
            replace hB := hB.below hc
            have sz2 := hc.size
            refine hK.out _ _ (hS.trans (hc.mono hS.size)) (fun hS => ?_)
            clear hK K
            (try simp only [Act.put, List.getElem_toArray, List.getElem_cons_zero, List.getElem_cons_succ, List.setIfInBounds_toArray, List.set_cons_zero, List.set_cons_succ])
            clear hc
            refine wpAnyH_ready (rs := [7]) (by as_aux_lemma => kernel_rfl) (by simp) ?_
            refine AllReadyH.cons rfl (fun K hK => ?_) AllReadyH.nil
            go_simp
            refine Calls.mono (HIC.out ax0 kx0 ax1 kx1 ax2 kx2 _ (RowS.read inE_len q0) KQ0.out.1 KQ0.out.2 q1.read KQ1.out.1 KQ1.out.2 q2.read KQ2.out.1 KQ2.out.2) ?_
            rintro e y3 ⟨x3, rfl, q3, hc⟩
            obtain ⟨ax3, kx3, rfl, -⟩ := q3.shape
            replace q0 := q0.below hc
            replace q1 := q1.below hc
            replace q2 := q2.below hc
            replace hB := hB.below hc
            have sz3 := hc.size
            refine hK.out _ _ (hS.trans (hc.mono hS.size)) (fun hS => ?_)
            clear hK K
            (try simp only [Act.put, List.getElem_toArray, List.getElem_cons_zero, List.getElem_cons_succ, List.setIfInBounds_toArray, List.set_cons_zero, List.set_cons_succ])
            clear hc
            have d0 : y3.cell? ⟨y1.heap.size, 0, none⟩ = some (.int .i64 0) := hB.cell 0
            have df0 := hB.frozen 0
            have d1 : y3.cell? ⟨y1.heap.size, 1, none⟩ = some (.int .i64 0) := hB.cell 1
            have df1 := hB.frozen 1
            have d2 : y3.cell? ⟨y1.heap.size, 2, none⟩ = some (.int .i64 0) := hB.cell 2
            have df2 := hB.frozen 2
            have d3 : y3.cell? ⟨y1.heap.size, 3, none⟩ = some (.slice none 0 0) := hB.cell 3
            have df3 := hB.frozen 3
            refine wpAnyH_ready (rs := [9]) (by as_aux_lemma => kernel_rfl) (by simp) ?_
            refine AllReadyH.cons rfl (fun K hK => ?_) AllReadyH.nil
            have HBB := hid hB
            clear hB
            go_simp
            have hWs : w20.heap.size ≤ y1.heap.size := by have := hS.size; omega
            refine hK.out _ _ (((((hS.setCell hWs _).setCell hWs _).setCell hWs _).setCell hWs _)) (fun hS => ?_)
            clear hK K
            (try simp only [Act.put, List.getElem_toArray, List.getElem_cons_zero, List.getElem_cons_succ, List.setIfInBounds_toArray, List.set_cons_zero, List.set_cons_succ])
            have hbl := ((((HBB.out.set (i := 0) (.int .i64 cd)).set (i := 1) (.int .i64 vd)).set (i := 2) (.int .i64 zd)).set (i := 3) (.slice ax3 m kx3))
            simp only [List.setIfInBounds_toArray, List.set_cons_zero, List.set_cons_succ] at hbl
            have hdj : y1.heap.size < y2.heap.size ∨ y3.heap.size ≤ y1.heap.size := by omega
            have hrow := ((((q3.setB hdj 0 (.int .i64 cd)).setB hdj 1 (.int .i64 vd)).setB hdj 2 (.int .i64 zd)).setB hdj 3 (.slice ax3 m kx3))
            have hx0 := hbl.cell 0
            simp only [List.getElem?_toArray, List.getElem?_cons_zero, List.getElem?_cons_succ] at hx0
            have hx1 := hbl.cell 1
            simp only [List.getElem?_toArray, List.getElem?_cons_zero, List.getElem?_cons_succ] at hx1
            have hx2 := hbl.cell 2
            simp only [List.getElem?_toArray, List.getElem?_cons_zero, List.getElem?_cons_succ] at hx2
            have hx3 := hbl.cell 3
            simp only [List.getElem?_toArray, List.getElem?_cons_zero, List.getElem?_cons_succ] at hx3
            refine wpAnyH_done (by kernel_rfl) ?_ _
            refine ⟨rfl, y1.heap.size, y2.heap.size, y3.heap.size, .slice ax3 m kx3, .slice ax0 n0 kx0, .agg #[.int .i64 z1, .slice ax1 n1 kx1], .slice ax2 n2 kx2, ?_, hS, hWs, ?_, ?_, ?_, ?_, hrow, hx0, hx1, hx2, hx3⟩
            · simp only [Act.put, List.getElem_toArray, List.getElem_cons_zero, List.getElem_cons_succ, List.setIfInBounds_toArray, List.set_cons_zero, List.set_cons_succ]
            all_goals (try simp only [size_set])
            all_goals omega
        · skip
          go_simp
          refine hK.out _ _ (hS.alloc hS.size _) (fun hS => ?_)
          clear hK K
          (try simp only [Act.put, List.getElem_toArray, List.getElem_cons_zero, List.getElem_cons_succ, List.setIfInBounds_toArray, List.set_cons_zero, List.set_cons_succ])
          have NB : Below y0.heap.size y0 (y0.alloc (.cells #[.int .i64 0, .int .i64 0, .int .i64 0, .slice none 0 0] 32)) := (Below.refl _ _).alloc (Nat.le_refl _) _
          have hB := Blk.new y0 #[.int .i64 0, .int .i64 0, .int .i64 0, .slice none 0 0] 32
          replace q0 := q0.below NB
          have szA := NB.size
          have ltA := hB.lt
          clear NB
          generalize y0.alloc (.cells #[.int .i64 0, .int .i64 0, .int .i64 0, .slice none 0 0] 32) = yA at *
          refine wpAnyH_ready (rs := [3]) (by as_aux_lemma => kernel_rfl) (by simp) ?_
          refine AllReadyH.cons rfl (fun K hK => ?_) AllReadyH.nil
          go_simp
          refine Calls.mono (toTable_row z1 a1 n1 ca1 xs1 _ (hr1.below (hb.trans (hS.mono hb.size))) (by omega)) ?_
          rintro e y1 ⟨x1, rfl, q1, hc⟩
          obtain ⟨ax1, kx1, rfl, g1, g2⟩ := q1.shape
          have KQ1 : Hid _ := And.intro g1 g2
          clear g1 g2
          replace q0 := q0.below hc
          replace hB := hB.below hc
          have sz1 := hc.size
          refine hK.out _ _ (hS.trans (hc.mono hS.size)) (fun hS => ?_)
          clear hK K
          (try simp only [Act.put, List.getElem_toArray, List.getElem_cons_zero, List.getElem_cons_succ, List.setIfInBounds_toArray, List.set_cons_zero, List.set_cons_succ])
          clear hc
          refine wpAnyH_ready (rs := [5]) (by as_aux_lemma => kernel_rfl) (by simp) ?_
          refine AllReadyH.cons rfl (fun K hK => ?_) AllReadyH.nil
          go_simp
          refine Calls.mono (toByteS_row a2 n2 ca2 xs2 _ (hr2.below (hb.trans (hS.mono hb.size))) (by omega)) ?_
          rintro e y2 ⟨x2, rfl, q2, hc⟩
          obtain ⟨ax2, kx2, rfl, g1, g2⟩ := q2.shape
          have KQ2 : Hid _ := And.intro g1 g2
          clear g1 g2
          replace q0 := q0.below hc
          replace q1 := q1.below hc
          replace hB := hB.below hc
          have sz2 := hc.size
          refine hK.out _ _ (hS.trans (hc.mono hS.size)) (fun hS => ?_)
          clear hK K
          (try simp only [Act.put, List.getElem_toArray, List.getElem_cons_zero, List.getElem_cons_succ, List.setIfInBounds_toArray, List.set_cons_zero, List.set_cons_succ])
          clear hc
          refine wpAnyH_ready (rs := [7]) (by as_aux_lemma => kernel_rfl) (by simp) ?_
          refine AllReadyH.cons rfl (fun K hK => ?_) AllReadyH.nil
          go_simp
          refine Calls.mono (HIC.out ax0 kx0 ax1 kx1 ax2 kx2 _ (RowS.read inE_len q0) KQ0.out.1 KQ0.out.2 q1.read KQ1.out.1 KQ1.out.2 q2.read KQ2.out.1 KQ2.out.2) ?_
          rintro e y3 ⟨x3, rfl, q3, hc⟩
          obtain ⟨ax3, kx3, rfl, -⟩ := q3.shape
          replace q0 := q0.below hc
          replace q1 := q1.below hc
          replace q2 := q2.below hc
          replace hB := hB.below hc
          have sz3 := hc.size
          refine hK.out _ _ (hS.trans (hc.mono hS.size)) (fun hS => ?_)
          clear hK K
          (try simp only [Act.put, List.getElem_toArray, List.getElem_cons_zero, List.getElem_cons_succ, List.setIfInBounds_toArray, List.set_cons_zero, List.set_cons_succ])
          clear hc
          have d0 : y3.cell? ⟨y0.heap.size, 0, none⟩ = some (.int .i64 0) := hB.cell 0
          have df0 := hB.frozen 0
          have d1 : y3.cell? ⟨y0.heap.size, 1, none⟩ = some (.int .i64 0) := hB.cell 1
          have df1 := hB.frozen 1
          have d2 : y3.cell? ⟨y0.heap.size, 2, none⟩ = some (.int .i64 0) := hB.cell 2
          have df2 := hB.frozen 2
          have d3 : y3.cell? ⟨y0.heap.size, 3, none⟩ = some (.slice none 0 0) := hB.cell 3
          have df3 := hB.frozen 3
          refine wpAnyH_ready (rs := [9]) (by as_aux_lemma => kernel_rfl) (by simp) ?_
          refine AllReadyH.cons rfl (fun K hK => ?_) AllReadyH.nil
          have HBB := hid hB
          clear hB
          go_simp
          have hWs : w20.heap.size ≤ y0.heap.size := by have := hS.size; omega
          refine hK.out _ _ (((((hS.setCell hWs _).setCell hWs _).setCell hWs _).setCell hWs _)) (fun hS => ?_)
          clear hK K
          (try simp only [Act.put, List.getElem_toArray, List.getElem_cons_zero, List.getElem_cons_succ, List.setIfInBounds_toArray, List.set_cons_zero, List.set_cons_succ])
          have hbl := ((((HBB.out.set (i := 0) (.int .i64 cd)).set (i := 1) (.int .i64 vd)).set (i := 2) (.int .i64 zd)).set (i := 3) (.slice ax3 m kx3))
          simp only [List.setIfInBounds_toArray, List.set_cons_zero, List.set_cons_succ] at hbl
          have hdj : y0.heap.size < y2.heap.size ∨ y3.heap.size ≤ y0.heap.size := by omega
          have hrow := ((((q3.setB hdj 0 (.int .i64 cd)).setB hdj 1 (.int .i64 vd)).setB hdj 2 (.int .i64 zd)).setB hdj 3 (.slice ax3 m kx3))
          have hx0 := hbl.cell 0
          simp only [List.getElem?_toArray, List.getElem?_cons_zero, List.getElem?_cons_succ] at hx0
          have hx1 := hbl.cell 1
          simp only [List.getElem?_toArray, List.getElem?_cons_zero, List.getElem?_cons_succ] at hx1
          have hx2 := hbl.cell 2
          simp only [List.getElem?_toArray, List.getElem?_cons_zero, List.getElem?_cons_succ] at hx2
          have hx3 := hbl.cell 3
          simp only [List.getElem?_toArray, List.getElem?_cons_zero, List.getElem?_cons_succ] at hx3
          refine wpAnyH_done (by kernel_rfl) ?_ _
          refine ⟨rfl, y0.heap.size, y2.heap.size, y3.heap.size, .slice ax3 m kx3, .slice ax0 n0 kx0, .agg #[.int .i64 z1, .slice ax1 n1 kx1], .slice ax2 n2 kx2, ?_, hS, hWs, ?_, ?_, ?_, ?_, hrow, hx0, hx1, hx2, hx3⟩
          · simp only [Act.put, List.getElem_toArray, List.getElem_cons_zero, List.getElem_cons_succ, List.setIfInBounds_toArray, List.set_cons_zero, List.set_cons_succ]
          all_goals (try simp only [size_set])
          all_goals omega
      · skip
        go_simp
        refine hK.out _ _ (hS.alloc hS.size _) (fun hS => ?_)
        clear hK K
        (try simp only [Act.put, List.getElem_toArray, List.getElem_cons_zero, List.getElem_cons_succ, List.setIfInBounds_toArray, List.set_cons_zero, List.set_cons_succ])
        have NB : Below w20.heap.size w20 (w20.alloc (.cells #[.int .i64 0, .int .i64 0, .int .i64 0, .slice none 0 0] 32)).drew := ((Below.refl _ _).alloc (Nat.le_refl _) _).drew
        have hB : Blk (w20.alloc (.cells #[.int .i64 0, .int .i64 0, .int .i64 0, .slice none 0 0] 32)).drew w20.heap.size #[.int .i64 0, .int .i64 0, .int .i64 0, .slice none 0 0] 32 := Blk.new w20 #[.int .i64 0, .int .i64 0, .int .i64 0, .slice none 0 0] 32
        have szA := NB.size
        have ltA := hB.lt
        clear NB
        generalize (w20.alloc (.cells #[.int .i64 0, .int .i64 0, .int .i64 0, .slice none 0 0] 32)).drew = yA at *
        refine wpAnyH_ready (rs := [1]) (by as_aux_lemma => kernel_rfl) (by simp) ?_
        refine AllReadyH.cons rfl (fun K hK => ?_) AllReadyH.nil
        go_simp
        refine Calls.mono (toInstS_row a0 n0 ca0 xs0 _ (hr0.below (hb.trans (hS.mono hb.size))) (by omega)) ?_
        rintro e y0 ⟨x0, rfl, q0, hc⟩
        obtain ⟨ax0, kx0, rfl, g1, g2⟩ := (RowS.shape inE_len q0)
        have KQ0 : Hid _ := And.intro g1 g2
        clear g1 g2
        replace hB := hB.below hc
        have sz0 := hc.size
        refine hK.out _ _ (hS.trans (hc.mono hS.size)) (fun hS => ?_)
        clear hK K
        (try simp only [Act.put, List.getElem_toArray, List.getElem_cons_zero, List.getElem_cons_succ, List.setIfInBounds_toArray, List.set_cons_zero, List.set_cons_succ])
        clear hc
        refine wpAnyH_ready (rs := [3]) (by as_aux_lemma => kernel_rfl) (by simp) ?_
        refine AllReadyH.cons rfl (fun K hK => ?_) AllReadyH.nil
        go_simp
        refine Calls.mono (toTable_row z1 a1 n1 ca1 xs1 _ (hr1.below (hb.trans (hS.mono hb.size))) (by omega)) ?_
        rintro e y1 ⟨x1, rfl, q1, hc⟩
        obtain ⟨ax1, kx1, rfl, g1, g2⟩ := q1.shape
        have KQ1 : Hid _ := And.intro g1 g2
        clear g1 g2
        replace q0 := q0.below hc
        replace hB := hB.below hc
        have sz1 := hc.size
        refine hK.out _ _ (hS.trans (hc.mono hS.size)) (fun hS => ?_)
        clear hK K
        (try simp only [Act.put, List.getElem_toArray, List.getElem_cons_zero, List.getElem_cons_succ, List.setIfInBounds_toArray, List.set_cons_zero, List.set_cons_succ])
        clear hc
        refine wpAnyH_ready (rs := [5]) (by as_aux_lemma => kernel_rfl) (by simp) ?_
        refine AllReadyH.cons rfl (fun K hK => ?_) AllReadyH.nil
        go_simp
        refine Calls.mono (toByteS_row a2 n2 ca2 xs2 _ (hr2.below (hb.trans (hS.mono hb.size))) (by omega)) ?_
        rintro e y2 ⟨x2, rfl, q2, hc⟩
        obtain ⟨ax2, kx2, rfl, g1, g2⟩ := q2.shape
        have KQ2 : Hid _ := And.intro g1 g2
        clear g1 g2
        replace q0 := q0.below hc
        replace q1 := q1.below hc
        replace hB := hB.below hc
        have sz2 := hc.size
        refine hK.out _ _ (hS.trans (hc.mono hS.size)) (fun hS => ?_)
        clear hK K
        (try simp only [Act.put, List.getElem_toArray, List.getElem_cons_zero, List.getElem_cons_succ, List.setIfInBounds_toArray, List.set_cons_zero, List.set_cons_succ])
        clear hc
        refine wpAnyH_ready (rs := [7]) (by as_aux_lemma => kernel_rfl) (by simp) ?_
        refine AllReadyH.cons rfl (fun K hK => ?_) AllReadyH.nil
        go_simp
        refine Calls.mono (HIC.out ax0 kx0 ax1 kx1 ax2 kx2 _ (RowS.read inE_len q0) KQ0.out.1 KQ0.out.2 q1.read KQ1.out.1 KQ1.out.2 q2.read KQ2.out.1 KQ2.out.2) ?_
        rintro e y3 ⟨x3, rfl, q3, hc⟩
        obtain ⟨ax3, kx3, rfl, -⟩ := q3.shape
        replace q0 := q0.below hc
        replace q1 := q1.below hc
        replace q2 := q2.below hc
        replace hB := hB.below hc
        have sz3 := hc.size
        refine hK.out _ _ (hS.trans (hc.mono hS.size)) (fun hS => ?_)
        clear hK K
        (try simp only [Act.put, List.getElem_toArray, List.getElem_cons_zero, List.getElem_cons_succ, List.setIfInBounds_toArray, List.set_cons_zero, List.set_cons_succ])
        clear hc
        have d0 : y3.cell? ⟨w20.heap.size, 0, none⟩ = some (.int .i64 0) := hB.cell 0
        have df0 := hB.frozen 0
        have d1 : y3.cell? ⟨w20.heap.size, 1, none⟩ = some (.int .i64 0) := hB.cell 1
        have df1 := hB.frozen 1
        have d2 : y3.cell? ⟨w20.heap.size, 2, none⟩ = some (.int .i64 0) := hB.cell 2
        have df2 := hB.frozen 2
        have d3 : y3.cell? ⟨w20.heap.size, 3, none⟩ = some (.slice none 0 0) := hB.cell 3
        have df3 := hB.frozen 3
        refine wpAnyH_ready (rs := [9]) (by as_aux_lemma => kernel_rfl) (by simp) ?_
        refine AllReadyH.cons rfl (fun K hK => ?_) AllReadyH.nil
        have HBB := hid hB
        clear hB
        go_simp
        have hWs : w20.heap.size ≤ w20.heap.size := by have := hS.size; omega
        refine hK.out _ _ (((((hS.setCell hWs _).setCell hWs _).setCell hWs _).setCell hWs _)) (fun hS => ?_)
        clear hK K
        (try simp only [Act.put, List.getElem_toArray, List.getElem_cons_zero, List.getElem_cons_succ, List.setIfInBounds_toArray, List.set_cons_zero, List.set_cons_succ])
        have hbl := ((((HBB.out.set (i := 0) (.int .i64 cd)).set (i := 1) (.int .i64 vd)).set (i := 2) (.int .i64 zd)).set (i := 3) (.slice ax3 m kx3))
        simp only [List.setIfInBounds_toArray, List.set_cons_zero, List.set_cons_succ] at hbl
        have hdj : w20.heap.size < y2.heap.size ∨ y3.heap.size ≤ w20.heap.size := by omega
        have hrow := ((((q3.setB hdj 0 (.int .i64 cd)).setB hdj 1 (.int .i64 vd)).setB hdj 2 (.int .i64 zd)).setB hdj 3 (.slice ax3 m kx3))
        have hx0 := hbl.cell 0
        simp only [List.getElem?_toArray, List.getElem?_cons_zero, List.getElem?_cons_succ] at hx0
        have hx1 := hbl.cell 1
        simp only [List.getElem?_toArray, List.getElem?_cons_zero, List.getElem?_cons_succ] at hx1
        have hx2 := hbl.cell 2
        simp only [List.getElem?_toArray, List.getElem?_cons_zero, List.getElem?_cons_succ] at hx2
        have hx3 := hbl.cell 3
        simp only [List.getElem?_toArray, List.getElem?_cons_zero, List.getElem?_cons_succ] at hx3
        refine wpAnyH_done (by kernel_rfl) ?_ _
        refine ⟨rfl, w20.heap.size, y2.heap.size, y3.heap.size, .slice ax3 m kx3, .slice ax0 n0 kx0, .agg #[.int .i64 z1, .slice ax1 n1 kx1], .slice ax2 n2 kx2, ?_, hS, hWs, ?_, ?_, ?_, ?_, hrow, hx0, hx1, hx2, hx3⟩
        · simp only [Act.put, List.getElem_toArray, List.getElem_cons_zero, List.getElem_cons_succ, List.setIfInBounds_toArray, List.set_cons_zero, List.set_cons_succ]
        all_goals (try simp only [size_set])
        all_goals omega
    · skip
      rintro a' w21 ⟨B21, lo21, hi21, vg21, u21_0, u21_1, u21_2, rfl, hc, bl21, bu21, ll21, hu21, dj21, rg21, ch00, ch01, ch02, ch03⟩
      obtain ⟨ag21, kg21, rfl, -⟩ := rg21.shape
      simp only [Act.put, List.getElem_toArray, List.getElem_cons_zero, List.getElem_cons_succ, List.setIfInBounds_toArray, List.set_cons_zero, List.set_cons_succ]
      have s21 : w20.heap.size ≤ w21.heap.size := hc.size
      have bq := hc
      replace caT0 := cell_later bq caT0
      replace caT1 := cell_later bq caT1
      replace zaT := Nat.lt_of_lt_of_le zaT bq.size
      replace cw00 := cell_later bq cw00
      replace cw01 := cell_later bq cw01
      replace cw02 := cell_later bq cw02
      replace cw03 := cell_later bq cw03
      replace zw0 := Nat.lt_of_lt_of_le zw0 bq.size
      replace cx10 := cell_later bq cx10
      replace cx11 := cell_later bq cx11
      replace zx1 := Nat.lt_of_lt_of_le zx1 bq.size
      replace cg00 := cell_later bq cg00
      replace cg01 := cell_later bq cg01
      replace cg02 := cell_later bq cg02
      replace cg03 := cell_later bq cg03
      replace zg0 := Nat.lt_of_lt_of_le zg0 bq.size
      replace rg3 := rg3.below bq
      replace rt4 := rt4.below bq
      replace rt5 := rt5.below bq
      replace rt6 := rt6.below bq
      replace rg7 := rg7.below bq
      replace hb := hb.trans (bq.mono hb.size)
      clear hc bq
      have zh0 := bu21
      go_wp2_with fail
      refine Calls.mono (eqTableResult_yes cd vd zd ag21 ag3 m kg21 kg3 rs _ rg21.read rg3.read (by omega)) ?_
      rintro e w22 ⟨rfl, hc⟩
      have s22 : w21.heap.size ≤ w22.heap.size := hc.size
      have bq := hc
      replace caT0 := cell_later bq caT0
      replace caT1 := cell_later bq caT1
      replace zaT := Nat.lt_of_lt_of_le zaT bq.size
      replace cw00 := cell_later bq cw00
      replace cw01 := cell_later bq cw01
      replace cw02 := cell_later bq cw02
      replace cw03 := cell_later bq cw03
      replace zw0 := Nat.lt_of_lt_of_le zw0 bq.size
      replace cx10 := cell_later bq cx10
      replace cx11 := cell_later bq cx11
      replace zx1 := Nat.lt_of_lt_of_le zx1 bq.size
      replace cg00 := cell_later bq cg00
      replace cg01 := cell_later bq cg01
      replace cg02 := cell_later bq cg02
      replace cg03 := cell_later bq cg03
      replace zg0 := Nat.lt_of_lt_of_le zg0 bq.size
      replace ch00 := cell_later bq ch00
      replace ch01 := cell_later bq ch01
      replace ch02 := cell_later bq ch02
      replace ch03 := cell_later bq ch03
      replace zh0 := Nat.lt_of_lt_of_le zh0 bq.size
      replace rg3 := rg3.below bq
      replace rt4 := rt4.below bq
      replace rt5 := rt5.below bq
      replace rt6 := rt6.below bq
      replace rg7 := rg7.below bq
      replace rg21 := rg21.below bq
      replace hb := hb.trans (bq.mono hb.size)
      clear hc bq
      go_wp2_with fail
      refine Calls.mono (heldTableResult_yes cd vd zd 1 ag7 m kg7 rs _ rg7.read (by omega) (by omega) (by omega)) ?_
      rintro e w23 ⟨rfl, hc⟩
      have s23 : w22.heap.size ≤ w23.heap.size := hc.size
      have bq := hc
      replace caT0 := cell_later bq caT0
      replace caT1 := cell_later bq caT1
      replace zaT := Nat.lt_of_lt_of_le zaT bq.size
      replace cw00 := cell_later bq cw00
      replace cw01 := cell_later bq cw01
      replace cw02 := cell_later bq cw02
      replace cw03 := cell_later bq cw03
      replace zw0 := Nat.lt_of_lt_of_le zw0 bq.size
      replace cx10 := cell_later bq cx10
      replace cx11 := cell_later bq cx11
      replace zx1 := Nat.lt_of_lt_of_le zx1 bq.size
      replace cg00 := cell_later bq cg00
      replace cg01 := cell_later bq cg01
      replace cg02 := cell_later bq cg02
      replace cg03 := cell_later bq cg03
      replace zg0 := Nat.lt_of_lt_of_le zg0 bq.size
      replace ch00 := cell_later bq ch00
      replace ch01 := cell_later bq ch01
      replace ch02 := cell_later bq ch02
      replace ch03 := cell_later bq ch03
      replace zh0 := Nat.lt_of_lt_of_le zh0 bq.size
      replace rg3 := rg3.below bq
      replace rt4 := rt4.below bq
      replace rt5 := rt5.below bq
      replace rt6 := rt6.below bq
      replace rg7 := rg7.below bq
      replace rg21 := rg21.below bq
      replace hb := hb.trans (bq.mono hb.size)
      clear hc bq
      go_wp2
      go_ret
      exact ⟨rfl, hb⟩

theorem own : ownKnob Tryz.prog.godebug = none := by kernel_rfl
theorem laidOut : laidOutB Tryz.prog = true := by kernel_rfl

set_option maxRecDepth 100000 in
theorem lifted (os : Os) (started : os.Started) (H : Type) (enc : TypeId × Value → H) :
    ReturnsInHanded {} Tryz.checked os 4 .any (Rows.fnExactRunTableSpec.pre6 enc Tryz.prog Tryz.f4 Rows.fnExactRunTableRow.domain false) (Rows.fnExactRunTableSpec.post enc Tryz.prog Tryz.f4 false true false false) := by
  refine returnsInHanded_of_change (C := Tryz.checked) own started (by kernel_rfl) Tryz.func4
    (ChangeSpec.witness6 (enc := enc) (C := Tryz.checked) false ⟨#[], #[.slice none 0 0, .agg #[.int .i64 0, .slice none 0 0], .slice none 0 0, .int .i64 0], []⟩ 8 (by kernel_rfl) (by kernel_rfl) (by kernel_rfl) (by kernel_rfl)) ?_
  intro W base args ds gs before hval0 hW hcnd _
  have hval : ∀ (j : Nat) t v, Tryz.f4.params[j]? = some t → args[j]? = some v → Value.okWide Tryz.prog W .any base t v := hval0
  have hW' := hW
  obtain ⟨p, q, hA0, hV, rfl, hfz, hnd⟩ := hW
  have hA : DataW.TrodAll enc Tryz.prog W 0 (fun _ => true) true Tryz.f4.params.toList args.toList ds p := hA0
  rw [Tryz.params4] at hA hval
  obtain ⟨v0, v1, v2, v3, d0, d1, d2, d3, p0, p1, p2, p3, rfl, rfl, rfl, h0, h1, h2, h3⟩ := trodAll_four hA
  obtain ⟨rfl, rfl⟩ := trodVars_none hV
  have k0 := h0
  have lt0 : ∀ x ∈ p0, x.block < W.heap.size := by obtain ⟨m, hm⟩ := k0; exact DataW.trod_lt m _ _ _ hm
  obtain ⟨a0, len0, cap0, rfl⟩ := okWide_slice Tryz.underlying22 (hval 0 22 v0 rfl rfl)
  obtain ⟨x0, hr0, hs0, hl0, hm0⟩ := open_insts h0
  have k1 := h1
  have lt1 : ∀ x ∈ p1, x.block < W.heap.size := by obtain ⟨m, hm⟩ := k1; exact DataW.trod_lt m _ _ _ hm
  obtain ⟨z1, a1, len1, cap1, x1, rfl, hr1, hm1⟩ := open_table (hval 1 25 v1 rfl rfl) h1
  have k2 := h2
  have lt2 : ∀ x ∈ p2, x.block < W.heap.size := by obtain ⟨m, hm⟩ := k2; exact DataW.trod_lt m _ _ _ hm
  obtain ⟨a2, len2, cap2, rfl⟩ := okWide_slice Tryz.underlying44 (hval 2 44 v2 rfl rfl)
  obtain ⟨x2, hr2, hB2, hm2⟩ := open_bytes Tryz.underlying44 Tryz.underlying5 (by kernel_rfl) h2
  obtain ⟨I3, rfl, rfl, rfl, wI3⟩ := open_int Tryz.underlying2 (hval 3 2 v3 rfl rfl) h3
  clear hA0 hval0
  refine (walk a0 len0 cap0 x0 z1 a1 len1 cap1 x1 a2 len2 cap2 x2 I3 W hr0 hs0 (by omega) hr1 hm1 hr2 hB2 hm2).mono fun e W' ⟨he, bel⟩ => ?_
  subst he
  exact ⟨_, rfl, _, _, _, [], _, [], hW', trodAll_mk1 (shut_bool Tryz.underlying4 _), trodAll_mk4 (Below.trod laidOut (by kernel_rfl) (of_decide_eq_true (by kernel_rfl)) k0 bel lt0) (Below.trod laidOut (by kernel_rfl) (of_decide_eq_true (by kernel_rfl)) k1 bel lt1) (Below.trod laidOut (by kernel_rfl) (of_decide_eq_true (by kernel_rfl)) k2 bel lt2) (shut_int Tryz.underlying2 wI3), rfl, bel.frame _, fun h => by cases h⟩

theorem proved : Rows.FnExactRunTableSaid :=
  OpenClaim.holds_of_wide 4 Tryz.f4 rfl rfl rfl rfl rfl rfl rfl ⟨rfl, rfl, rfl, rfl, rfl⟩ rfl rfl rfl rfl rfl (by kernel_rfl) Tryz.func4 (by kernel_rfl)
    (of_decide_eq_true (by kernel_rfl)) (by unfold Func.isWrapper; first | (rw [if_pos (by decide +kernel)]; kernel_rfl) | (rw [if_neg (by decide +kernel)]; exact ⟨rfl, rfl⟩))
    (fun os started H enc _ => lifted os started H enc)
end Go.Proofs.YtlemdjgpkmjihaaGreat.fnExactRunTable
namespace Go.Proofs.YtlemdjgpkmjihaaGreat
theorem fnExactRunTable_proved : Rows.FnExactRunTableSaid := fnExactRunTable.proved
end Go.Proofs.YtlemdjgpkmjihaaGreat
