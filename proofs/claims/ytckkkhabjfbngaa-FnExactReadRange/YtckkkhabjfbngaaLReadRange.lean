/-
  For every cache, file and three numbers, FnExactReadRange returns true: the program's ReadRange answers as the model, writes into no argument, and its answer owns its memory; no condition.
-/
import Derived.Test.YtckkkhabjfbngaaRangeB
import Derived.Test.YtckkkhabjfbngaaRangeA
import Derived.Test.YtckkkhabjfbngaaEndB
import Derived.Test.YtckkkhabjfbngaaHlpF
import Derived.Test.YtckkkhabjfbngaaHlpB2
import Derived.ProofKit
import Derived.OpenShut
import Derived.ChangeOld
import Derived.Below
import Derived.Carry
import Derived.Deep.RegionWith
import Derived.Deep.RegionHeld3
namespace Go.Proofs.Ytckkkhabjfbngaa.fnExactReadRange
open Go.ChangeShapes Go.WideShapes Go.ChangeAt Go.RowKit
set_option linter.unusedVariables false
set_option linter.unusedSimpArgs false

set_option maxRecDepth 10000 in
set_option maxHeartbeats 6400000 in
theorem walk (u0 z0 : Int) (a0 : Option Addr) (n0 ca0 : Nat) (bs0 : List Bk) (a1 : Option Addr) (n1 ca1 : Nat) (xs1 : List Int) (I2 : Int) (I3 : Int) (I4 : Int) (w : World) (hr0 : RdB w a0 n0 bs0) (hB0 : ∀ b ∈ bs0, Bytes b.2) (hm0 : n0 ≤ maxLen) (hr1 : Rd .u8 w a1 n1 xs1) (hB1 : Bytes xs1) (hm1 : n1 ≤ maxLen) :
    Calls Try.prog 8 #[.agg #[.int .i64 u0, .int .i64 z0, .slice a0 n0 ca0], .agg #[.slice a1 n1 ca1], .int .i64 I2, .int .i64 I3, .int .i64 I4] w fun e w' => e = .returned (.bool true) ∧ Below w.heap.size w w' := by
  by_cases hn0 : (n0 : Int) + byB bs0 ≤ 1048576
  rotate_left
  · go_enter Try.func8, Try.ntmps8
    have hb : Below w.heap.size w w := Below.refl _ _
    go_wp2_with fail
    have bp : ∀ o0 o1, Below w.heap.size w ((w.alloc o0).alloc o1) := fun o0 o1 => ((Below.refl _ _).alloc (Nat.le_refl _) o0).alloc (by simp) o1
    have hbt : ∀ o0 o1, Below w.heap.size w ((w.alloc o0).alloc o1) := fun o0 o1 => hb.trans ((bp o0 o1).mono hb.size)
    refine Calls.mono (szCache_no u0 z0 a0 n0 ca0 bs0 (1048576) _ (hr0.below (hbt _ _)) (by omega) hm0 (by omega) (by omega)) ?_
    rintro e w1 ⟨rfl, hc⟩
    have s1 : w.heap.size + 2 ≤ w1.heap.size := by have := hc.size; simp at this; omega
    have bq : Below w.heap.size w w1 := (bp _ _).trans (hc.mono (bp _ _).size)
    have caC0 : w1.cell? ⟨w.heap.size, 0, none⟩ = some (.int .i64 u0) := cell_later hc (by simp [go_sem])
    have caC1 : w1.cell? ⟨w.heap.size, 1, none⟩ = some (.int .i64 z0) := cell_later hc (by simp [go_sem])
    have caC2 : w1.cell? ⟨w.heap.size, 2, none⟩ = some (.slice a0 n0 ca0) := cell_later hc (by simp [go_sem])
    have zaC : w.heap.size < w1.heap.size := by omega
    have caF0 : w1.cell? ⟨w.heap.size + 1, 0, none⟩ = some (.slice a1 n1 ca1) := cell_later hc (by simp [go_sem])
    have zaF : w.heap.size + 1 < w1.heap.size := by omega
    replace hb := hb.trans (bq.mono hb.size)
    clear hc bq bp hbt
    go_wp2
    go_ret
    exact ⟨rfl, hb⟩
  by_cases hn1 : (n1 : Int) ≤ 1048576 - (n0 : Int) - (byB bs0 : Int)
  rotate_left
  · go_enter Try.func8, Try.ntmps8
    have hb : Below w.heap.size w w := Below.refl _ _
    go_wp2_with fail
    have bp : ∀ o0 o1, Below w.heap.size w ((w.alloc o0).alloc o1) := fun o0 o1 => ((Below.refl _ _).alloc (Nat.le_refl _) o0).alloc (by simp) o1
    have hbt : ∀ o0 o1, Below w.heap.size w ((w.alloc o0).alloc o1) := fun o0 o1 => hb.trans ((bp o0 o1).mono hb.size)
    refine Calls.mono (szCache_yes u0 z0 a0 n0 ca0 bs0 (1048576) _ (hr0.below (hbt _ _)) (by omega) (by omega)) ?_
    rintro e w1 ⟨rfl, hc⟩
    have s1 : w.heap.size + 2 ≤ w1.heap.size := by have := hc.size; simp at this; omega
    have bq : Below w.heap.size w w1 := (bp _ _).trans (hc.mono (bp _ _).size)
    have caC0 : w1.cell? ⟨w.heap.size, 0, none⟩ = some (.int .i64 u0) := cell_later hc (by simp [go_sem])
    have caC1 : w1.cell? ⟨w.heap.size, 1, none⟩ = some (.int .i64 z0) := cell_later hc (by simp [go_sem])
    have caC2 : w1.cell? ⟨w.heap.size, 2, none⟩ = some (.slice a0 n0 ca0) := cell_later hc (by simp [go_sem])
    have zaC : w.heap.size < w1.heap.size := by omega
    have caF0 : w1.cell? ⟨w.heap.size + 1, 0, none⟩ = some (.slice a1 n1 ca1) := cell_later hc (by simp [go_sem])
    have zaF : w.heap.size + 1 < w1.heap.size := by omega
    replace hb := hb.trans (bq.mono hb.size)
    clear hc bq bp hbt
    have hleft0 : ¬ (1048576 - (n0 : Int) - (byB bs0 : Int) < 0) := by omega
    go_wp2_with fail
    refine Calls.mono (szFile_no a1 n1 ca1 (1048576 - (n0 : Int) - (byB bs0 : Int)) _ (by omega) hm1 (by omega) (by omega)) ?_
    rintro e w2 ⟨rfl, hc⟩
    have s2 : w1.heap.size ≤ w2.heap.size := hc.size
    have bq := hc
    replace caC0 := cell_later bq caC0
    replace caC1 := cell_later bq caC1
    replace caC2 := cell_later bq caC2
    replace zaC := Nat.lt_of_lt_of_le zaC bq.size
    replace caF0 := cell_later bq caF0
    replace zaF := Nat.lt_of_lt_of_le zaF bq.size
    replace hb := hb.trans (bq.mono hb.size)
    clear hc bq
    go_wp2
    go_ret
    exact ⟨rfl, hb⟩
  unfold maxLen at hm0
  unfold maxLen at hm1
  have SC := fun (A0 : Option Addr) (C0 : Nat) (A1 : Option Addr) (C1 : Nat) (W' : World) (H0 : RdB W' A0 n0 bs0) (J0 : n0 ≤ C0) (M0 : C0 ≤ maxLen) (H1 : Rd .u8 W' A1 n1 xs1) (J1 : n1 ≤ C1) (M1 : C1 ≤ maxLen) => specReadRange_any u0 z0 A0 n0 C0 bs0 A1 n1 C1 xs1 I2 I3 I4 W' H0 H1 (by omega) (by omega) J1 M1
  have IC := fun (A0 : Option Addr) (C0 : Nat) (A1 : Option Addr) (C1 : Nat) (W' : World) (H0 : RdB W' A0 n0 bs0) (J0 : n0 ≤ C0) (M0 : C0 ≤ maxLen) (H1 : Rd .u8 W' A1 n1 xs1) (J1 : n1 ≤ C1) (M1 : C1 ≤ maxLen) => implReadRange_any u0 z0 A0 n0 C0 bs0 A1 n1 C1 xs1 I2 I3 I4 W' H0 H1 (by omega) (by omega) J0 J1 M1
  have hrl : (rrR u0 z0 bs0 xs1 I2 I3 I4).length ≤ 400 := (rr_len u0 z0 bs0 xs1 I2 I3 I4).1
  have hrq : ((rrS u0 z0 bs0 xs1 I2 I3 I4).length : Int) + byB (rrS u0 z0 bs0 xs1 I2 I3 I4) ≤ 1000000 := (rr_len u0 z0 bs0 xs1 I2 I3 I4).2
  generalize rrCode u0 z0 bs0 xs1 I2 I3 I4 = cd at *
  generalize rrR u0 z0 bs0 xs1 I2 I3 I4 = rs at *
  generalize rrU u0 z0 bs0 xs1 I2 I3 I4 = ru at *
  generalize rrZ u0 z0 bs0 xs1 I2 I3 I4 = rz at *
  generalize rrS u0 z0 bs0 xs1 I2 I3 I4 = qs at *
  generalize hml : rs.length = m at *
  generalize hql : qs.length = nq at *
  clear hml hql
  have HSC : Hid _ := SC
  have HIC : Hid _ := IC
  clear SC IC
  go_enter Try.func8, Try.ntmps8
  have hb : Below w.heap.size w w := Below.refl _ _
  go_wp2_with fail
  have bp : ∀ o0 o1, Below w.heap.size w ((w.alloc o0).alloc o1) := fun o0 o1 => ((Below.refl _ _).alloc (Nat.le_refl _) o0).alloc (by simp) o1
  have hbt : ∀ o0 o1, Below w.heap.size w ((w.alloc o0).alloc o1) := fun o0 o1 => hb.trans ((bp o0 o1).mono hb.size)
  refine Calls.mono (szCache_yes u0 z0 a0 n0 ca0 bs0 (1048576) _ (hr0.below (hbt _ _)) (by omega) (by omega)) ?_
  rintro e w1 ⟨rfl, hc⟩
  have s1 : w.heap.size + 2 ≤ w1.heap.size := by have := hc.size; simp at this; omega
  have bq : Below w.heap.size w w1 := (bp _ _).trans (hc.mono (bp _ _).size)
  have caC0 : w1.cell? ⟨w.heap.size, 0, none⟩ = some (.int .i64 u0) := cell_later hc (by simp [go_sem])
  have caC1 : w1.cell? ⟨w.heap.size, 1, none⟩ = some (.int .i64 z0) := cell_later hc (by simp [go_sem])
  have caC2 : w1.cell? ⟨w.heap.size, 2, none⟩ = some (.slice a0 n0 ca0) := cell_later hc (by simp [go_sem])
  have zaC : w.heap.size < w1.heap.size := by omega
  have caF0 : w1.cell? ⟨w.heap.size + 1, 0, none⟩ = some (.slice a1 n1 ca1) := cell_later hc (by simp [go_sem])
  have zaF : w.heap.size + 1 < w1.heap.size := by omega
  replace hb := hb.trans (bq.mono hb.size)
  clear hc bq bp hbt
  have hleft0 : ¬ (1048576 - (n0 : Int) - (byB bs0 : Int) < 0) := by omega
  go_wp2_with fail
  refine Calls.mono (szFile_yes a1 n1 ca1 (1048576 - (n0 : Int) - (byB bs0 : Int)) _ (by omega) (by omega)) ?_
  rintro e w2 ⟨rfl, hc⟩
  have s2 : w1.heap.size ≤ w2.heap.size := hc.size
  have bq := hc
  replace caC0 := cell_later bq caC0
  replace caC1 := cell_later bq caC1
  replace caC2 := cell_later bq caC2
  replace zaC := Nat.lt_of_lt_of_le zaC bq.size
  replace caF0 := cell_later bq caF0
  replace zaF := Nat.lt_of_lt_of_le zaF bq.size
  replace hb := hb.trans (bq.mono hb.size)
  clear hc bq
  have hleft1 : ¬ (1048576 - (n0 : Int) - (byB bs0 : Int) - (n1 : Int) < 0) := by omega
  go_wp2_with fail
  refine region_join (fun a a' w' => ∃ (B lo hi : Nat) (vb v v0 v1 : Value), a' = (((((((((a.put (some 30) (.agg #[.int .i64 u0, .int .i64 z0, .slice a0 n0 ca0])).put (some 32) (.agg #[.slice a1 n1 ca1])).put (some 34) (.int .i64 I2)).put (some 35) (.int .i64 I3)).put (some 36) (.int .i64 I4)).put (some 31) v0).put (some 33) v1).put (some 37) (.agg #[.int .i64 cd, vb, .int .i64 ru, .int .i64 rz, v])).put (some 12) (.pointer (some ⟨B, 0, none⟩))) ∧ Below w2.heap.size w2 w' ∧ w2.heap.size ≤ B ∧ B < w'.heap.size ∧ w2.heap.size ≤ lo ∧ hi ≤ w'.heap.size ∧ (B < lo ∨ hi ≤ B) ∧ RowI .u8 5 w' lo hi vb m rs ∧ RowB 93 5 w' lo hi v nq qs ∧ w'.cell? ⟨B, 0, none⟩ = some (.int .i64 cd) ∧ w'.cell? ⟨B, 1, none⟩ = some (vb) ∧ w'.cell? ⟨B, 2, none⟩ = some (.int .i64 ru) ∧ w'.cell? ⟨B, 3, none⟩ = some (.int .i64 rz) ∧ w'.cell? ⟨B, 4, none⟩ = some (v)) ?_ ?_
  · skip
    refine wp_region_held_drew (S := fun w' => Below w2.heap.size w2 w') (by kernel_rfl) (Below.refl _ _).drew (fun hS => ?_)
    have hdz : w2.drew.heap.size = w2.heap.size := rfl
    refine wpAnyH_take (i := 0) (v := (.agg #[.int .i64 u0, .int .i64 z0, .slice a0 n0 ca0])) rfl (by kernel_rfl) (by kernel_rfl) (by kernel_rfl) (fun _ _ _ h => nomatch h.1) (Or.inl ⟨by kernel_rfl, ?_⟩) hS ?_
    · intro w hSw; (try dsimp only at hSw); have hl0 := cell_later hSw caC0; have hl1 := cell_later hSw caC1; have hl2 := cell_later hSw caC2; go_simp
    (try simp only [Act.put, List.getElem_toArray, List.getElem_cons_zero, List.getElem_cons_succ, List.setIfInBounds_toArray, List.set_cons_zero, List.set_cons_succ])
    refine wpAnyH_take (i := 2) (v := (.agg #[.slice a1 n1 ca1])) rfl (by kernel_rfl) (by kernel_rfl) (by kernel_rfl) (fun _ _ _ h => nomatch h.1) (Or.inl ⟨by kernel_rfl, ?_⟩) hS ?_
    · intro w hSw; (try dsimp only at hSw); have hl0 := cell_later hSw caF0; go_simp
    (try simp only [Act.put, List.getElem_toArray, List.getElem_cons_zero, List.getElem_cons_succ, List.setIfInBounds_toArray, List.set_cons_zero, List.set_cons_succ])
    refine wpAnyH_take (i := 4) (v := (.int .i64 I2)) rfl (by kernel_rfl) (by kernel_rfl) (by kernel_rfl) (fun _ _ _ h => nomatch h.1) (Or.inl ⟨by kernel_rfl, ?_⟩) hS ?_
    · intro w hSw; (try dsimp only at hSw); go_simp
    (try simp only [Act.put, List.getElem_toArray, List.getElem_cons_zero, List.getElem_cons_succ, List.setIfInBounds_toArray, List.set_cons_zero, List.set_cons_succ])
    refine wpAnyH_take (i := 5) (v := (.int .i64 I3)) rfl (by kernel_rfl) (by kernel_rfl) (by kernel_rfl) (fun _ _ _ h => nomatch h.1) (Or.inl ⟨by kernel_rfl, ?_⟩) hS ?_
    · intro w hSw; (try dsimp only at hSw); go_simp
    (try simp only [Act.put, List.getElem_toArray, List.getElem_cons_zero, List.getElem_cons_succ, List.setIfInBounds_toArray, List.set_cons_zero, List.set_cons_succ])
    refine wpAnyH_take (i := 6) (v := (.int .i64 I4)) rfl (by kernel_rfl) (by kernel_rfl) (by kernel_rfl) (fun _ _ _ h => nomatch h.1) (Or.inl ⟨by kernel_rfl, ?_⟩) hS ?_
    · intro w hSw; (try dsimp only at hSw); go_simp
    (try simp only [Act.put, List.getElem_toArray, List.getElem_cons_zero, List.getElem_cons_succ, List.setIfInBounds_toArray, List.set_cons_zero, List.set_cons_succ])
    refine wpAnyH_ready (rs := [1, 8]) (by as_aux_lemma => kernel_rfl) (by simp) ?_
    refine AllReadyH.cons rfl (fun K hK => ?_) (AllReadyH.cons rfl (fun K hK => ?_) AllReadyH.nil)
    · skip
      go_simp
      refine Calls.mono (toCache_any u0 z0 a0 n0 ca0 bs0 _ (hr0.below (hb.trans (hS.mono hb.size))) (by omega)) ?_
      rintro e y0 ⟨x0, rfl, q0, hc⟩
      obtain ⟨ax0, kx0, rfl, g1, g2⟩ := q0.shape
      have KQ0 : Hid _ := And.intro g1 g2
      clear g1 g2
      have sz0 := hc.size
      refine hK.out _ _ (hS.trans (hc.mono hS.size)) (fun hS => ?_)
      clear hK K
      (try simp only [Act.put, List.getElem_toArray, List.getElem_cons_zero, List.getElem_cons_succ, List.setIfInBounds_toArray, List.set_cons_zero, List.set_cons_succ])
      clear hc
      refine wpAnyH_ready (rs := [3, 8]) (by as_aux_lemma => kernel_rfl) (by simp) ?_
      refine AllReadyH.cons rfl (fun K hK => ?_) (AllReadyH.cons rfl (fun K hK => ?_) AllReadyH.nil)
      · skip
        go_simp
        refine Calls.mono (toFile_any a1 n1 ca1 xs1 _ (hr1.below (hb.trans (hS.mono hb.size))) (by omega)) ?_
        rintro e y1 ⟨x1, rfl, q1, hc⟩
        obtain ⟨ax1, kx1, rfl, g1, g2⟩ := q1.shape
        have KQ1 : Hid _ := And.intro g1 g2
        clear g1 g2
        replace q0 := q0.below hc
        have sz1 := hc.size
        refine hK.out _ _ (hS.trans (hc.mono hS.size)) (fun hS => ?_)
        clear hK K
        (try simp only [Act.put, List.getElem_toArray, List.getElem_cons_zero, List.getElem_cons_succ, List.setIfInBounds_toArray, List.set_cons_zero, List.set_cons_succ])
        clear hc
        refine wpAnyH_ready (rs := [7, 8]) (by as_aux_lemma => kernel_rfl) (by simp) ?_
        refine AllReadyH.cons rfl (fun K hK => ?_) (AllReadyH.cons rfl (fun K hK => ?_) AllReadyH.nil)
        · skip
          go_simp
          refine Calls.mono (HSC.out ax0 kx0 ax1 kx1 _ q0.read KQ0.out.1 KQ0.out.2 q1.read KQ1.out.1 KQ1.out.2) ?_
          rintro e y2 ⟨xb, x2, rfl, qb, q2, hc⟩
          obtain ⟨axb, kxb, rfl, -⟩ := qb.shape
          obtain ⟨ax2, kx2, rfl, -⟩ := q2.shape
          replace q0 := q0.below hc
          replace q1 := q1.below hc
          have sz2 := hc.size
          refine hK.out _ _ (hS.trans (hc.mono hS.size)) (fun hS => ?_)
          clear hK K
          (try simp only [Act.put, List.getElem_toArray, List.getElem_cons_zero, List.getElem_cons_succ, List.setIfInBounds_toArray, List.set_cons_zero, List.set_cons_succ])
          clear hc
          refine wpAnyH_ready (rs := [8]) (by as_aux_lemma => kernel_rfl) (by simp) ?_
          refine AllReadyH.cons rfl (fun K hK => ?_) AllReadyH.nil
          go_simp
          refine hK.out _ _ (hS.alloc hS.size _) (fun hS => ?_)
          clear hK K
          (try simp only [Act.put, List.getElem_toArray, List.getElem_cons_zero, List.getElem_cons_succ, List.setIfInBounds_toArray, List.set_cons_zero, List.set_cons_succ])
          have NB : Below y2.heap.size y2 (y2.alloc (.cells #[.int .i64 0, .slice none 0 0, .int .i64 0, .int .i64 0, .slice none 0 0] 32)) := (Below.refl _ _).alloc (Nat.le_refl _) _
          have hB := Blk.new y2 #[.int .i64 0, .slice none 0 0, .int .i64 0, .int .i64 0, .slice none 0 0] 32
          replace q0 := q0.below NB
          replace q1 := q1.below NB
          replace qb := qb.below NB
          replace q2 := q2.below NB
          have szA := NB.size
          have ltA := hB.lt
          clear NB
          generalize y2.alloc (.cells #[.int .i64 0, .slice none 0 0, .int .i64 0, .int .i64 0, .slice none 0 0] 32) = yA at *
          have d0 : yA.cell? ⟨y2.heap.size, 0, none⟩ = some (.int .i64 0) := hB.cell 0
          have df0 := hB.frozen 0
          have d1 : yA.cell? ⟨y2.heap.size, 1, none⟩ = some (.slice none 0 0) := hB.cell 1
          have df1 := hB.frozen 1
          have d2 : yA.cell? ⟨y2.heap.size, 2, none⟩ = some (.int .i64 0) := hB.cell 2
          have df2 := hB.frozen 2
          have d3 : yA.cell? ⟨y2.heap.size, 3, none⟩ = some (.int .i64 0) := hB.cell 3
          have df3 := hB.frozen 3
          have d4 : yA.cell? ⟨y2.heap.size, 4, none⟩ = some (.slice none 0 0) := hB.cell 4
          have df4 := hB.frozen 4
          refine wpAnyH_ready (rs := [9]) (by as_aux_lemma => kernel_rfl) (by simp) ?_
          refine AllReadyH.cons rfl (fun K hK => ?_) AllReadyH.nil
          have HBB := hid hB
          clear hB
          go_simp
          have hWs : w2.heap.size ≤ y2.heap.size := by have := hS.size; omega
          refine hK.out _ _ ((((((hS.setCell hWs _).setCell hWs _).setCell hWs _).setCell hWs _).setCell hWs _)) (fun hS => ?_)
          clear hK K
          (try simp only [Act.put, List.getElem_toArray, List.getElem_cons_zero, List.getElem_cons_succ, List.setIfInBounds_toArray, List.set_cons_zero, List.set_cons_succ])
          have hbl := (((((HBB.out.set (i := 0) (.int .i64 cd)).set (i := 1) (.slice axb m kxb)).set (i := 2) (.int .i64 ru)).set (i := 3) (.int .i64 rz)).set (i := 4) (.slice ax2 nq kx2))
          simp only [List.setIfInBounds_toArray, List.set_cons_zero, List.set_cons_succ] at hbl
          have hdj : y2.heap.size < y1.heap.size ∨ y2.heap.size ≤ y2.heap.size := by omega
          have hrow := (RowB.setB (RowB.setB (RowB.setB (RowB.setB (RowB.setB q2 hdj 0 (.int .i64 cd)) hdj 1 (.slice axb m kxb)) hdj 2 (.int .i64 ru)) hdj 3 (.int .i64 rz)) hdj 4 (.slice ax2 nq kx2))
          have hrowb := (RowI.setB (RowI.setB (RowI.setB (RowI.setB (RowI.setB qb hdj 0 (.int .i64 cd)) hdj 1 (.slice axb m kxb)) hdj 2 (.int .i64 ru)) hdj 3 (.int .i64 rz)) hdj 4 (.slice ax2 nq kx2))
          have hx0 := hbl.cell 0
          simp only [List.getElem?_toArray, List.getElem?_cons_zero, List.getElem?_cons_succ] at hx0
          have hx1 := hbl.cell 1
          simp only [List.getElem?_toArray, List.getElem?_cons_zero, List.getElem?_cons_succ] at hx1
          have hx2 := hbl.cell 2
          simp only [List.getElem?_toArray, List.getElem?_cons_zero, List.getElem?_cons_succ] at hx2
          have hx3 := hbl.cell 3
          simp only [List.getElem?_toArray, List.getElem?_cons_zero, List.getElem?_cons_succ] at hx3
          have hx4 := hbl.cell 4
          simp only [List.getElem?_toArray, List.getElem?_cons_zero, List.getElem?_cons_succ] at hx4
          refine wpAnyH_done (by kernel_rfl) ?_ _
          refine ⟨rfl, y2.heap.size, y1.heap.size, y2.heap.size, .slice axb m kxb, .slice ax2 nq kx2, .agg #[.int .i64 u0, .int .i64 z0, .slice ax0 n0 kx0], .agg #[.slice ax1 n1 kx1], ?_, hS, hWs, ?_, ?_, ?_, ?_, hrowb, hrow, hx0, hx1, hx2, hx3, hx4⟩
          · simp only [Act.put, List.getElem_toArray, List.getElem_cons_zero, List.getElem_cons_succ, List.setIfInBounds_toArray, List.set_cons_zero, List.set_cons_succ]
          all_goals (try simp only [size_set])
          all_goals omega
        · skip
          go_simp
          refine hK.out _ _ (hS.alloc hS.size _) (fun hS => ?_)
          clear hK K
          (try simp only [Act.put, List.getElem_toArray, List.getElem_cons_zero, List.getElem_cons_succ, List.setIfInBounds_toArray, List.set_cons_zero, List.set_cons_succ])
          have NB : Below y1.heap.size y1 (y1.alloc (.cells #[.int .i64 0, .slice none 0 0, .int .i64 0, .int .i64 0, .slice none 0 0] 32)) := (Below.refl _ _).alloc (Nat.le_refl _) _
          have hB := Blk.new y1 #[.int .i64 0, .slice none 0 0, .int .i64 0, .int .i64 0, .slice none 0 0] 32
          replace q0 := q0.below NB
          replace q1 := q1.below NB
          have szA := NB.size
          have ltA := hB.lt
          clear NB
          generalize y1.alloc (.cells #[.int .i64 0, .slice none 0 0, .int .i64 0, .int .i64 0, .slice none 0 0] 32) = yA at *
          refine wpAnyH_ready (rs := [7]) (by as_aux_lemma => kernel_rfl) (by simp) ?_
          refine AllReadyH.cons rfl (fun K hK => ?_) AllReadyH.nil
          go_simp
          refine Calls.mono (HSC.out ax0 kx0 ax1 kx1 _ q0.read KQ0.out.1 KQ0.out.2 q1.read KQ1.out.1 KQ1.out.2) ?_
          rintro e y2 ⟨xb, x2, rfl, qb, q2, hc⟩
          obtain ⟨axb, kxb, rfl, -⟩ := qb.shape
          obtain ⟨ax2, kx2, rfl, -⟩ := q2.shape
          replace q0 := q0.below hc
          replace q1 := q1.below hc
          replace hB := hB.below hc
          have sz2 := hc.size
          refine hK.out _ _ (hS.trans (hc.mono hS.size)) (fun hS => ?_)
          clear hK K
          (try simp only [Act.put, List.getElem_toArray, List.getElem_cons_zero, List.getElem_cons_succ, List.setIfInBounds_toArray, List.set_cons_zero, List.set_cons_succ])
          clear hc
          have d0 : y2.cell? ⟨y1.heap.size, 0, none⟩ = some (.int .i64 0) := hB.cell 0
          have df0 := hB.frozen 0
          have d1 : y2.cell? ⟨y1.heap.size, 1, none⟩ = some (.slice none 0 0) := hB.cell 1
          have df1 := hB.frozen 1
          have d2 : y2.cell? ⟨y1.heap.size, 2, none⟩ = some (.int .i64 0) := hB.cell 2
          have df2 := hB.frozen 2
          have d3 : y2.cell? ⟨y1.heap.size, 3, none⟩ = some (.int .i64 0) := hB.cell 3
          have df3 := hB.frozen 3
          have d4 : y2.cell? ⟨y1.heap.size, 4, none⟩ = some (.slice none 0 0) := hB.cell 4
          have df4 := hB.frozen 4
          refine wpAnyH_ready (rs := [9]) (by as_aux_lemma => kernel_rfl) (by simp) ?_
          refine AllReadyH.cons rfl (fun K hK => ?_) AllReadyH.nil
          have HBB := hid hB
          clear hB
          go_simp
          have hWs : w2.heap.size ≤ y1.heap.size := by have := hS.size; omega
          refine hK.out _ _ ((((((hS.setCell hWs _).setCell hWs _).setCell hWs _).setCell hWs _).setCell hWs _)) (fun hS => ?_)
          clear hK K
          (try simp only [Act.put, List.getElem_toArray, List.getElem_cons_zero, List.getElem_cons_succ, List.setIfInBounds_toArray, List.set_cons_zero, List.set_cons_succ])
          have hbl := (((((HBB.out.set (i := 0) (.int .i64 cd)).set (i := 1) (.slice axb m kxb)).set (i := 2) (.int .i64 ru)).set (i := 3) (.int .i64 rz)).set (i := 4) (.slice ax2 nq kx2))
          simp only [List.setIfInBounds_toArray, List.set_cons_zero, List.set_cons_succ] at hbl
          have hdj : y1.heap.size < yA.heap.size ∨ y2.heap.size ≤ y1.heap.size := by omega
          have hrow := (RowB.setB (RowB.setB (RowB.setB (RowB.setB (RowB.setB q2 hdj 0 (.int .i64 cd)) hdj 1 (.slice axb m kxb)) hdj 2 (.int .i64 ru)) hdj 3 (.int .i64 rz)) hdj 4 (.slice ax2 nq kx2))
          have hrowb := (RowI.setB (RowI.setB (RowI.setB (RowI.setB (RowI.setB qb hdj 0 (.int .i64 cd)) hdj 1 (.slice axb m kxb)) hdj 2 (.int .i64 ru)) hdj 3 (.int .i64 rz)) hdj 4 (.slice ax2 nq kx2))
          have hx0 := hbl.cell 0
          simp only [List.getElem?_toArray, List.getElem?_cons_zero, List.getElem?_cons_succ] at hx0
          have hx1 := hbl.cell 1
          simp only [List.getElem?_toArray, List.getElem?_cons_zero, List.getElem?_cons_succ] at hx1
          have hx2 := hbl.cell 2
          simp only [List.getElem?_toArray, List.getElem?_cons_zero, List.getElem?_cons_succ] at hx2
          have hx3 := hbl.cell 3
          simp only [List.getElem?_toArray, List.getElem?_cons_zero, List.getElem?_cons_succ] at hx3
          have hx4 := hbl.cell 4
          simp only [List.getElem?_toArray, List.getElem?_cons_zero, List.getElem?_cons_succ] at hx4
          refine wpAnyH_done (by kernel_rfl) ?_ _
          refine ⟨rfl, y1.heap.size, yA.heap.size, y2.heap.size, .slice axb m kxb, .slice ax2 nq kx2, .agg #[.int .i64 u0, .int .i64 z0, .slice ax0 n0 kx0], .agg #[.slice ax1 n1 kx1], ?_, hS, hWs, ?_, ?_, ?_, ?_, hrowb, hrow, hx0, hx1, hx2, hx3, hx4⟩
          · simp only [Act.put, List.getElem_toArray, List.getElem_cons_zero, List.getElem_cons_succ, List.setIfInBounds_toArray, List.set_cons_zero, List.set_cons_succ]
          all_goals (try simp only [size_set])
          all_goals omega
      · skip
        go_simp
        refine hK.out _ _ (hS.alloc hS.size _) (fun hS => ?_)
        clear hK K
        (try simp only [Act.put, List.getElem_toArray, List.getElem_cons_zero, List.getElem_cons_succ, List.setIfInBounds_toArray, List.set_cons_zero, List.set_cons_succ])
        have NB : Below y0.heap.size y0 (y0.alloc (.cells #[.int .i64 0, .slice none 0 0, .int .i64 0, .int .i64 0, .slice none 0 0] 32)) := (Below.refl _ _).alloc (Nat.le_refl _) _
        have hB := Blk.new y0 #[.int .i64 0, .slice none 0 0, .int .i64 0, .int .i64 0, .slice none 0 0] 32
        replace q0 := q0.below NB
        have szA := NB.size
        have ltA := hB.lt
        clear NB
        generalize y0.alloc (.cells #[.int .i64 0, .slice none 0 0, .int .i64 0, .int .i64 0, .slice none 0 0] 32) = yA at *
        refine wpAnyH_ready (rs := [3]) (by as_aux_lemma => kernel_rfl) (by simp) ?_
        refine AllReadyH.cons rfl (fun K hK => ?_) AllReadyH.nil
        go_simp
        refine Calls.mono (toFile_any a1 n1 ca1 xs1 _ (hr1.below (hb.trans (hS.mono hb.size))) (by omega)) ?_
        rintro e y1 ⟨x1, rfl, q1, hc⟩
        obtain ⟨ax1, kx1, rfl, g1, g2⟩ := q1.shape
        have KQ1 : Hid _ := And.intro g1 g2
        clear g1 g2
        replace q0 := q0.below hc
        replace hB := hB.below hc
        have sz1 := hc.size
        refine hK.out _ _ (hS.trans (hc.mono hS.size)) (fun hS => ?_)
        clear hK K
        (try simp only [Act.put, List.getElem_toArray, List.getElem_cons_zero, List.getElem_cons_succ, List.setIfInBounds_toArray, List.set_cons_zero, List.set_cons_succ])
        clear hc
        refine wpAnyH_ready (rs := [7]) (by as_aux_lemma => kernel_rfl) (by simp) ?_
        refine AllReadyH.cons rfl (fun K hK => ?_) AllReadyH.nil
        go_simp
        refine Calls.mono (HSC.out ax0 kx0 ax1 kx1 _ q0.read KQ0.out.1 KQ0.out.2 q1.read KQ1.out.1 KQ1.out.2) ?_
        rintro e y2 ⟨xb, x2, rfl, qb, q2, hc⟩
        obtain ⟨axb, kxb, rfl, -⟩ := qb.shape
        obtain ⟨ax2, kx2, rfl, -⟩ := q2.shape
        replace q0 := q0.below hc
        replace q1 := q1.below hc
        replace hB := hB.below hc
        have sz2 := hc.size
        refine hK.out _ _ (hS.trans (hc.mono hS.size)) (fun hS => ?_)
        clear hK K
        (try simp only [Act.put, List.getElem_toArray, List.getElem_cons_zero, List.getElem_cons_succ, List.setIfInBounds_toArray, List.set_cons_zero, List.set_cons_succ])
        clear hc
        have d0 : y2.cell? ⟨y0.heap.size, 0, none⟩ = some (.int .i64 0) := hB.cell 0
        have df0 := hB.frozen 0
        have d1 : y2.cell? ⟨y0.heap.size, 1, none⟩ = some (.slice none 0 0) := hB.cell 1
        have df1 := hB.frozen 1
        have d2 : y2.cell? ⟨y0.heap.size, 2, none⟩ = some (.int .i64 0) := hB.cell 2
        have df2 := hB.frozen 2
        have d3 : y2.cell? ⟨y0.heap.size, 3, none⟩ = some (.int .i64 0) := hB.cell 3
        have df3 := hB.frozen 3
        have d4 : y2.cell? ⟨y0.heap.size, 4, none⟩ = some (.slice none 0 0) := hB.cell 4
        have df4 := hB.frozen 4
        refine wpAnyH_ready (rs := [9]) (by as_aux_lemma => kernel_rfl) (by simp) ?_
        refine AllReadyH.cons rfl (fun K hK => ?_) AllReadyH.nil
        have HBB := hid hB
        clear hB
        go_simp
        have hWs : w2.heap.size ≤ y0.heap.size := by have := hS.size; omega
        refine hK.out _ _ ((((((hS.setCell hWs _).setCell hWs _).setCell hWs _).setCell hWs _).setCell hWs _)) (fun hS => ?_)
        clear hK K
        (try simp only [Act.put, List.getElem_toArray, List.getElem_cons_zero, List.getElem_cons_succ, List.setIfInBounds_toArray, List.set_cons_zero, List.set_cons_succ])
        have hbl := (((((HBB.out.set (i := 0) (.int .i64 cd)).set (i := 1) (.slice axb m kxb)).set (i := 2) (.int .i64 ru)).set (i := 3) (.int .i64 rz)).set (i := 4) (.slice ax2 nq kx2))
        simp only [List.setIfInBounds_toArray, List.set_cons_zero, List.set_cons_succ] at hbl
        have hdj : y0.heap.size < y1.heap.size ∨ y2.heap.size ≤ y0.heap.size := by omega
        have hrow := (RowB.setB (RowB.setB (RowB.setB (RowB.setB (RowB.setB q2 hdj 0 (.int .i64 cd)) hdj 1 (.slice axb m kxb)) hdj 2 (.int .i64 ru)) hdj 3 (.int .i64 rz)) hdj 4 (.slice ax2 nq kx2))
        have hrowb := (RowI.setB (RowI.setB (RowI.setB (RowI.setB (RowI.setB qb hdj 0 (.int .i64 cd)) hdj 1 (.slice axb m kxb)) hdj 2 (.int .i64 ru)) hdj 3 (.int .i64 rz)) hdj 4 (.slice ax2 nq kx2))
        have hx0 := hbl.cell 0
        simp only [List.getElem?_toArray, List.getElem?_cons_zero, List.getElem?_cons_succ] at hx0
        have hx1 := hbl.cell 1
        simp only [List.getElem?_toArray, List.getElem?_cons_zero, List.getElem?_cons_succ] at hx1
        have hx2 := hbl.cell 2
        simp only [List.getElem?_toArray, List.getElem?_cons_zero, List.getElem?_cons_succ] at hx2
        have hx3 := hbl.cell 3
        simp only [List.getElem?_toArray, List.getElem?_cons_zero, List.getElem?_cons_succ] at hx3
        have hx4 := hbl.cell 4
        simp only [List.getElem?_toArray, List.getElem?_cons_zero, List.getElem?_cons_succ] at hx4
        refine wpAnyH_done (by kernel_rfl) ?_ _
        refine ⟨rfl, y0.heap.size, y1.heap.size, y2.heap.size, .slice axb m kxb, .slice ax2 nq kx2, .agg #[.int .i64 u0, .int .i64 z0, .slice ax0 n0 kx0], .agg #[.slice ax1 n1 kx1], ?_, hS, hWs, ?_, ?_, ?_, ?_, hrowb, hrow, hx0, hx1, hx2, hx3, hx4⟩
        · simp only [Act.put, List.getElem_toArray, List.getElem_cons_zero, List.getElem_cons_succ, List.setIfInBounds_toArray, List.set_cons_zero, List.set_cons_succ]
        all_goals (try simp only [size_set])
        all_goals omega
    · skip
      go_simp
      refine hK.out _ _ (hS.alloc hS.size _) (fun hS => ?_)
      clear hK K
      (try simp only [Act.put, List.getElem_toArray, List.getElem_cons_zero, List.getElem_cons_succ, List.setIfInBounds_toArray, List.set_cons_zero, List.set_cons_succ])
      have NB : Below w2.heap.size w2 (w2.alloc (.cells #[.int .i64 0, .slice none 0 0, .int .i64 0, .int .i64 0, .slice none 0 0] 32)).drew := ((Below.refl _ _).alloc (Nat.le_refl _) _).drew
      have hB : Blk (w2.alloc (.cells #[.int .i64 0, .slice none 0 0, .int .i64 0, .int .i64 0, .slice none 0 0] 32)).drew w2.heap.size #[.int .i64 0, .slice none 0 0, .int .i64 0, .int .i64 0, .slice none 0 0] 32 := Blk.new w2 #[.int .i64 0, .slice none 0 0, .int .i64 0, .int .i64 0, .slice none 0 0] 32
      have szA := NB.size
      have ltA := hB.lt
      clear NB
      generalize (w2.alloc (.cells #[.int .i64 0, .slice none 0 0, .int .i64 0, .int .i64 0, .slice none 0 0] 32)).drew = yA at *
      refine wpAnyH_ready (rs := [1]) (by as_aux_lemma => kernel_rfl) (by simp) ?_
      refine AllReadyH.cons rfl (fun K hK => ?_) AllReadyH.nil
      go_simp
      refine Calls.mono (toCache_any u0 z0 a0 n0 ca0 bs0 _ (hr0.below (hb.trans (hS.mono hb.size))) (by omega)) ?_
      rintro e y0 ⟨x0, rfl, q0, hc⟩
      obtain ⟨ax0, kx0, rfl, g1, g2⟩ := q0.shape
      have KQ0 : Hid _ := And.intro g1 g2
      clear g1 g2
      replace hB := hB.below hc
      have sz0 := hc.size
      refine hK.out _ _ (hS.trans (hc.mono hS.size)) (fun hS => ?_)
      clear hK K
      (try simp only [Act.put, List.getElem_toArray, List.getElem_cons_zero, List.getElem_cons_succ, List.setIfInBounds_toArray, List.set_cons_zero, List.set_cons_succ])
      clear hc
      refine wpAnyH_ready (rs := [3]) (by as_aux_lemma => kernel_rfl) (by simp) ?_
      refine AllReadyH.cons rfl (fun K hK => ?_) AllReadyH.nil
      go_simp
      refine Calls.mono (toFile_any a1 n1 ca1 xs1 _ (hr1.below (hb.trans (hS.mono hb.size))) (by omega)) ?_
      rintro e y1 ⟨x1, rfl, q1, hc⟩
      obtain ⟨ax1, kx1, rfl, g1, g2⟩ := q1.shape
      have KQ1 : Hid _ := And.intro g1 g2
      clear g1 g2
      replace q0 := q0.below hc
      replace hB := hB.below hc
      have sz1 := hc.size
      refine hK.out _ _ (hS.trans (hc.mono hS.size)) (fun hS => ?_)
      clear hK K
      (try simp only [Act.put, List.getElem_toArray, List.getElem_cons_zero, List.getElem_cons_succ, List.setIfInBounds_toArray, List.set_cons_zero, List.set_cons_succ])
      clear hc
      refine wpAnyH_ready (rs := [7]) (by as_aux_lemma => kernel_rfl) (by simp) ?_
      refine AllReadyH.cons rfl (fun K hK => ?_) AllReadyH.nil
      go_simp
      refine Calls.mono (HSC.out ax0 kx0 ax1 kx1 _ q0.read KQ0.out.1 KQ0.out.2 q1.read KQ1.out.1 KQ1.out.2) ?_
      rintro e y2 ⟨xb, x2, rfl, qb, q2, hc⟩
      obtain ⟨axb, kxb, rfl, -⟩ := qb.shape
      obtain ⟨ax2, kx2, rfl, -⟩ := q2.shape
      replace q0 := q0.below hc
      replace q1 := q1.below hc
      replace hB := hB.below hc
      have sz2 := hc.size
      refine hK.out _ _ (hS.trans (hc.mono hS.size)) (fun hS => ?_)
      clear hK K
      (try simp only [Act.put, List.getElem_toArray, List.getElem_cons_zero, List.getElem_cons_succ, List.setIfInBounds_toArray, List.set_cons_zero, List.set_cons_succ])
      clear hc
      have d0 : y2.cell? ⟨w2.heap.size, 0, none⟩ = some (.int .i64 0) := hB.cell 0
      have df0 := hB.frozen 0
      have d1 : y2.cell? ⟨w2.heap.size, 1, none⟩ = some (.slice none 0 0) := hB.cell 1
      have df1 := hB.frozen 1
      have d2 : y2.cell? ⟨w2.heap.size, 2, none⟩ = some (.int .i64 0) := hB.cell 2
      have df2 := hB.frozen 2
      have d3 : y2.cell? ⟨w2.heap.size, 3, none⟩ = some (.int .i64 0) := hB.cell 3
      have df3 := hB.frozen 3
      have d4 : y2.cell? ⟨w2.heap.size, 4, none⟩ = some (.slice none 0 0) := hB.cell 4
      have df4 := hB.frozen 4
      refine wpAnyH_ready (rs := [9]) (by as_aux_lemma => kernel_rfl) (by simp) ?_
      refine AllReadyH.cons rfl (fun K hK => ?_) AllReadyH.nil
      have HBB := hid hB
      clear hB
      go_simp
      have hWs : w2.heap.size ≤ w2.heap.size := by have := hS.size; omega
      refine hK.out _ _ ((((((hS.setCell hWs _).setCell hWs _).setCell hWs _).setCell hWs _).setCell hWs _)) (fun hS => ?_)
      clear hK K
      (try simp only [Act.put, List.getElem_toArray, List.getElem_cons_zero, List.getElem_cons_succ, List.setIfInBounds_toArray, List.set_cons_zero, List.set_cons_succ])
      have hbl := (((((HBB.out.set (i := 0) (.int .i64 cd)).set (i := 1) (.slice axb m kxb)).set (i := 2) (.int .i64 ru)).set (i := 3) (.int .i64 rz)).set (i := 4) (.slice ax2 nq kx2))
      simp only [List.setIfInBounds_toArray, List.set_cons_zero, List.set_cons_succ] at hbl
      have hdj : w2.heap.size < y1.heap.size ∨ y2.heap.size ≤ w2.heap.size := by omega
      have hrow := (RowB.setB (RowB.setB (RowB.setB (RowB.setB (RowB.setB q2 hdj 0 (.int .i64 cd)) hdj 1 (.slice axb m kxb)) hdj 2 (.int .i64 ru)) hdj 3 (.int .i64 rz)) hdj 4 (.slice ax2 nq kx2))
      have hrowb := (RowI.setB (RowI.setB (RowI.setB (RowI.setB (RowI.setB qb hdj 0 (.int .i64 cd)) hdj 1 (.slice axb m kxb)) hdj 2 (.int .i64 ru)) hdj 3 (.int .i64 rz)) hdj 4 (.slice ax2 nq kx2))
      have hx0 := hbl.cell 0
      simp only [List.getElem?_toArray, List.getElem?_cons_zero, List.getElem?_cons_succ] at hx0
      have hx1 := hbl.cell 1
      simp only [List.getElem?_toArray, List.getElem?_cons_zero, List.getElem?_cons_succ] at hx1
      have hx2 := hbl.cell 2
      simp only [List.getElem?_toArray, List.getElem?_cons_zero, List.getElem?_cons_succ] at hx2
      have hx3 := hbl.cell 3
      simp only [List.getElem?_toArray, List.getElem?_cons_zero, List.getElem?_cons_succ] at hx3
      have hx4 := hbl.cell 4
      simp only [List.getElem?_toArray, List.getElem?_cons_zero, List.getElem?_cons_succ] at hx4
      refine wpAnyH_done (by kernel_rfl) ?_ _
      refine ⟨rfl, w2.heap.size, y1.heap.size, y2.heap.size, .slice axb m kxb, .slice ax2 nq kx2, .agg #[.int .i64 u0, .int .i64 z0, .slice ax0 n0 kx0], .agg #[.slice ax1 n1 kx1], ?_, hS, hWs, ?_, ?_, ?_, ?_, hrowb, hrow, hx0, hx1, hx2, hx3, hx4⟩
      · simp only [Act.put, List.getElem_toArray, List.getElem_cons_zero, List.getElem_cons_succ, List.setIfInBounds_toArray, List.set_cons_zero, List.set_cons_succ]
      all_goals (try simp only [size_set])
      all_goals omega
  · skip
    rintro a' w3 ⟨B3, lo3, hi3, vg3b, vg3, u3_0, u3_1, rfl, hc, bl3, bu3, ll3, hu3, dj3, rg3b, rg3, cw00, cw01, cw02, cw03, cw04⟩
    obtain ⟨ag3b, kg3b, rfl, -⟩ := rg3b.shape
    obtain ⟨ag3, kg3, rfl, -⟩ := rg3.shape
    simp only [Act.put, List.getElem_toArray, List.getElem_cons_zero, List.getElem_cons_succ, List.setIfInBounds_toArray, List.set_cons_zero, List.set_cons_succ]
    have s3 : w2.heap.size ≤ w3.heap.size := hc.size
    have bq := hc
    replace caC0 := cell_later bq caC0
    replace caC1 := cell_later bq caC1
    replace caC2 := cell_later bq caC2
    replace zaC := Nat.lt_of_lt_of_le zaC bq.size
    replace caF0 := cell_later bq caF0
    replace zaF := Nat.lt_of_lt_of_le zaF bq.size
    replace hb := hb.trans (bq.mono hb.size)
    clear hc bq
    have zw0 := bu3
    go_wp2_with fail
    refine Calls.mono (toCache_any u0 z0 a0 n0 ca0 bs0 _ (hr0.below hb) (by omega)) ?_
    rintro e w4 ⟨vt4, rfl, rt4, hc⟩
    obtain ⟨at4, kt4, rfl, q1, q2⟩ := rt4.shape
    have Kt4 : Hid _ := And.intro q1 q2
    clear q1 q2
    have s4 : w3.heap.size ≤ w4.heap.size := hc.size
    have bq := hc
    replace caC0 := cell_later bq caC0
    replace caC1 := cell_later bq caC1
    replace caC2 := cell_later bq caC2
    replace zaC := Nat.lt_of_lt_of_le zaC bq.size
    replace caF0 := cell_later bq caF0
    replace zaF := Nat.lt_of_lt_of_le zaF bq.size
    replace cw00 := cell_later bq cw00
    replace cw01 := cell_later bq cw01
    replace cw02 := cell_later bq cw02
    replace cw03 := cell_later bq cw03
    replace cw04 := cell_later bq cw04
    replace zw0 := Nat.lt_of_lt_of_le zw0 bq.size
    replace rg3b := rg3b.below bq
    replace rg3 := rg3.below bq
    replace hb := hb.trans (bq.mono hb.size)
    clear hc bq
    go_wp2_with fail
    have bp : ∀ o0, Below w4.heap.size w4 (w4.alloc o0) := fun o0 => (Below.refl _ _).alloc (Nat.le_refl _) o0
    have hbt : ∀ o0, Below w.heap.size w (w4.alloc o0) := fun o0 => hb.trans ((bp o0).mono hb.size)
    refine Calls.mono (toFile_any a1 n1 ca1 xs1 _ (hr1.below (hbt _)) (by omega)) ?_
    rintro e w5 ⟨vt5, rfl, rt5, hc⟩
    obtain ⟨at5, kt5, rfl, q1, q2⟩ := rt5.shape
    have Kt5 : Hid _ := And.intro q1 q2
    clear q1 q2
    replace rt5 := RowI.mono (lo' := w4.heap.size + 1) rt5 (by simp) (Nat.le_refl _)
    have s5 : w4.heap.size + 1 ≤ w5.heap.size := by have := hc.size; simp at this; omega
    have bq : Below w4.heap.size w4 w5 := (bp _).trans (hc.mono (bp _).size)
    replace caC0 := cell_later bq caC0
    replace caC1 := cell_later bq caC1
    replace caC2 := cell_later bq caC2
    replace zaC := Nat.lt_of_lt_of_le zaC bq.size
    replace caF0 := cell_later bq caF0
    replace zaF := Nat.lt_of_lt_of_le zaF bq.size
    replace cw00 := cell_later bq cw00
    replace cw01 := cell_later bq cw01
    replace cw02 := cell_later bq cw02
    replace cw03 := cell_later bq cw03
    replace cw04 := cell_later bq cw04
    replace zw0 := Nat.lt_of_lt_of_le zw0 bq.size
    have cx00 : w5.cell? ⟨w4.heap.size, 0, none⟩ = some (.int .i64 u0) := cell_later hc (by simp [go_sem])
    have cx01 : w5.cell? ⟨w4.heap.size, 1, none⟩ = some (.int .i64 z0) := cell_later hc (by simp [go_sem])
    have cx02 : w5.cell? ⟨w4.heap.size, 2, none⟩ = some (.slice at4 n0 kt4) := cell_later hc (by simp [go_sem])
    have zx0 : w4.heap.size < w5.heap.size := by omega
    replace rg3b := rg3b.below bq
    replace rg3 := rg3.below bq
    replace rt4 := rt4.below bq
    replace hb := hb.trans (bq.mono hb.size)
    clear hc bq bp hbt
    go_wp2_with fail
    have bp : ∀ o0, Below w5.heap.size w5 (w5.alloc o0) := fun o0 => (Below.refl _ _).alloc (Nat.le_refl _) o0
    have hbt : ∀ o0, Below w.heap.size w (w5.alloc o0) := fun o0 => hb.trans ((bp o0).mono hb.size)
    refine Calls.mono (HIC.out at4 kt4 at5 kt5 _ (rt4.below (bp _)).read Kt4.out.1 Kt4.out.2 (rt5.below (bp _)).read Kt5.out.1 Kt5.out.2) ?_
    rintro e w6 ⟨vg6b, vg6, mg6, rfl, pg6, qg6, rg6b, rg6, hc⟩
    obtain ⟨ag6b, kg6b, rfl, _⟩ := rg6b.shape
    obtain ⟨ag6, kg6, rfl, _⟩ := rg6.shape
    replace rg6b := RowI.mono (lo' := w5.heap.size + 1) rg6b (by simp) (Nat.le_refl _)
    simp at pg6
    have s6 : w5.heap.size + 1 ≤ w6.heap.size := by have := hc.size; simp at this; omega
    have bq : Below w5.heap.size w5 w6 := (bp _).trans (hc.mono (bp _).size)
    replace caC0 := cell_later bq caC0
    replace caC1 := cell_later bq caC1
    replace caC2 := cell_later bq caC2
    replace zaC := Nat.lt_of_lt_of_le zaC bq.size
    replace caF0 := cell_later bq caF0
    replace zaF := Nat.lt_of_lt_of_le zaF bq.size
    replace cw00 := cell_later bq cw00
    replace cw01 := cell_later bq cw01
    replace cw02 := cell_later bq cw02
    replace cw03 := cell_later bq cw03
    replace cw04 := cell_later bq cw04
    replace zw0 := Nat.lt_of_lt_of_le zw0 bq.size
    replace cx00 := cell_later bq cx00
    replace cx01 := cell_later bq cx01
    replace cx02 := cell_later bq cx02
    replace zx0 := Nat.lt_of_lt_of_le zx0 bq.size
    have cx10 : w6.cell? ⟨w5.heap.size, 0, none⟩ = some (.slice at5 n1 kt5) := cell_later hc (by simp [go_sem])
    have zx1 : w5.heap.size < w6.heap.size := by omega
    replace rg3b := rg3b.below bq
    replace rg3 := rg3.below bq
    replace rt4 := rt4.below bq
    replace rt5 := rt5.below bq
    replace hb := hb.trans (bq.mono hb.size)
    clear hc bq bp hbt
    go_wp2_with fail
    have bp : ∀ o0, Below w6.heap.size w6 (w6.alloc o0) := fun o0 => (Below.refl _ _).alloc (Nat.le_refl _) o0
    have hbt : ∀ o0, Below w.heap.size w (w6.alloc o0) := fun o0 => hb.trans ((bp o0).mono hb.size)
    refine Calls.mono (eqCacheResult_yes cd ru rz ag6b ag3b m kg6b kg3b rs ag6 ag3 nq kg6 kg3 qs _ (rg6b.below (bp _)).read (rg3b.below (bp _)).read (rg6.below (bp _)).read (rg3.below (bp _)).read (by omega) (by omega)) ?_
    rintro e w7 ⟨rfl, hc⟩
    have s7 : w6.heap.size + 1 ≤ w7.heap.size := by have := hc.size; simp at this; omega
    have bq : Below w6.heap.size w6 w7 := (bp _).trans (hc.mono (bp _).size)
    replace caC0 := cell_later bq caC0
    replace caC1 := cell_later bq caC1
    replace caC2 := cell_later bq caC2
    replace zaC := Nat.lt_of_lt_of_le zaC bq.size
    replace caF0 := cell_later bq caF0
    replace zaF := Nat.lt_of_lt_of_le zaF bq.size
    replace cw00 := cell_later bq cw00
    replace cw01 := cell_later bq cw01
    replace cw02 := cell_later bq cw02
    replace cw03 := cell_later bq cw03
    replace cw04 := cell_later bq cw04
    replace zw0 := Nat.lt_of_lt_of_le zw0 bq.size
    replace cx00 := cell_later bq cx00
    replace cx01 := cell_later bq cx01
    replace cx02 := cell_later bq cx02
    replace zx0 := Nat.lt_of_lt_of_le zx0 bq.size
    replace cx10 := cell_later bq cx10
    replace zx1 := Nat.lt_of_lt_of_le zx1 bq.size
    have cg00 : w7.cell? ⟨w6.heap.size, 0, none⟩ = some (.int .i64 cd) := cell_later hc (by simp [go_sem])
    have cg01 : w7.cell? ⟨w6.heap.size, 1, none⟩ = some (.slice ag6b m kg6b) := cell_later hc (by simp [go_sem])
    have cg02 : w7.cell? ⟨w6.heap.size, 2, none⟩ = some (.int .i64 ru) := cell_later hc (by simp [go_sem])
    have cg03 : w7.cell? ⟨w6.heap.size, 3, none⟩ = some (.int .i64 rz) := cell_later hc (by simp [go_sem])
    have cg04 : w7.cell? ⟨w6.heap.size, 4, none⟩ = some (.slice ag6 nq kg6) := cell_later hc (by simp [go_sem])
    have zg0 : w6.heap.size < w7.heap.size := by omega
    replace rg3b := rg3b.below bq
    replace rg3 := rg3.below bq
    replace rt4 := rt4.below bq
    replace rt5 := rt5.below bq
    replace rg6b := rg6b.below bq
    replace rg6 := rg6.below bq
    replace hb := hb.trans (bq.mono hb.size)
    clear hc bq bp hbt
    go_wp2_with fail
    have bd : Below w7.heap.size w7 w7.drew := (Below.refl _ _).drew
    refine wp_region_held_drew (S := fun w' => w'.cell? ⟨w4.heap.size, 0, none⟩ = some (.int .i64 u0) ∧ w'.cell? ⟨w4.heap.size, 1, none⟩ = some (.int .i64 z0) ∧ w'.cell? ⟨w4.heap.size, 2, none⟩ = some (.slice at4 n0 kt4) ∧ w'.cell? ⟨w.heap.size, 0, none⟩ = some (.int .i64 u0) ∧ w'.cell? ⟨w.heap.size, 1, none⟩ = some (.int .i64 z0) ∧ w'.cell? ⟨w.heap.size, 2, none⟩ = some (.slice a0 n0 ca0)) (by kernel_rfl) (by exact ⟨cx00, cx01, cx02, caC0, caC1, caC2⟩) (fun hS => ?_)
    refine wpAnyH_take (i := 0) (v := (.agg #[.int .i64 u0, .int .i64 z0, .slice at4 n0 kt4])) rfl (by kernel_rfl) (by kernel_rfl) (by kernel_rfl) (fun _ _ _ h => h) (Or.inl ⟨by kernel_rfl, ?_⟩) hS ?_
    · intro w hSw; (try dsimp only at hSw); go_simp
    simp only [Act.put, List.getElem_toArray, List.getElem_cons_zero, List.getElem_cons_succ, List.setIfInBounds_toArray, List.set_cons_zero, List.set_cons_succ]
    refine wpAnyH_take (i := 1) (v := (.agg #[.int .i64 u0, .int .i64 z0, .slice a0 n0 ca0])) rfl (by kernel_rfl) (by kernel_rfl) (by kernel_rfl) (fun _ _ _ h => h) (Or.inl ⟨by kernel_rfl, ?_⟩) hS ?_
    · intro w hSw; (try dsimp only at hSw); go_simp
    simp only [Act.put, List.getElem_toArray, List.getElem_cons_zero, List.getElem_cons_succ, List.setIfInBounds_toArray, List.set_cons_zero, List.set_cons_succ]
    refine wpAnyH_ready (rs := [2]) (by kernel_rfl) (by simp) ?_
    refine AllReadyH.cons rfl (fun K hK => ?_) AllReadyH.nil
    go_simp
    refine Calls.mono (toCache_any u0 z0 a0 n0 ca0 bs0 _ (hr0.below hb.drew) (by omega)) ?_
    rintro e w8 ⟨vt8, rfl, rt8, hc0⟩
    obtain ⟨at8, kt8, rfl, q1, q2⟩ := rt8.shape
    have Kt8 : Hid _ := And.intro q1 q2
    clear q1 q2
    replace rt8 := RowB.mono (lo' := w7.heap.size) rt8 (Nat.le_refl _) (Nat.le_refl _)
    refine hK.out _ _ ⟨cell_later hc0 hS.1, cell_later hc0 hS.2.1, cell_later hc0 hS.2.2.1, cell_later hc0 hS.2.2.2.1, cell_later hc0 hS.2.2.2.2.1, cell_later hc0 hS.2.2.2.2.2⟩ (fun hS => ?_)
    clear hK K
    have hc : Below w7.heap.size w7 w8 := bd.trans (hc0.mono (Nat.le_refl _))
    clear hc0 bd
    have s8 : w7.heap.size ≤ w8.heap.size := hc.size
    have bq := hc
    replace caC0 := cell_later bq caC0
    replace caC1 := cell_later bq caC1
    replace caC2 := cell_later bq caC2
    replace zaC := Nat.lt_of_lt_of_le zaC bq.size
    replace caF0 := cell_later bq caF0
    replace zaF := Nat.lt_of_lt_of_le zaF bq.size
    replace cw00 := cell_later bq cw00
    replace cw01 := cell_later bq cw01
    replace cw02 := cell_later bq cw02
    replace cw03 := cell_later bq cw03
    replace cw04 := cell_later bq cw04
    replace zw0 := Nat.lt_of_lt_of_le zw0 bq.size
    replace cx00 := cell_later bq cx00
    replace cx01 := cell_later bq cx01
    replace cx02 := cell_later bq cx02
    replace zx0 := Nat.lt_of_lt_of_le zx0 bq.size
    replace cx10 := cell_later bq cx10
    replace zx1 := Nat.lt_of_lt_of_le zx1 bq.size
    replace cg00 := cell_later bq cg00
    replace cg01 := cell_later bq cg01
    replace cg02 := cell_later bq cg02
    replace cg03 := cell_later bq cg03
    replace cg04 := cell_later bq cg04
    replace zg0 := Nat.lt_of_lt_of_le zg0 bq.size
    replace rg3b := rg3b.below bq
    replace rg3 := rg3.below bq
    replace rt4 := rt4.below bq
    replace rt5 := rt5.below bq
    replace rg6b := rg6b.below bq
    replace rg6 := rg6.below bq
    replace hb := hb.trans (bq.mono hb.size)
    clear hc bq
    refine wpAnyH_ready (rs := [3]) (by kernel_rfl) (by simp) ?_
    refine AllReadyH.cons rfl (fun K hK => ?_) AllReadyH.nil
    go_simp
    refine Calls.mono (eqCache_yes u0 z0 at4 at8 n0 kt4 kt8 bs0 _ rt4.read rt8.read (by omega)) ?_
    rintro e w9 ⟨rfl, hc0⟩
    refine hK.out _ _ ⟨cell_later hc0 hS.1, cell_later hc0 hS.2.1, cell_later hc0 hS.2.2.1, cell_later hc0 hS.2.2.2.1, cell_later hc0 hS.2.2.2.2.1, cell_later hc0 hS.2.2.2.2.2⟩ (fun hS => ?_)
    clear hK K
    have hc := hc0
    clear hc0
    have s9 : w8.heap.size ≤ w9.heap.size := hc.size
    have bq := hc
    replace caC0 := cell_later bq caC0
    replace caC1 := cell_later bq caC1
    replace caC2 := cell_later bq caC2
    replace zaC := Nat.lt_of_lt_of_le zaC bq.size
    replace caF0 := cell_later bq caF0
    replace zaF := Nat.lt_of_lt_of_le zaF bq.size
    replace cw00 := cell_later bq cw00
    replace cw01 := cell_later bq cw01
    replace cw02 := cell_later bq cw02
    replace cw03 := cell_later bq cw03
    replace cw04 := cell_later bq cw04
    replace zw0 := Nat.lt_of_lt_of_le zw0 bq.size
    replace cx00 := cell_later bq cx00
    replace cx01 := cell_later bq cx01
    replace cx02 := cell_later bq cx02
    replace zx0 := Nat.lt_of_lt_of_le zx0 bq.size
    replace cx10 := cell_later bq cx10
    replace zx1 := Nat.lt_of_lt_of_le zx1 bq.size
    replace cg00 := cell_later bq cg00
    replace cg01 := cell_later bq cg01
    replace cg02 := cell_later bq cg02
    replace cg03 := cell_later bq cg03
    replace cg04 := cell_later bq cg04
    replace zg0 := Nat.lt_of_lt_of_le zg0 bq.size
    replace rg3b := rg3b.below bq
    replace rg3 := rg3.below bq
    replace rt4 := rt4.below bq
    replace rt5 := rt5.below bq
    replace rg6b := rg6b.below bq
    replace rg6 := rg6.below bq
    replace rt8 := rt8.below bq
    replace hb := hb.trans (bq.mono hb.size)
    clear hc bq
    clear rt8 Kt8
    refine wpAnyH_take (i := 4) (v := (.bool false)) rfl (by kernel_rfl) (by kernel_rfl) (by kernel_rfl) (fun _ _ _ h => h) (Or.inl ⟨by kernel_rfl, ?_⟩) hS ?_
    · intro w hSw; (try dsimp only at hSw); go_simp
    simp only [Act.put, List.getElem_toArray, List.getElem_cons_zero, List.getElem_cons_succ, List.setIfInBounds_toArray, List.set_cons_zero, List.set_cons_succ]
    refine wpAnyH_done (by kernel_rfl) ?_ _
    clear hS
    go_wp2_with fail
    have bd : Below w9.heap.size w9 w9.drew := (Below.refl _ _).drew
    refine wp_region_held_drew (S := fun w' => w'.cell? ⟨w5.heap.size, 0, none⟩ = some (.slice at5 n1 kt5) ∧ w'.cell? ⟨w.heap.size + 1, 0, none⟩ = some (.slice a1 n1 ca1)) (by kernel_rfl) (by exact ⟨cx10, caF0⟩) (fun hS => ?_)
    refine wpAnyH_take (i := 0) (v := (.agg #[.slice at5 n1 kt5])) rfl (by kernel_rfl) (by kernel_rfl) (by kernel_rfl) (fun _ _ _ h => h) (Or.inl ⟨by kernel_rfl, ?_⟩) hS ?_
    · intro w hSw; (try dsimp only at hSw); go_simp
    simp only [Act.put, List.getElem_toArray, List.getElem_cons_zero, List.getElem_cons_succ, List.setIfInBounds_toArray, List.set_cons_zero, List.set_cons_succ]
    refine wpAnyH_take (i := 1) (v := (.agg #[.slice a1 n1 ca1])) rfl (by kernel_rfl) (by kernel_rfl) (by kernel_rfl) (fun _ _ _ h => h) (Or.inl ⟨by kernel_rfl, ?_⟩) hS ?_
    · intro w hSw; (try dsimp only at hSw); go_simp
    simp only [Act.put, List.getElem_toArray, List.getElem_cons_zero, List.getElem_cons_succ, List.setIfInBounds_toArray, List.set_cons_zero, List.set_cons_succ]
    refine wpAnyH_ready (rs := [2]) (by kernel_rfl) (by simp) ?_
    refine AllReadyH.cons rfl (fun K hK => ?_) AllReadyH.nil
    go_simp
    refine Calls.mono (toFile_any a1 n1 ca1 xs1 _ (hr1.below hb.drew) (by omega)) ?_
    rintro e w10 ⟨vt10, rfl, rt10, hc0⟩
    obtain ⟨at10, kt10, rfl, q1, q2⟩ := rt10.shape
    have Kt10 : Hid _ := And.intro q1 q2
    clear q1 q2
    replace rt10 := RowI.mono (lo' := w9.heap.size) rt10 (Nat.le_refl _) (Nat.le_refl _)
    refine hK.out _ _ ⟨cell_later hc0 hS.1, cell_later hc0 hS.2⟩ (fun hS => ?_)
    clear hK K
    have hc : Below w9.heap.size w9 w10 := bd.trans (hc0.mono (Nat.le_refl _))
    clear hc0 bd
    have s10 : w9.heap.size ≤ w10.heap.size := hc.size
    have bq := hc
    replace caC0 := cell_later bq caC0
    replace caC1 := cell_later bq caC1
    replace caC2 := cell_later bq caC2
    replace zaC := Nat.lt_of_lt_of_le zaC bq.size
    replace caF0 := cell_later bq caF0
    replace zaF := Nat.lt_of_lt_of_le zaF bq.size
    replace cw00 := cell_later bq cw00
    replace cw01 := cell_later bq cw01
    replace cw02 := cell_later bq cw02
    replace cw03 := cell_later bq cw03
    replace cw04 := cell_later bq cw04
    replace zw0 := Nat.lt_of_lt_of_le zw0 bq.size
    replace cx00 := cell_later bq cx00
    replace cx01 := cell_later bq cx01
    replace cx02 := cell_later bq cx02
    replace zx0 := Nat.lt_of_lt_of_le zx0 bq.size
    replace cx10 := cell_later bq cx10
    replace zx1 := Nat.lt_of_lt_of_le zx1 bq.size
    replace cg00 := cell_later bq cg00
    replace cg01 := cell_later bq cg01
    replace cg02 := cell_later bq cg02
    replace cg03 := cell_later bq cg03
    replace cg04 := cell_later bq cg04
    replace zg0 := Nat.lt_of_lt_of_le zg0 bq.size
    replace rg3b := rg3b.below bq
    replace rg3 := rg3.below bq
    replace rt4 := rt4.below bq
    replace rt5 := rt5.below bq
    replace rg6b := rg6b.below bq
    replace rg6 := rg6.below bq
    replace hb := hb.trans (bq.mono hb.size)
    clear hc bq
    refine wpAnyH_ready (rs := [3]) (by kernel_rfl) (by simp) ?_
    refine AllReadyH.cons rfl (fun K hK => ?_) AllReadyH.nil
    go_simp
    refine Calls.mono (eqFile_yes at5 at10 n1 kt5 kt10 xs1 _ rt5.read rt10.read (by unfold maxLen; omega)) ?_
    rintro e w11 ⟨rfl, hc0⟩
    refine hK.out _ _ ⟨cell_later hc0 hS.1, cell_later hc0 hS.2⟩ (fun hS => ?_)
    clear hK K
    have hc := hc0
    clear hc0
    have s11 : w10.heap.size ≤ w11.heap.size := hc.size
    have bq := hc
    replace caC0 := cell_later bq caC0
    replace caC1 := cell_later bq caC1
    replace caC2 := cell_later bq caC2
    replace zaC := Nat.lt_of_lt_of_le zaC bq.size
    replace caF0 := cell_later bq caF0
    replace zaF := Nat.lt_of_lt_of_le zaF bq.size
    replace cw00 := cell_later bq cw00
    replace cw01 := cell_later bq cw01
    replace cw02 := cell_later bq cw02
    replace cw03 := cell_later bq cw03
    replace cw04 := cell_later bq cw04
    replace zw0 := Nat.lt_of_lt_of_le zw0 bq.size
    replace cx00 := cell_later bq cx00
    replace cx01 := cell_later bq cx01
    replace cx02 := cell_later bq cx02
    replace zx0 := Nat.lt_of_lt_of_le zx0 bq.size
    replace cx10 := cell_later bq cx10
    replace zx1 := Nat.lt_of_lt_of_le zx1 bq.size
    replace cg00 := cell_later bq cg00
    replace cg01 := cell_later bq cg01
    replace cg02 := cell_later bq cg02
    replace cg03 := cell_later bq cg03
    replace cg04 := cell_later bq cg04
    replace zg0 := Nat.lt_of_lt_of_le zg0 bq.size
    replace rg3b := rg3b.below bq
    replace rg3 := rg3.below bq
    replace rt4 := rt4.below bq
    replace rt5 := rt5.below bq
    replace rg6b := rg6b.below bq
    replace rg6 := rg6.below bq
    replace rt10 := rt10.below bq
    replace hb := hb.trans (bq.mono hb.size)
    clear hc bq
    clear rt10 Kt10
    refine wpAnyH_take (i := 4) (v := (.bool false)) rfl (by kernel_rfl) (by kernel_rfl) (by kernel_rfl) (fun _ _ _ h => h) (Or.inl ⟨by kernel_rfl, ?_⟩) hS ?_
    · intro w hSw; (try dsimp only at hSw); go_simp
    simp only [Act.put, List.getElem_toArray, List.getElem_cons_zero, List.getElem_cons_succ, List.setIfInBounds_toArray, List.set_cons_zero, List.set_cons_succ]
    refine wpAnyH_done (by kernel_rfl) ?_ _
    clear hS
    go_wp2_with fail
    refine Calls.mono (markCache_row u0 z0 1 _ n0 _ _ bs0 _ rt4 (by omega) (by omega) (by omega)) ?_
    clear rt4
    rintro e w12 ⟨rfl, rt4, hc⟩
    have s12 : w11.heap.size ≤ w12.heap.size := hc.size
    have cq := hc
    replace caC0 := cq.at caC0 zaC (by omega)
    replace caC1 := cq.at caC1 zaC (by omega)
    replace caC2 := cq.at caC2 zaC (by omega)
    replace zaC := Nat.lt_of_lt_of_le zaC cq.size
    replace caF0 := cq.at caF0 zaF (by omega)
    replace zaF := Nat.lt_of_lt_of_le zaF cq.size
    replace cw00 := cq.at cw00 zw0 (by omega)
    replace cw01 := cq.at cw01 zw0 (by omega)
    replace cw02 := cq.at cw02 zw0 (by omega)
    replace cw03 := cq.at cw03 zw0 (by omega)
    replace cw04 := cq.at cw04 zw0 (by omega)
    replace zw0 := Nat.lt_of_lt_of_le zw0 cq.size
    replace cx00 := cq.at cx00 zx0 (by omega)
    replace cx01 := cq.at cx01 zx0 (by omega)
    replace cx02 := cq.at cx02 zx0 (by omega)
    replace zx0 := Nat.lt_of_lt_of_le zx0 cq.size
    replace cx10 := cq.at cx10 zx1 (by omega)
    replace zx1 := Nat.lt_of_lt_of_le zx1 cq.size
    replace cg00 := cq.at cg00 zg0 (by omega)
    replace cg01 := cq.at cg01 zg0 (by omega)
    replace cg02 := cq.at cg02 zg0 (by omega)
    replace cg03 := cq.at cg03 zg0 (by omega)
    replace cg04 := cq.at cg04 zg0 (by omega)
    replace zg0 := Nat.lt_of_lt_of_le zg0 cq.size
    replace rg3b := rg3b.chg cq (by omega)
    replace rg3 := rg3.chg cq (by omega)
    replace rt5 := rt5.chg cq (by omega)
    replace rg6b := rg6b.chg cq (by omega)
    replace rg6 := rg6.chg cq (by omega)
    replace hb := below_chg hb cq hb.size (by omega)
    clear hc cq
    have hk12 : ¬ (1 + ((n0 : Int) + (byB bs0 : Int))) < 0 := by omega
    go_wp2_with fail
    refine Calls.mono (markFile_row (1 + ((n0 : Int) + (byB bs0 : Int))) _ n1 _ _ xs1 _ rt5 (by omega) (by omega) (by omega)) ?_
    clear rt5
    rintro e w13 ⟨rfl, rt5, hc⟩
    have s13 : w12.heap.size ≤ w13.heap.size := hc.size
    have cq := hc
    replace caC0 := cq.at caC0 zaC (by omega)
    replace caC1 := cq.at caC1 zaC (by omega)
    replace caC2 := cq.at caC2 zaC (by omega)
    replace zaC := Nat.lt_of_lt_of_le zaC cq.size
    replace caF0 := cq.at caF0 zaF (by omega)
    replace zaF := Nat.lt_of_lt_of_le zaF cq.size
    replace cw00 := cq.at cw00 zw0 (by omega)
    replace cw01 := cq.at cw01 zw0 (by omega)
    replace cw02 := cq.at cw02 zw0 (by omega)
    replace cw03 := cq.at cw03 zw0 (by omega)
    replace cw04 := cq.at cw04 zw0 (by omega)
    replace zw0 := Nat.lt_of_lt_of_le zw0 cq.size
    replace cx00 := cq.at cx00 zx0 (by omega)
    replace cx01 := cq.at cx01 zx0 (by omega)
    replace cx02 := cq.at cx02 zx0 (by omega)
    replace zx0 := Nat.lt_of_lt_of_le zx0 cq.size
    replace cx10 := cq.at cx10 zx1 (by omega)
    replace zx1 := Nat.lt_of_lt_of_le zx1 cq.size
    replace cg00 := cq.at cg00 zg0 (by omega)
    replace cg01 := cq.at cg01 zg0 (by omega)
    replace cg02 := cq.at cg02 zg0 (by omega)
    replace cg03 := cq.at cg03 zg0 (by omega)
    replace cg04 := cq.at cg04 zg0 (by omega)
    replace zg0 := Nat.lt_of_lt_of_le zg0 cq.size
    replace rg3b := rg3b.chg cq (by omega)
    replace rg3 := rg3.chg cq (by omega)
    replace rt4 := rt4.chg cq (by omega)
    replace rg6b := rg6b.chg cq (by omega)
    replace rg6 := rg6.chg cq (by omega)
    replace hb := below_chg hb cq hb.size (by omega)
    clear hc cq
    have hk13 : ¬ ((1 + ((n0 : Int) + (byB bs0 : Int))) + (n1 : Int)) < 0 := by omega
    go_wp2_with fail
    refine Calls.mono (eqCacheResult_yes cd ru rz ag6b ag3b m kg6b kg3b rs ag6 ag3 nq kg6 kg3 qs _ rg6b.read rg3b.read rg6.read rg3.read (by omega) (by omega)) ?_
    rintro e w14 ⟨rfl, hc⟩
    have s14 : w13.heap.size ≤ w14.heap.size := hc.size
    have bq := hc
    replace caC0 := cell_later bq caC0
    replace caC1 := cell_later bq caC1
    replace caC2 := cell_later bq caC2
    replace zaC := Nat.lt_of_lt_of_le zaC bq.size
    replace caF0 := cell_later bq caF0
    replace zaF := Nat.lt_of_lt_of_le zaF bq.size
    replace cw00 := cell_later bq cw00
    replace cw01 := cell_later bq cw01
    replace cw02 := cell_later bq cw02
    replace cw03 := cell_later bq cw03
    replace cw04 := cell_later bq cw04
    replace zw0 := Nat.lt_of_lt_of_le zw0 bq.size
    replace cx00 := cell_later bq cx00
    replace cx01 := cell_later bq cx01
    replace cx02 := cell_later bq cx02
    replace zx0 := Nat.lt_of_lt_of_le zx0 bq.size
    replace cx10 := cell_later bq cx10
    replace zx1 := Nat.lt_of_lt_of_le zx1 bq.size
    replace cg00 := cell_later bq cg00
    replace cg01 := cell_later bq cg01
    replace cg02 := cell_later bq cg02
    replace cg03 := cell_later bq cg03
    replace cg04 := cell_later bq cg04
    replace zg0 := Nat.lt_of_lt_of_le zg0 bq.size
    replace rg3b := rg3b.below bq
    replace rg3 := rg3.below bq
    replace rt4 := rt4.below bq
    replace rt5 := rt5.below bq
    replace rg6b := rg6b.below bq
    replace rg6 := rg6.below bq
    replace hb := hb.trans (bq.mono hb.size)
    clear hc bq
    go_wp2_with fail
    refine Calls.mono (markCacheResult_row cd ru rz 1 _ _ m nq _ _ _ rs qs _ rg6b rg6 (by omega) (by omega) (by first | omega | (simp; omega)) (by omega) (by omega) (by omega) (by omega)) ?_
    clear rg6b rg6
    rintro e w15 ⟨rfl, rg6b, rg6, hc⟩
    have s15 : w14.heap.size ≤ w15.heap.size := hc.size
    have cq := hc
    replace caC0 := cq.at caC0 zaC (by omega)
    replace caC1 := cq.at caC1 zaC (by omega)
    replace caC2 := cq.at caC2 zaC (by omega)
    replace zaC := Nat.lt_of_lt_of_le zaC cq.size
    replace caF0 := cq.at caF0 zaF (by omega)
    replace zaF := Nat.lt_of_lt_of_le zaF cq.size
    replace cw00 := cq.at cw00 zw0 (by omega)
    replace cw01 := cq.at cw01 zw0 (by omega)
    replace cw02 := cq.at cw02 zw0 (by omega)
    replace cw03 := cq.at cw03 zw0 (by omega)
    replace cw04 := cq.at cw04 zw0 (by omega)
    replace zw0 := Nat.lt_of_lt_of_le zw0 cq.size
    replace cx00 := cq.at cx00 zx0 (by omega)
    replace cx01 := cq.at cx01 zx0 (by omega)
    replace cx02 := cq.at cx02 zx0 (by omega)
    replace zx0 := Nat.lt_of_lt_of_le zx0 cq.size
    replace cx10 := cq.at cx10 zx1 (by omega)
    replace zx1 := Nat.lt_of_lt_of_le zx1 cq.size
    replace cg00 := cq.at cg00 zg0 (by omega)
    replace cg01 := cq.at cg01 zg0 (by omega)
    replace cg02 := cq.at cg02 zg0 (by omega)
    replace cg03 := cq.at cg03 zg0 (by omega)
    replace cg04 := cq.at cg04 zg0 (by omega)
    replace zg0 := Nat.lt_of_lt_of_le zg0 cq.size
    replace rg3b := rg3b.chg cq (by omega)
    replace rg3 := rg3.chg cq (by omega)
    replace rt4 := rt4.chg cq (by omega)
    replace rt5 := rt5.chg cq (by omega)
    replace hb := below_chg hb cq hb.size (by omega)
    clear hc cq
    have hk15 : ¬ (1 + ((m : Int) + ((nq : Int) + (byB qs : Int)))) < 0 := by omega
    go_wp2_with fail
    refine Calls.mono (heldCacheResult_yes cd ru rz 1 ag6b m kg6b ag6 nq kg6 qs _ rg6b.read rg6.read (by omega) (by omega) (by omega) (by omega)) ?_
    rintro e w16 ⟨rfl, hc⟩
    have s16 : w15.heap.size ≤ w16.heap.size := hc.size
    have bq := hc
    replace caC0 := cell_later bq caC0
    replace caC1 := cell_later bq caC1
    replace caC2 := cell_later bq caC2
    replace zaC := Nat.lt_of_lt_of_le zaC bq.size
    replace caF0 := cell_later bq caF0
    replace zaF := Nat.lt_of_lt_of_le zaF bq.size
    replace cw00 := cell_later bq cw00
    replace cw01 := cell_later bq cw01
    replace cw02 := cell_later bq cw02
    replace cw03 := cell_later bq cw03
    replace cw04 := cell_later bq cw04
    replace zw0 := Nat.lt_of_lt_of_le zw0 bq.size
    replace cx00 := cell_later bq cx00
    replace cx01 := cell_later bq cx01
    replace cx02 := cell_later bq cx02
    replace zx0 := Nat.lt_of_lt_of_le zx0 bq.size
    replace cx10 := cell_later bq cx10
    replace zx1 := Nat.lt_of_lt_of_le zx1 bq.size
    replace cg00 := cell_later bq cg00
    replace cg01 := cell_later bq cg01
    replace cg02 := cell_later bq cg02
    replace cg03 := cell_later bq cg03
    replace cg04 := cell_later bq cg04
    replace zg0 := Nat.lt_of_lt_of_le zg0 bq.size
    replace rg3b := rg3b.below bq
    replace rg3 := rg3.below bq
    replace rt4 := rt4.below bq
    replace rt5 := rt5.below bq
    replace rg6b := rg6b.below bq
    replace rg6 := rg6.below bq
    replace hb := hb.trans (bq.mono hb.size)
    clear hc bq
    go_wp2_with fail
    refine region_join (fun a a' w' => ∃ (B lo hi : Nat) (vb v v0 v1 : Value), a' = (((((((((a.put (some 87) (.agg #[.int .i64 u0, .int .i64 z0, .slice a0 n0 ca0])).put (some 89) (.agg #[.slice a1 n1 ca1])).put (some 91) (.int .i64 I2)).put (some 92) (.int .i64 I3)).put (some 93) (.int .i64 I4)).put (some 88) v0).put (some 90) v1).put (some 94) (.agg #[.int .i64 cd, vb, .int .i64 ru, .int .i64 rz, v])).put (some 19) (.pointer (some ⟨B, 0, none⟩))) ∧ Below w16.heap.size w16 w' ∧ w16.heap.size ≤ B ∧ B < w'.heap.size ∧ w16.heap.size ≤ lo ∧ hi ≤ w'.heap.size ∧ (B < lo ∨ hi ≤ B) ∧ RowI .u8 5 w' lo hi vb m rs ∧ RowB 93 5 w' lo hi v nq qs ∧ w'.cell? ⟨B, 0, none⟩ = some (.int .i64 cd) ∧ w'.cell? ⟨B, 1, none⟩ = some (vb) ∧ w'.cell? ⟨B, 2, none⟩ = some (.int .i64 ru) ∧ w'.cell? ⟨B, 3, none⟩ = some (.int .i64 rz) ∧ w'.cell? ⟨B, 4, none⟩ = some (v)) ?_ ?_
    · skip
      refine wp_region_held_drew (S := fun w' => Below w16.heap.size w16 w') (by kernel_rfl) (Below.refl _ _).drew (fun hS => ?_)
      have hdz : w16.drew.heap.size = w16.heap.size := rfl
      refine wpAnyH_take (i := 0) (v := (.agg #[.int .i64 u0, .int .i64 z0, .slice a0 n0 ca0])) rfl (by kernel_rfl) (by kernel_rfl) (by kernel_rfl) (fun _ _ _ h => nomatch h.1) (Or.inl ⟨by kernel_rfl, ?_⟩) hS ?_
      · intro w hSw; (try dsimp only at hSw); have hl0 := cell_later hSw caC0; have hl1 := cell_later hSw caC1; have hl2 := cell_later hSw caC2; go_simp
      (try simp only [Act.put, List.getElem_toArray, List.getElem_cons_zero, List.getElem_cons_succ, List.setIfInBounds_toArray, List.set_cons_zero, List.set_cons_succ])
      refine wpAnyH_take (i := 2) (v := (.agg #[.slice a1 n1 ca1])) rfl (by kernel_rfl) (by kernel_rfl) (by kernel_rfl) (fun _ _ _ h => nomatch h.1) (Or.inl ⟨by kernel_rfl, ?_⟩) hS ?_
      · intro w hSw; (try dsimp only at hSw); have hl0 := cell_later hSw caF0; go_simp
      (try simp only [Act.put, List.getElem_toArray, List.getElem_cons_zero, List.getElem_cons_succ, List.setIfInBounds_toArray, List.set_cons_zero, List.set_cons_succ])
      refine wpAnyH_take (i := 4) (v := (.int .i64 I2)) rfl (by kernel_rfl) (by kernel_rfl) (by kernel_rfl) (fun _ _ _ h => nomatch h.1) (Or.inl ⟨by kernel_rfl, ?_⟩) hS ?_
      · intro w hSw; (try dsimp only at hSw); go_simp
      (try simp only [Act.put, List.getElem_toArray, List.getElem_cons_zero, List.getElem_cons_succ, List.setIfInBounds_toArray, List.set_cons_zero, List.set_cons_succ])
      refine wpAnyH_take (i := 5) (v := (.int .i64 I3)) rfl (by kernel_rfl) (by kernel_rfl) (by kernel_rfl) (fun _ _ _ h => nomatch h.1) (Or.inl ⟨by kernel_rfl, ?_⟩) hS ?_
      · intro w hSw; (try dsimp only at hSw); go_simp
      (try simp only [Act.put, List.getElem_toArray, List.getElem_cons_zero, List.getElem_cons_succ, List.setIfInBounds_toArray, List.set_cons_zero, List.set_cons_succ])
      refine wpAnyH_take (i := 6) (v := (.int .i64 I4)) rfl (by kernel_rfl) (by kernel_rfl) (by kernel_rfl) (fun _ _ _ h => nomatch h.1) (Or.inl ⟨by kernel_rfl, ?_⟩) hS ?_
      · intro w hSw; (try dsimp only at hSw); go_simp
      (try simp only [Act.put, List.getElem_toArray, List.getElem_cons_zero, List.getElem_cons_succ, List.setIfInBounds_toArray, List.set_cons_zero, List.set_cons_succ])
      refine wpAnyH_ready (rs := [1, 8]) (by as_aux_lemma => kernel_rfl) (by simp) ?_
      refine AllReadyH.cons rfl (fun K hK => ?_) (AllReadyH.cons rfl (fun K hK => ?_) AllReadyH.nil)
      · skip
        go_simp
        refine Calls.mono (toCache_any u0 z0 a0 n0 ca0 bs0 _ (hr0.below (hb.trans (hS.mono hb.size))) (by omega)) ?_
        rintro e y0 ⟨x0, rfl, q0, hc⟩
        obtain ⟨ax0, kx0, rfl, g1, g2⟩ := q0.shape
        have KQ0 : Hid _ := And.intro g1 g2
        clear g1 g2
        have sz0 := hc.size
        refine hK.out _ _ (hS.trans (hc.mono hS.size)) (fun hS => ?_)
        clear hK K
        (try simp only [Act.put, List.getElem_toArray, List.getElem_cons_zero, List.getElem_cons_succ, List.setIfInBounds_toArray, List.set_cons_zero, List.set_cons_succ])
        clear hc
        refine wpAnyH_ready (rs := [3, 8]) (by as_aux_lemma => kernel_rfl) (by simp) ?_
        refine AllReadyH.cons rfl (fun K hK => ?_) (AllReadyH.cons rfl (fun K hK => ?_) AllReadyH.nil)
        · skip
          go_simp
          refine Calls.mono (toFile_any a1 n1 ca1 xs1 _ (hr1.below (hb.trans (hS.mono hb.size))) (by omega)) ?_
          rintro e y1 ⟨x1, rfl, q1, hc⟩
          obtain ⟨ax1, kx1, rfl, g1, g2⟩ := q1.shape
          have KQ1 : Hid _ := And.intro g1 g2
          clear g1 g2
          replace q0 := q0.below hc
          have sz1 := hc.size
          refine hK.out _ _ (hS.trans (hc.mono hS.size)) (fun hS => ?_)
          clear hK K
          (try simp only [Act.put, List.getElem_toArray, List.getElem_cons_zero, List.getElem_cons_succ, List.setIfInBounds_toArray, List.set_cons_zero, List.set_cons_succ])
          clear hc
          refine wpAnyH_ready (rs := [7, 8]) (by as_aux_lemma => kernel_rfl) (by simp) ?_
          refine AllReadyH.cons rfl (fun K hK => ?_) (AllReadyH.cons rfl (fun K hK => ?_) AllReadyH.nil)
          · skip
            go_simp
            refine Calls.mono (HIC.out ax0 kx0 ax1 kx1 _ q0.read KQ0.out.1 KQ0.out.2 q1.read KQ1.out.1 KQ1.out.2) ?_
            rintro e y2 ⟨xb, x2, md, rfl, g1, g2, qb, q2, hc⟩
            replace qb := RowI.mono qb (Nat.le_refl _) g2
            replace q2 := RowB.mono q2 g1 (Nat.le_refl _)
            clear g1 g2
            obtain ⟨axb, kxb, rfl, -⟩ := qb.shape
            obtain ⟨ax2, kx2, rfl, -⟩ := q2.shape
            replace q0 := q0.below hc
            replace q1 := q1.below hc
            have sz2 := hc.size
            refine hK.out _ _ (hS.trans (hc.mono hS.size)) (fun hS => ?_)
            clear hK K
            (try simp only [Act.put, List.getElem_toArray, List.getElem_cons_zero, List.getElem_cons_succ, List.setIfInBounds_toArray, List.set_cons_zero, List.set_cons_succ])
            clear hc
            refine wpAnyH_ready (rs := [8]) (by as_aux_lemma => kernel_rfl) (by simp) ?_
            refine AllReadyH.cons rfl (fun K hK => ?_) AllReadyH.nil
            go_simp
            refine hK.out _ _ (hS.alloc hS.size _) (fun hS => ?_)
            clear hK K
            (try simp only [Act.put, List.getElem_toArray, List.getElem_cons_zero, List.getElem_cons_succ, List.setIfInBounds_toArray, List.set_cons_zero, List.set_cons_succ])
            have NB : Below y2.heap.size y2 (y2.alloc (.cells #[.int .i64 0, .slice none 0 0, .int .i64 0, .int .i64 0, .slice none 0 0] 32)) := (Below.refl _ _).alloc (Nat.le_refl _) _
            have hB := Blk.new y2 #[.int .i64 0, .slice none 0 0, .int .i64 0, .int .i64 0, .slice none 0 0] 32
            replace q0 := q0.below NB
            replace q1 := q1.below NB
            replace qb := qb.below NB
            replace q2 := q2.below NB
            have szA := NB.size
            have ltA := hB.lt
            clear NB
            generalize y2.alloc (.cells #[.int .i64 0, .slice none 0 0, .int .i64 0, .int .i64 0, .slice none 0 0] 32) = yA at *
            have d0 : yA.cell? ⟨y2.heap.size, 0, none⟩ = some (.int .i64 0) := hB.cell 0
            have df0 := hB.frozen 0
            have d1 : yA.cell? ⟨y2.heap.size, 1, none⟩ = some (.slice none 0 0) := hB.cell 1
            have df1 := hB.frozen 1
            have d2 : yA.cell? ⟨y2.heap.size, 2, none⟩ = some (.int .i64 0) := hB.cell 2
            have df2 := hB.frozen 2
            have d3 : yA.cell? ⟨y2.heap.size, 3, none⟩ = some (.int .i64 0) := hB.cell 3
            have df3 := hB.frozen 3
            have d4 : yA.cell? ⟨y2.heap.size, 4, none⟩ = some (.slice none 0 0) := hB.cell 4
            have df4 := hB.frozen 4
            refine wpAnyH_ready (rs := [9]) (by as_aux_lemma => kernel_rfl) (by simp) ?_
            refine AllReadyH.cons rfl (fun K hK => ?_) AllReadyH.nil
            have HBB := hid hB
            clear hB
            go_simp
            have hWs : w16.heap.size ≤ y2.heap.size := by have := hS.size; omega
            refine hK.out _ _ ((((((hS.setCell hWs _).setCell hWs _).setCell hWs _).setCell hWs _).setCell hWs _)) (fun hS => ?_)
            clear hK K
            (try simp only [Act.put, List.getElem_toArray, List.getElem_cons_zero, List.getElem_cons_succ, List.setIfInBounds_toArray, List.set_cons_zero, List.set_cons_succ])
            have hbl := (((((HBB.out.set (i := 0) (.int .i64 cd)).set (i := 1) (.slice axb m kxb)).set (i := 2) (.int .i64 ru)).set (i := 3) (.int .i64 rz)).set (i := 4) (.slice ax2 nq kx2))
            simp only [List.setIfInBounds_toArray, List.set_cons_zero, List.set_cons_succ] at hbl
            have hdj : y2.heap.size < y1.heap.size ∨ y2.heap.size ≤ y2.heap.size := by omega
            have hrow := (RowB.setB (RowB.setB (RowB.setB (RowB.setB (RowB.setB q2 hdj 0 (.int .i64 cd)) hdj 1 (.slice axb m kxb)) hdj 2 (.int .i64 ru)) hdj 3 (.int .i64 rz)) hdj 4 (.slice ax2 nq kx2))
            have hrowb := (RowI.setB (RowI.setB (RowI.setB (RowI.setB (RowI.setB qb hdj 0 (.int .i64 cd)) hdj 1 (.slice axb m kxb)) hdj 2 (.int .i64 ru)) hdj 3 (.int .i64 rz)) hdj 4 (.slice ax2 nq kx2))
            have hx0 := hbl.cell 0
            simp only [List.getElem?_toArray, List.getElem?_cons_zero, List.getElem?_cons_succ] at hx0
            have hx1 := hbl.cell 1
            simp only [List.getElem?_toArray, List.getElem?_cons_zero, List.getElem?_cons_succ] at hx1
            have hx2 := hbl.cell 2
            simp only [List.getElem?_toArray, List.getElem?_cons_zero, List.getElem?_cons_succ] at hx2
            have hx3 := hbl.cell 3
            simp only [List.getElem?_toArray, List.getElem?_cons_zero, List.getElem?_cons_succ] at hx3
            have hx4 := hbl.cell 4
            simp only [List.getElem?_toArray, List.getElem?_cons_zero, List.getElem?_cons_succ] at hx4
            refine wpAnyH_done (by kernel_rfl) ?_ _
            refine ⟨rfl, y2.heap.size, y1.heap.size, y2.heap.size, .slice axb m kxb, .slice ax2 nq kx2, .agg #[.int .i64 u0, .int .i64 z0, .slice ax0 n0 kx0], .agg #[.slice ax1 n1 kx1], ?_, hS, hWs, ?_, ?_, ?_, ?_, hrowb, hrow, hx0, hx1, hx2, hx3, hx4⟩
            · simp only [Act.put, List.getElem_toArray, List.getElem_cons_zero, List.getElem_cons_succ, List.setIfInBounds_toArray, List.set_cons_zero, List.set_cons_succ]
            all_goals (try simp only [size_set])
            all_goals omega
          · skip
            go_simp
            refine hK.out _ _ (hS.alloc hS.size _) (fun hS => ?_)
            clear hK K
            (try simp only [Act.put, List.getElem_toArray, List.getElem_cons_zero, List.getElem_cons_succ, List.setIfInBounds_toArray, List.set_cons_zero, List.set_cons_succ])
            have NB : Below y1.heap.size y1 (y1.alloc (.cells #[.int .i64 0, .slice none 0 0, .int .i64 0, .int .i64 0, .slice none 0 0] 32)) := (Below.refl _ _).alloc (Nat.le_refl _) _
            have hB := Blk.new y1 #[.int .i64 0, .slice none 0 0, .int .i64 0, .int .i64 0, .slice none 0 0] 32
            replace q0 := q0.below NB
            replace q1 := q1.below NB
            have szA := NB.size
            have ltA := hB.lt
            clear NB
            generalize y1.alloc (.cells #[.int .i64 0, .slice none 0 0, .int .i64 0, .int .i64 0, .slice none 0 0] 32) = yA at *
            refine wpAnyH_ready (rs := [7]) (by as_aux_lemma => kernel_rfl) (by simp) ?_
            refine AllReadyH.cons rfl (fun K hK => ?_) AllReadyH.nil
            go_simp
            refine Calls.mono (HIC.out ax0 kx0 ax1 kx1 _ q0.read KQ0.out.1 KQ0.out.2 q1.read KQ1.out.1 KQ1.out.2) ?_
            rintro e y2 ⟨xb, x2, md, rfl, g1, g2, qb, q2, hc⟩
            replace qb := RowI.mono qb (Nat.le_refl _) g2
            replace q2 := RowB.mono q2 g1 (Nat.le_refl _)
            clear g1 g2
            obtain ⟨axb, kxb, rfl, -⟩ := qb.shape
            obtain ⟨ax2, kx2, rfl, -⟩ := q2.shape
            replace q0 := q0.below hc
            replace q1 := q1.below hc
            replace hB := hB.below hc
            have sz2 := hc.size
            refine hK.out _ _ (hS.trans (hc.mono hS.size)) (fun hS => ?_)
            clear hK K
            (try simp only [Act.put, List.getElem_toArray, List.getElem_cons_zero, List.getElem_cons_succ, List.setIfInBounds_toArray, List.set_cons_zero, List.set_cons_succ])
            clear hc
            have d0 : y2.cell? ⟨y1.heap.size, 0, none⟩ = some (.int .i64 0) := hB.cell 0
            have df0 := hB.frozen 0
            have d1 : y2.cell? ⟨y1.heap.size, 1, none⟩ = some (.slice none 0 0) := hB.cell 1
            have df1 := hB.frozen 1
            have d2 : y2.cell? ⟨y1.heap.size, 2, none⟩ = some (.int .i64 0) := hB.cell 2
            have df2 := hB.frozen 2
            have d3 : y2.cell? ⟨y1.heap.size, 3, none⟩ = some (.int .i64 0) := hB.cell 3
            have df3 := hB.frozen 3
            have d4 : y2.cell? ⟨y1.heap.size, 4, none⟩ = some (.slice none 0 0) := hB.cell 4
            have df4 := hB.frozen 4
            refine wpAnyH_ready (rs := [9]) (by as_aux_lemma => kernel_rfl) (by simp) ?_
            refine AllReadyH.cons rfl (fun K hK => ?_) AllReadyH.nil
            have HBB := hid hB
            clear hB
            go_simp
            have hWs : w16.heap.size ≤ y1.heap.size := by have := hS.size; omega
            refine hK.out _ _ ((((((hS.setCell hWs _).setCell hWs _).setCell hWs _).setCell hWs _).setCell hWs _)) (fun hS => ?_)
            clear hK K
            (try simp only [Act.put, List.getElem_toArray, List.getElem_cons_zero, List.getElem_cons_succ, List.setIfInBounds_toArray, List.set_cons_zero, List.set_cons_succ])
            have hbl := (((((HBB.out.set (i := 0) (.int .i64 cd)).set (i := 1) (.slice axb m kxb)).set (i := 2) (.int .i64 ru)).set (i := 3) (.int .i64 rz)).set (i := 4) (.slice ax2 nq kx2))
            simp only [List.setIfInBounds_toArray, List.set_cons_zero, List.set_cons_succ] at hbl
            have hdj : y1.heap.size < yA.heap.size ∨ y2.heap.size ≤ y1.heap.size := by omega
            have hrow := (RowB.setB (RowB.setB (RowB.setB (RowB.setB (RowB.setB q2 hdj 0 (.int .i64 cd)) hdj 1 (.slice axb m kxb)) hdj 2 (.int .i64 ru)) hdj 3 (.int .i64 rz)) hdj 4 (.slice ax2 nq kx2))
            have hrowb := (RowI.setB (RowI.setB (RowI.setB (RowI.setB (RowI.setB qb hdj 0 (.int .i64 cd)) hdj 1 (.slice axb m kxb)) hdj 2 (.int .i64 ru)) hdj 3 (.int .i64 rz)) hdj 4 (.slice ax2 nq kx2))
            have hx0 := hbl.cell 0
            simp only [List.getElem?_toArray, List.getElem?_cons_zero, List.getElem?_cons_succ] at hx0
            have hx1 := hbl.cell 1
            simp only [List.getElem?_toArray, List.getElem?_cons_zero, List.getElem?_cons_succ] at hx1
            have hx2 := hbl.cell 2
            simp only [List.getElem?_toArray, List.getElem?_cons_zero, List.getElem?_cons_succ] at hx2
            have hx3 := hbl.cell 3
            simp only [List.getElem?_toArray, List.getElem?_cons_zero, List.getElem?_cons_succ] at hx3
            have hx4 := hbl.cell 4
            simp only [List.getElem?_toArray, List.getElem?_cons_zero, List.getElem?_cons_succ] at hx4
            refine wpAnyH_done (by kernel_rfl) ?_ _
            refine ⟨rfl, y1.heap.size, yA.heap.size, y2.heap.size, .slice axb m kxb, .slice ax2 nq kx2, .agg #[.int .i64 u0, .int .i64 z0, .slice ax0 n0 kx0], .agg #[.slice ax1 n1 kx1], ?_, hS, hWs, ?_, ?_, ?_, ?_, hrowb, hrow, hx0, hx1, hx2, hx3, hx4⟩
            · simp only [Act.put, List.getElem_toArray, List.getElem_cons_zero, List.getElem_cons_succ, List.setIfInBounds_toArray, List.set_cons_zero, List.set_cons_succ]
            all_goals (try simp only [size_set])
            all_goals omega
        · skip
          go_simp
          refine hK.out _ _ (hS.alloc hS.size _) (fun hS => ?_)
          clear hK K
          (try simp only [Act.put, List.getElem_toArray, List.getElem_cons_zero, List.getElem_cons_succ, List.setIfInBounds_toArray, List.set_cons_zero, List.set_cons_succ])
          have NB : Below y0.heap.size y0 (y0.alloc (.cells #[.int .i64 0, .slice none 0 0, .int .i64 0, .int .i64 0, .slice none 0 0] 32)) := (Below.refl _ _).alloc (Nat.le_refl _) _
          have hB := Blk.new y0 #[.int .i64 0, .slice none 0 0, .int .i64 0, .int .i64 0, .slice none 0 0] 32
          replace q0 := q0.below NB
          have szA := NB.size
          have ltA := hB.lt
          clear NB
          generalize y0.alloc (.cells #[.int .i64 0, .slice none 0 0, .int .i64 0, .int .i64 0, .slice none 0 0] 32) = yA at *
          refine wpAnyH_ready (rs := [3]) (by as_aux_lemma => kernel_rfl) (by simp) ?_
          refine AllReadyH.cons rfl (fun K hK => ?_) AllReadyH.nil
          go_simp
          refine Calls.mono (toFile_any a1 n1 ca1 xs1 _ (hr1.below (hb.trans (hS.mono hb.size))) (by omega)) ?_
          rintro e y1 ⟨x1, rfl, q1, hc⟩
          obtain ⟨ax1, kx1, rfl, g1, g2⟩ := q1.shape
          have KQ1 : Hid _ := And.intro g1 g2
          clear g1 g2
          replace q0 := q0.below hc
          replace hB := hB.below hc
          have sz1 := hc.size
          refine hK.out _ _ (hS.trans (hc.mono hS.size)) (fun hS => ?_)
          clear hK K
          (try simp only [Act.put, List.getElem_toArray, List.getElem_cons_zero, List.getElem_cons_succ, List.setIfInBounds_toArray, List.set_cons_zero, List.set_cons_succ])
          clear hc
          refine wpAnyH_ready (rs := [7]) (by as_aux_lemma => kernel_rfl) (by simp) ?_
          refine AllReadyH.cons rfl (fun K hK => ?_) AllReadyH.nil
          go_simp
          refine Calls.mono (HIC.out ax0 kx0 ax1 kx1 _ q0.read KQ0.out.1 KQ0.out.2 q1.read KQ1.out.1 KQ1.out.2) ?_
          rintro e y2 ⟨xb, x2, md, rfl, g1, g2, qb, q2, hc⟩
          replace qb := RowI.mono qb (Nat.le_refl _) g2
          replace q2 := RowB.mono q2 g1 (Nat.le_refl _)
          clear g1 g2
          obtain ⟨axb, kxb, rfl, -⟩ := qb.shape
          obtain ⟨ax2, kx2, rfl, -⟩ := q2.shape
          replace q0 := q0.below hc
          replace q1 := q1.below hc
          replace hB := hB.below hc
          have sz2 := hc.size
          refine hK.out _ _ (hS.trans (hc.mono hS.size)) (fun hS => ?_)
          clear hK K
          (try simp only [Act.put, List.getElem_toArray, List.getElem_cons_zero, List.getElem_cons_succ, List.setIfInBounds_toArray, List.set_cons_zero, List.set_cons_succ])
          clear hc
          have d0 : y2.cell? ⟨y0.heap.size, 0, none⟩ = some (.int .i64 0) := hB.cell 0
          have df0 := hB.frozen 0
          have d1 : y2.cell? ⟨y0.heap.size, 1, none⟩ = some (.slice none 0 0) := hB.cell 1
          have df1 := hB.frozen 1
          have d2 : y2.cell? ⟨y0.heap.size, 2, none⟩ = some (.int .i64 0) := hB.cell 2
          have df2 := hB.frozen 2
          have d3 : y2.cell? ⟨y0.heap.size, 3, none⟩ = some (.int .i64 0) := hB.cell 3
          have df3 := hB.frozen 3
          have d4 : y2.cell? ⟨y0.heap.size, 4, none⟩ = some (.slice none 0 0) := hB.cell 4
          have df4 := hB.frozen 4
          refine wpAnyH_ready (rs := [9]) (by as_aux_lemma => kernel_rfl) (by simp) ?_
          refine AllReadyH.cons rfl (fun K hK => ?_) AllReadyH.nil
          have HBB := hid hB
          clear hB
          go_simp
          have hWs : w16.heap.size ≤ y0.heap.size := by have := hS.size; omega
          refine hK.out _ _ ((((((hS.setCell hWs _).setCell hWs _).setCell hWs _).setCell hWs _).setCell hWs _)) (fun hS => ?_)
          clear hK K
          (try simp only [Act.put, List.getElem_toArray, List.getElem_cons_zero, List.getElem_cons_succ, List.setIfInBounds_toArray, List.set_cons_zero, List.set_cons_succ])
          have hbl := (((((HBB.out.set (i := 0) (.int .i64 cd)).set (i := 1) (.slice axb m kxb)).set (i := 2) (.int .i64 ru)).set (i := 3) (.int .i64 rz)).set (i := 4) (.slice ax2 nq kx2))
          simp only [List.setIfInBounds_toArray, List.set_cons_zero, List.set_cons_succ] at hbl
          have hdj : y0.heap.size < y1.heap.size ∨ y2.heap.size ≤ y0.heap.size := by omega
          have hrow := (RowB.setB (RowB.setB (RowB.setB (RowB.setB (RowB.setB q2 hdj 0 (.int .i64 cd)) hdj 1 (.slice axb m kxb)) hdj 2 (.int .i64 ru)) hdj 3 (.int .i64 rz)) hdj 4 (.slice ax2 nq kx2))
          have hrowb := (RowI.setB (RowI.setB (RowI.setB (RowI.setB (RowI.setB qb hdj 0 (.int .i64 cd)) hdj 1 (.slice axb m kxb)) hdj 2 (.int .i64 ru)) hdj 3 (.int .i64 rz)) hdj 4 (.slice ax2 nq kx2))
          have hx0 := hbl.cell 0
          simp only [List.getElem?_toArray, List.getElem?_cons_zero, List.getElem?_cons_succ] at hx0
          have hx1 := hbl.cell 1
          simp only [List.getElem?_toArray, List.getElem?_cons_zero, List.getElem?_cons_succ] at hx1
          have hx2 := hbl.cell 2
          simp only [List.getElem?_toArray, List.getElem?_cons_zero, List.getElem?_cons_succ] at hx2
          have hx3 := hbl.cell 3
          simp only [List.getElem?_toArray, List.getElem?_cons_zero, List.getElem?_cons_succ] at hx3
          have hx4 := hbl.cell 4
          simp only [List.getElem?_toArray, List.getElem?_cons_zero, List.getElem?_cons_succ] at hx4
          refine wpAnyH_done (by kernel_rfl) ?_ _
          refine ⟨rfl, y0.heap.size, y1.heap.size, y2.heap.size, .slice axb m kxb, .slice ax2 nq kx2, .agg #[.int .i64 u0, .int .i64 z0, .slice ax0 n0 kx0], .agg #[.slice ax1 n1 kx1], ?_, hS, hWs, ?_, ?_, ?_, ?_, hrowb, hrow, hx0, hx1, hx2, hx3, hx4⟩
          · simp only [Act.put, List.getElem_toArray, List.getElem_cons_zero, List.getElem_cons_succ, List.setIfInBounds_toArray, List.set_cons_zero, List.set_cons_succ]
          all_goals (try simp only [size_set])
          all_goals omega
      · skip
        go_simp
        refine hK.out _ _ (hS.alloc hS.size _) (fun hS => ?_)
        clear hK K
        (try simp only [Act.put, List.getElem_toArray, List.getElem_cons_zero, List.getElem_cons_succ, List.setIfInBounds_toArray, List.set_cons_zero, List.set_cons_succ])
        have NB : Below w16.heap.size w16 (w16.alloc (.cells #[.int .i64 0, .slice none 0 0, .int .i64 0, .int .i64 0, .slice none 0 0] 32)).drew := ((Below.refl _ _).alloc (Nat.le_refl _) _).drew
        have hB : Blk (w16.alloc (.cells #[.int .i64 0, .slice none 0 0, .int .i64 0, .int .i64 0, .slice none 0 0] 32)).drew w16.heap.size #[.int .i64 0, .slice none 0 0, .int .i64 0, .int .i64 0, .slice none 0 0] 32 := Blk.new w16 #[.int .i64 0, .slice none 0 0, .int .i64 0, .int .i64 0, .slice none 0 0] 32
        have szA := NB.size
        have ltA := hB.lt
        clear NB
        generalize (w16.alloc (.cells #[.int .i64 0, .slice none 0 0, .int .i64 0, .int .i64 0, .slice none 0 0] 32)).drew = yA at *
        refine wpAnyH_ready (rs := [1]) (by as_aux_lemma => kernel_rfl) (by simp) ?_
        refine AllReadyH.cons rfl (fun K hK => ?_) AllReadyH.nil
        go_simp
        refine Calls.mono (toCache_any u0 z0 a0 n0 ca0 bs0 _ (hr0.below (hb.trans (hS.mono hb.size))) (by omega)) ?_
        rintro e y0 ⟨x0, rfl, q0, hc⟩
        obtain ⟨ax0, kx0, rfl, g1, g2⟩ := q0.shape
        have KQ0 : Hid _ := And.intro g1 g2
        clear g1 g2
        replace hB := hB.below hc
        have sz0 := hc.size
        refine hK.out _ _ (hS.trans (hc.mono hS.size)) (fun hS => ?_)
        clear hK K
        (try simp only [Act.put, List.getElem_toArray, List.getElem_cons_zero, List.getElem_cons_succ, List.setIfInBounds_toArray, List.set_cons_zero, List.set_cons_succ])
        clear hc
        refine wpAnyH_ready (rs := [3]) (by as_aux_lemma => kernel_rfl) (by simp) ?_
        refine AllReadyH.cons rfl (fun K hK => ?_) AllReadyH.nil
        go_simp
        refine Calls.mono (toFile_any a1 n1 ca1 xs1 _ (hr1.below (hb.trans (hS.mono hb.size))) (by omega)) ?_
        rintro e y1 ⟨x1, rfl, q1, hc⟩
        obtain ⟨ax1, kx1, rfl, g1, g2⟩ := q1.shape
        have KQ1 : Hid _ := And.intro g1 g2
        clear g1 g2
        replace q0 := q0.below hc
        replace hB := hB.below hc
        have sz1 := hc.size
        refine hK.out _ _ (hS.trans (hc.mono hS.size)) (fun hS => ?_)
        clear hK K
        (try simp only [Act.put, List.getElem_toArray, List.getElem_cons_zero, List.getElem_cons_succ, List.setIfInBounds_toArray, List.set_cons_zero, List.set_cons_succ])
        clear hc
        refine wpAnyH_ready (rs := [7]) (by as_aux_lemma => kernel_rfl) (by simp) ?_
        refine AllReadyH.cons rfl (fun K hK => ?_) AllReadyH.nil
        go_simp
        refine Calls.mono (HIC.out ax0 kx0 ax1 kx1 _ q0.read KQ0.out.1 KQ0.out.2 q1.read KQ1.out.1 KQ1.out.2) ?_
        rintro e y2 ⟨xb, x2, md, rfl, g1, g2, qb, q2, hc⟩
        replace qb := RowI.mono qb (Nat.le_refl _) g2
        replace q2 := RowB.mono q2 g1 (Nat.le_refl _)
        clear g1 g2
        obtain ⟨axb, kxb, rfl, -⟩ := qb.shape
        obtain ⟨ax2, kx2, rfl, -⟩ := q2.shape
        replace q0 := q0.below hc
        replace q1 := q1.below hc
        replace hB := hB.below hc
        have sz2 := hc.size
        refine hK.out _ _ (hS.trans (hc.mono hS.size)) (fun hS => ?_)
        clear hK K
        (try simp only [Act.put, List.getElem_toArray, List.getElem_cons_zero, List.getElem_cons_succ, List.setIfInBounds_toArray, List.set_cons_zero, List.set_cons_succ])
        clear hc
        have d0 : y2.cell? ⟨w16.heap.size, 0, none⟩ = some (.int .i64 0) := hB.cell 0
        have df0 := hB.frozen 0
        have d1 : y2.cell? ⟨w16.heap.size, 1, none⟩ = some (.slice none 0 0) := hB.cell 1
        have df1 := hB.frozen 1
        have d2 : y2.cell? ⟨w16.heap.size, 2, none⟩ = some (.int .i64 0) := hB.cell 2
        have df2 := hB.frozen 2
        have d3 : y2.cell? ⟨w16.heap.size, 3, none⟩ = some (.int .i64 0) := hB.cell 3
        have df3 := hB.frozen 3
        have d4 : y2.cell? ⟨w16.heap.size, 4, none⟩ = some (.slice none 0 0) := hB.cell 4
        have df4 := hB.frozen 4
        refine wpAnyH_ready (rs := [9]) (by as_aux_lemma => kernel_rfl) (by simp) ?_
        refine AllReadyH.cons rfl (fun K hK => ?_) AllReadyH.nil
        have HBB := hid hB
        clear hB
        go_simp
        have hWs : w16.heap.size ≤ w16.heap.size := by have := hS.size; omega
        refine hK.out _ _ ((((((hS.setCell hWs _).setCell hWs _).setCell hWs _).setCell hWs _).setCell hWs _)) (fun hS => ?_)
        clear hK K
        (try simp only [Act.put, List.getElem_toArray, List.getElem_cons_zero, List.getElem_cons_succ, List.setIfInBounds_toArray, List.set_cons_zero, List.set_cons_succ])
        have hbl := (((((HBB.out.set (i := 0) (.int .i64 cd)).set (i := 1) (.slice axb m kxb)).set (i := 2) (.int .i64 ru)).set (i := 3) (.int .i64 rz)).set (i := 4) (.slice ax2 nq kx2))
        simp only [List.setIfInBounds_toArray, List.set_cons_zero, List.set_cons_succ] at hbl
        have hdj : w16.heap.size < y1.heap.size ∨ y2.heap.size ≤ w16.heap.size := by omega
        have hrow := (RowB.setB (RowB.setB (RowB.setB (RowB.setB (RowB.setB q2 hdj 0 (.int .i64 cd)) hdj 1 (.slice axb m kxb)) hdj 2 (.int .i64 ru)) hdj 3 (.int .i64 rz)) hdj 4 (.slice ax2 nq kx2))
        have hrowb := (RowI.setB (RowI.setB (RowI.setB (RowI.setB (RowI.setB qb hdj 0 (.int .i64 cd)) hdj 1 (.slice axb m kxb)) hdj 2 (.int .i64 ru)) hdj 3 (.int .i64 rz)) hdj 4 (.slice ax2 nq kx2))
        have hx0 := hbl.cell 0
        simp only [List.getElem?_toArray, List.getElem?_cons_zero, List.getElem?_cons_succ] at hx0
        have hx1 := hbl.cell 1
        simp only [List.getElem?_toArray, List.getElem?_cons_zero, List.getElem?_cons_succ] at hx1
        have hx2 := hbl.cell 2
        simp only [List.getElem?_toArray, List.getElem?_cons_zero, List.getElem?_cons_succ] at hx2
        have hx3 := hbl.cell 3
        simp only [List.getElem?_toArray, List.getElem?_cons_zero, List.getElem?_cons_succ] at hx3
        have hx4 := hbl.cell 4
        simp only [List.getElem?_toArray, List.getElem?_cons_zero, List.getElem?_cons_succ] at hx4
        refine wpAnyH_done (by kernel_rfl) ?_ _
        refine ⟨rfl, w16.heap.size, y1.heap.size, y2.heap.size, .slice axb m kxb, .slice ax2 nq kx2, .agg #[.int .i64 u0, .int .i64 z0, .slice ax0 n0 kx0], .agg #[.slice ax1 n1 kx1], ?_, hS, hWs, ?_, ?_, ?_, ?_, hrowb, hrow, hx0, hx1, hx2, hx3, hx4⟩
        · simp only [Act.put, List.getElem_toArray, List.getElem_cons_zero, List.getElem_cons_succ, List.setIfInBounds_toArray, List.set_cons_zero, List.set_cons_succ]
        all_goals (try simp only [size_set])
        all_goals omega
    · skip
      rintro a' w17 ⟨B17, lo17, hi17, vg17b, vg17, u17_0, u17_1, rfl, hc, bl17, bu17, ll17, hu17, dj17, rg17b, rg17, ch00, ch01, ch02, ch03, ch04⟩
      obtain ⟨ag17b, kg17b, rfl, -⟩ := rg17b.shape
      obtain ⟨ag17, kg17, rfl, -⟩ := rg17.shape
      simp only [Act.put, List.getElem_toArray, List.getElem_cons_zero, List.getElem_cons_succ, List.setIfInBounds_toArray, List.set_cons_zero, List.set_cons_succ]
      have s17 : w16.heap.size ≤ w17.heap.size := hc.size
      have bq := hc
      replace caC0 := cell_later bq caC0
      replace caC1 := cell_later bq caC1
      replace caC2 := cell_later bq caC2
      replace zaC := Nat.lt_of_lt_of_le zaC bq.size
      replace caF0 := cell_later bq caF0
      replace zaF := Nat.lt_of_lt_of_le zaF bq.size
      replace cw00 := cell_later bq cw00
      replace cw01 := cell_later bq cw01
      replace cw02 := cell_later bq cw02
      replace cw03 := cell_later bq cw03
      replace cw04 := cell_later bq cw04
      replace zw0 := Nat.lt_of_lt_of_le zw0 bq.size
      replace cx00 := cell_later bq cx00
      replace cx01 := cell_later bq cx01
      replace cx02 := cell_later bq cx02
      replace zx0 := Nat.lt_of_lt_of_le zx0 bq.size
      replace cx10 := cell_later bq cx10
      replace zx1 := Nat.lt_of_lt_of_le zx1 bq.size
      replace cg00 := cell_later bq cg00
      replace cg01 := cell_later bq cg01
      replace cg02 := cell_later bq cg02
      replace cg03 := cell_later bq cg03
      replace cg04 := cell_later bq cg04
      replace zg0 := Nat.lt_of_lt_of_le zg0 bq.size
      replace rg3b := rg3b.below bq
      replace rg3 := rg3.below bq
      replace rt4 := rt4.below bq
      replace rt5 := rt5.below bq
      replace rg6b := rg6b.below bq
      replace rg6 := rg6.below bq
      replace hb := hb.trans (bq.mono hb.size)
      clear hc bq
      have zh0 := bu17
      go_wp2_with fail
      refine Calls.mono (eqCacheResult_yes cd ru rz ag17b ag3b m kg17b kg3b rs ag17 ag3 nq kg17 kg3 qs _ rg17b.read rg3b.read rg17.read rg3.read (by omega) (by omega)) ?_
      rintro e w18 ⟨rfl, hc⟩
      have s18 : w17.heap.size ≤ w18.heap.size := hc.size
      have bq := hc
      replace caC0 := cell_later bq caC0
      replace caC1 := cell_later bq caC1
      replace caC2 := cell_later bq caC2
      replace zaC := Nat.lt_of_lt_of_le zaC bq.size
      replace caF0 := cell_later bq caF0
      replace zaF := Nat.lt_of_lt_of_le zaF bq.size
      replace cw00 := cell_later bq cw00
      replace cw01 := cell_later bq cw01
      replace cw02 := cell_later bq cw02
      replace cw03 := cell_later bq cw03
      replace cw04 := cell_later bq cw04
      replace zw0 := Nat.lt_of_lt_of_le zw0 bq.size
      replace cx00 := cell_later bq cx00
      replace cx01 := cell_later bq cx01
      replace cx02 := cell_later bq cx02
      replace zx0 := Nat.lt_of_lt_of_le zx0 bq.size
      replace cx10 := cell_later bq cx10
      replace zx1 := Nat.lt_of_lt_of_le zx1 bq.size
      replace cg00 := cell_later bq cg00
      replace cg01 := cell_later bq cg01
      replace cg02 := cell_later bq cg02
      replace cg03 := cell_later bq cg03
      replace cg04 := cell_later bq cg04
      replace zg0 := Nat.lt_of_lt_of_le zg0 bq.size
      replace ch00 := cell_later bq ch00
      replace ch01 := cell_later bq ch01
      replace ch02 := cell_later bq ch02
      replace ch03 := cell_later bq ch03
      replace ch04 := cell_later bq ch04
      replace zh0 := Nat.lt_of_lt_of_le zh0 bq.size
      replace rg3b := rg3b.below bq
      replace rg3 := rg3.below bq
      replace rt4 := rt4.below bq
      replace rt5 := rt5.below bq
      replace rg6b := rg6b.below bq
      replace rg6 := rg6.below bq
      replace rg17b := rg17b.below bq
      replace rg17 := rg17.below bq
      replace hb := hb.trans (bq.mono hb.size)
      clear hc bq
      go_wp2_with fail
      refine Calls.mono (heldCacheResult_yes cd ru rz 1 ag6b m kg6b ag6 nq kg6 qs _ rg6b.read rg6.read (by omega) (by omega) (by omega) (by omega)) ?_
      rintro e w19 ⟨rfl, hc⟩
      have s19 : w18.heap.size ≤ w19.heap.size := hc.size
      have bq := hc
      replace caC0 := cell_later bq caC0
      replace caC1 := cell_later bq caC1
      replace caC2 := cell_later bq caC2
      replace zaC := Nat.lt_of_lt_of_le zaC bq.size
      replace caF0 := cell_later bq caF0
      replace zaF := Nat.lt_of_lt_of_le zaF bq.size
      replace cw00 := cell_later bq cw00
      replace cw01 := cell_later bq cw01
      replace cw02 := cell_later bq cw02
      replace cw03 := cell_later bq cw03
      replace cw04 := cell_later bq cw04
      replace zw0 := Nat.lt_of_lt_of_le zw0 bq.size
      replace cx00 := cell_later bq cx00
      replace cx01 := cell_later bq cx01
      replace cx02 := cell_later bq cx02
      replace zx0 := Nat.lt_of_lt_of_le zx0 bq.size
      replace cx10 := cell_later bq cx10
      replace zx1 := Nat.lt_of_lt_of_le zx1 bq.size
      replace cg00 := cell_later bq cg00
      replace cg01 := cell_later bq cg01
      replace cg02 := cell_later bq cg02
      replace cg03 := cell_later bq cg03
      replace cg04 := cell_later bq cg04
      replace zg0 := Nat.lt_of_lt_of_le zg0 bq.size
      replace ch00 := cell_later bq ch00
      replace ch01 := cell_later bq ch01
      replace ch02 := cell_later bq ch02
      replace ch03 := cell_later bq ch03
      replace ch04 := cell_later bq ch04
      replace zh0 := Nat.lt_of_lt_of_le zh0 bq.size
      replace rg3b := rg3b.below bq
      replace rg3 := rg3.below bq
      replace rt4 := rt4.below bq
      replace rt5 := rt5.below bq
      replace rg6b := rg6b.below bq
      replace rg6 := rg6.below bq
      replace rg17b := rg17b.below bq
      replace rg17 := rg17.below bq
      replace hb := hb.trans (bq.mono hb.size)
      clear hc bq
      go_wp2
      go_ret
      exact ⟨rfl, hb⟩

theorem own : ownKnob Try.prog.godebug = none := by kernel_rfl
theorem laidOut : laidOutB Try.prog = true := by kernel_rfl

set_option maxRecDepth 100000 in
theorem lifted (os : Os) (started : os.Started) (H : Type) (enc : TypeId × Value → H) :
    ReturnsInHanded {} Try.checked os 8 .any (Rows.fnExactReadRangeSpec.pre6 enc Try.prog Try.f8 Rows.fnExactReadRangeRow.domain false) (Rows.fnExactReadRangeSpec.post enc Try.prog Try.f8 false true false false) := by
  refine returnsInHanded_of_change (C := Try.checked) own started (by kernel_rfl) Try.func8
    (ChangeSpec.witness6 (enc := enc) (C := Try.checked) false ⟨#[], #[.agg #[.int .i64 0, .int .i64 0, .slice none 0 0], .agg #[.slice none 0 0], .int .i64 0, .int .i64 0, .int .i64 0], []⟩ 8 (by kernel_rfl) (by kernel_rfl) (by kernel_rfl) (by kernel_rfl)) ?_
  intro W base args ds gs before hval0 hW hcnd _
  have hval : ∀ (j : Nat) t v, Try.f8.params[j]? = some t → args[j]? = some v → Value.okWide Try.prog W .any base t v := hval0
  have hW' := hW
  obtain ⟨p, q, hA0, hV, rfl, hfz, hnd⟩ := hW
  have hA : DataW.TrodAll enc Try.prog W 0 (fun _ => true) true Try.f8.params.toList args.toList ds p := hA0
  rw [Try.params8] at hA hval
  obtain ⟨v0, v1, v2, v3, v4, d0, d1, d2, d3, d4, p0, p1, p2, p3, p4, rfl, rfl, rfl, h0, h1, h2, h3, h4⟩ := trodAll_five hA
  obtain ⟨rfl, rfl⟩ := trodVars_none hV
  have k0 := h0
  have lt0 : ∀ x ∈ p0, x.block < W.heap.size := by obtain ⟨m, hm⟩ := k0; exact DataW.trod_lt m _ _ _ hm
  obtain ⟨u0, z0, a0, len0, cap0, x0, rfl, hr0, hB0, hm0⟩ := open_cache (hval 0 53 v0 rfl rfl) h0
  have k1 := h1
  have lt1 : ∀ x ∈ p1, x.block < W.heap.size := by obtain ⟨m, hm⟩ := k1; exact DataW.trod_lt m _ _ _ hm
  obtain ⟨a1, len1, cap1, x1, rfl, hr1, hB1, hm1⟩ := open_file (hval 1 62 v1 rfl rfl) h1
  obtain ⟨I2, rfl, rfl, rfl, wI2⟩ := open_int Try.underlying2 (hval 2 2 v2 rfl rfl) h2
  obtain ⟨I3, rfl, rfl, rfl, wI3⟩ := open_int Try.underlying2 (hval 3 2 v3 rfl rfl) h3
  obtain ⟨I4, rfl, rfl, rfl, wI4⟩ := open_int Try.underlying2 (hval 4 2 v4 rfl rfl) h4
  clear hA0 hval0
  refine (walk u0 z0 a0 len0 cap0 x0 a1 len1 cap1 x1 I2 I3 I4 W hr0 hB0 hm0 hr1 hB1 hm1).mono fun e W' ⟨he, bel⟩ => ?_
  subst he
  exact ⟨_, rfl, _, _, _, [], _, [], hW', trodAll_mk1 (shut_bool Try.underlying4 _), trodAll_mk5 (Below.trod laidOut (by kernel_rfl) (of_decide_eq_true (by kernel_rfl)) k0 bel lt0) (Below.trod laidOut (by kernel_rfl) (of_decide_eq_true (by kernel_rfl)) k1 bel lt1) (shut_int Try.underlying2 wI2) (shut_int Try.underlying2 wI3) (shut_int Try.underlying2 wI4), rfl, bel.frame _, fun h => by cases h⟩

theorem proved : Rows.FnExactReadRangeSaid :=
  OpenClaim.holds_of_wide 8 Try.f8 rfl rfl rfl rfl rfl rfl rfl ⟨rfl, rfl, rfl, rfl, rfl⟩ rfl rfl rfl rfl rfl (by kernel_rfl) Try.func8 (by kernel_rfl)
    (of_decide_eq_true (by kernel_rfl)) (by unfold Func.isWrapper; first | (rw [if_pos (by decide +kernel)]; kernel_rfl) | (rw [if_neg (by decide +kernel)]; exact ⟨rfl, rfl⟩))
    (fun os started H enc _ => lifted os started H enc)
end Go.Proofs.Ytckkkhabjfbngaa.fnExactReadRange
namespace Go.Proofs.Ytckkkhabjfbngaa
theorem fnExactReadRange_proved : Rows.FnExactReadRangeSaid := fnExactReadRange.proved
end Go.Proofs.Ytckkkhabjfbngaa
