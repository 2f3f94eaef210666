/-
  For every index and file, FnExactExtendIndex returns true: the program's ExtendIndex answers as the model, writes into no argument, and its answer owns its memory; no condition.
-/
import Derived.Test.YthdglflipeggpaaIndex4
import Derived.Test.YthdglflipeggpaaArgs
import Derived.Test.YthdglflipeggpaaArgsF
import Derived.Test.YthdglflipeggpaaArgsI
import Derived.Test.YthdglflipeggpaaHlpF
import Derived.Test.YthdglflipeggpaaHlpI
import Derived.Test.YthdglflipeggpaaJoin
import Derived.ProofKit
import Derived.OpenShut
import Derived.ChangeOld
import Derived.Below
import Derived.Carry
import Derived.Deep.RegionWith
import Derived.Deep.RegionHeld3
namespace Go.Proofs.Ythdglflipeggpaa.fnExactExtendIndex
open Go.ChangeShapes Go.WideShapes Go.ChangeAt Go.RowKit
set_option linter.unusedVariables false
set_option linter.unusedSimpArgs false

set_option maxRecDepth 10000 in
set_option maxHeartbeats 6400000 in
theorem walk (e0 : Int) (a0 : Option Addr) (n0 ca0 : Nat) (xs0 : List Int) (l0 : Int) (z0 : Int) (a1 : Option Addr) (n1 ca1 : Nat) (xs1 : List Int) (w : World) (hr0 : Rd .i64 w a0 n0 xs0) (hm0 : n0 ≤ maxLen) (hr1 : Rd .u8 w a1 n1 xs1) (hB1 : Bytes xs1) (hm1 : n1 ≤ maxLen) :
    Calls Try.prog 6 #[.agg #[.int .i64 e0, .slice a0 n0 ca0, .int .i64 l0, .int .i64 z0], .agg #[.slice a1 n1 ca1]] w fun e w' => e = .returned (.bool true) ∧ Below w.heap.size w w' := by
  by_cases hn0 : (n0 : Int) ≤ 1048576
  rotate_left
  · go_enter Try.func6, Try.ntmps6
    have hb : Below w.heap.size w w := Below.refl _ _
    go_wp2_with fail
    have bp : ∀ o0 o1, Below w.heap.size w ((w.alloc o0).alloc o1) := fun o0 o1 => ((Below.refl _ _).alloc (Nat.le_refl _) o0).alloc (by simp) o1
    have hbt : ∀ o0 o1, Below w.heap.size w ((w.alloc o0).alloc o1) := fun o0 o1 => hb.trans ((bp o0 o1).mono hb.size)
    refine Calls.mono (szIndex_no e0 a0 n0 ca0 l0 z0 (1048576) _ (by omega) hm0 (by omega) (by omega)) ?_
    rintro e w1 ⟨rfl, hc⟩
    have s1 : w.heap.size + 2 ≤ w1.heap.size := by have := hc.size; simp at this; omega
    have bq : Below w.heap.size w w1 := (bp _ _).trans (hc.mono (bp _ _).size)
    have caX0 : w1.cell? ⟨w.heap.size, 0, none⟩ = some (.int .i64 e0) := cell_later hc (by simp [go_sem])
    have caX1 : w1.cell? ⟨w.heap.size, 1, none⟩ = some (.slice a0 n0 ca0) := cell_later hc (by simp [go_sem])
    have caX2 : w1.cell? ⟨w.heap.size, 2, none⟩ = some (.int .i64 l0) := cell_later hc (by simp [go_sem])
    have caX3 : w1.cell? ⟨w.heap.size, 3, none⟩ = some (.int .i64 z0) := cell_later hc (by simp [go_sem])
    have zaX : w.heap.size < w1.heap.size := by omega
    have caF0 : w1.cell? ⟨w.heap.size + 1, 0, none⟩ = some (.slice a1 n1 ca1) := cell_later hc (by simp [go_sem])
    have zaF : w.heap.size + 1 < w1.heap.size := by omega
    replace hb := hb.trans (bq.mono hb.size)
    clear hc bq bp hbt
    go_wp2
    go_ret
    exact ⟨rfl, hb⟩
  by_cases hn1 : (n1 : Int) ≤ 1048576 - (n0 : Int)
  rotate_left
  · go_enter Try.func6, Try.ntmps6
    have hb : Below w.heap.size w w := Below.refl _ _
    go_wp2_with fail
    have bp : ∀ o0 o1, Below w.heap.size w ((w.alloc o0).alloc o1) := fun o0 o1 => ((Below.refl _ _).alloc (Nat.le_refl _) o0).alloc (by simp) o1
    have hbt : ∀ o0 o1, Below w.heap.size w ((w.alloc o0).alloc o1) := fun o0 o1 => hb.trans ((bp o0 o1).mono hb.size)
    refine Calls.mono (szIndex_yes e0 a0 n0 ca0 l0 z0 (1048576) _ (by omega) (by omega)) ?_
    rintro e w1 ⟨rfl, hc⟩
    have s1 : w.heap.size + 2 ≤ w1.heap.size := by have := hc.size; simp at this; omega
    have bq : Below w.heap.size w w1 := (bp _ _).trans (hc.mono (bp _ _).size)
    have caX0 : w1.cell? ⟨w.heap.size, 0, none⟩ = some (.int .i64 e0) := cell_later hc (by simp [go_sem])
    have caX1 : w1.cell? ⟨w.heap.size, 1, none⟩ = some (.slice a0 n0 ca0) := cell_later hc (by simp [go_sem])
    have caX2 : w1.cell? ⟨w.heap.size, 2, none⟩ = some (.int .i64 l0) := cell_later hc (by simp [go_sem])
    have caX3 : w1.cell? ⟨w.heap.size, 3, none⟩ = some (.int .i64 z0) := cell_later hc (by simp [go_sem])
    have zaX : w.heap.size < w1.heap.size := by omega
    have caF0 : w1.cell? ⟨w.heap.size + 1, 0, none⟩ = some (.slice a1 n1 ca1) := cell_later hc (by simp [go_sem])
    have zaF : w.heap.size + 1 < w1.heap.size := by omega
    replace hb := hb.trans (bq.mono hb.size)
    clear hc bq bp hbt
    have hleft0 : ¬ (1048576 - (n0 : Int) < 0) := by omega
    go_wp2_with fail
    refine Calls.mono (szFile_no a1 n1 ca1 (1048576 - (n0 : Int)) _ (by omega) hm1 (by omega) (by omega)) ?_
    rintro e w2 ⟨rfl, hc⟩
    have s2 : w1.heap.size ≤ w2.heap.size := hc.size
    have bq := hc
    replace caX0 := cell_later bq caX0
    replace caX1 := cell_later bq caX1
    replace caX2 := cell_later bq caX2
    replace caX3 := cell_later bq caX3
    replace zaX := Nat.lt_of_lt_of_le zaX bq.size
    replace caF0 := cell_later bq caF0
    replace zaF := Nat.lt_of_lt_of_le zaF bq.size
    replace hb := hb.trans (bq.mono hb.size)
    clear hc bq
    go_wp2
    go_ret
    exact ⟨rfl, hb⟩
  unfold maxLen at hm0
  unfold maxLen at hm1
  have SC := fun (A0 : Option Addr) (C0 : Nat) (A1 : Option Addr) (C1 : Nat) (W' : World) (H0 : Rd .i64 W' A0 n0 xs0) (J0 : n0 ≤ C0) (M0 : C0 ≤ maxLen) (H1 : Rd .u8 W' A1 n1 xs1) (J1 : n1 ≤ C1) (M1 : C1 ≤ maxLen) => specExtendIndex_any e0 A0 n0 C0 xs0 l0 z0 A1 n1 C1 xs1 W' H0 H1 (by omega) (by omega) J0 M0 J1 M1
  have IC := fun (A0 : Option Addr) (C0 : Nat) (A1 : Option Addr) (C1 : Nat) (W' : World) (H0 : Rd .i64 W' A0 n0 xs0) (J0 : n0 ≤ C0) (M0 : C0 ≤ maxLen) (H1 : Rd .u8 W' A1 n1 xs1) (J1 : n1 ≤ C1) (M1 : C1 ≤ maxLen) => implExtendIndex_any e0 A0 n0 C0 xs0 l0 z0 A1 n1 C1 xs1 W' H0 H1 (by omega) (by omega) J0 M0 J1 M1
  have hrl : (exM e0 xs0 l0 z0 xs1).length ≤ 1000 := exM_len _ _ _ _ _
  generalize exCode e0 xs0 l0 z0 xs1 = p0 at *
  generalize exE e0 xs0 l0 z0 xs1 = p2 at *
  generalize exM e0 xs0 l0 z0 xs1 = rs at *
  generalize exL e0 xs0 l0 z0 xs1 = p4 at *
  generalize exZ e0 xs0 l0 z0 xs1 = p5 at *
  generalize hml : rs.length = m at *
  clear hml
  have HSC : Hid _ := SC
  have HIC : Hid _ := IC
  clear SC IC
  go_enter Try.func6, Try.ntmps6
  have hb : Below w.heap.size w w := Below.refl _ _
  go_wp2_with fail
  have bp : ∀ o0 o1, Below w.heap.size w ((w.alloc o0).alloc o1) := fun o0 o1 => ((Below.refl _ _).alloc (Nat.le_refl _) o0).alloc (by simp) o1
  have hbt : ∀ o0 o1, Below w.heap.size w ((w.alloc o0).alloc o1) := fun o0 o1 => hb.trans ((bp o0 o1).mono hb.size)
  refine Calls.mono (szIndex_yes e0 a0 n0 ca0 l0 z0 (1048576) _ (by omega) (by omega)) ?_
  rintro e w1 ⟨rfl, hc⟩
  have s1 : w.heap.size + 2 ≤ w1.heap.size := by have := hc.size; simp at this; omega
  have bq : Below w.heap.size w w1 := (bp _ _).trans (hc.mono (bp _ _).size)
  have caX0 : w1.cell? ⟨w.heap.size, 0, none⟩ = some (.int .i64 e0) := cell_later hc (by simp [go_sem])
  have caX1 : w1.cell? ⟨w.heap.size, 1, none⟩ = some (.slice a0 n0 ca0) := cell_later hc (by simp [go_sem])
  have caX2 : w1.cell? ⟨w.heap.size, 2, none⟩ = some (.int .i64 l0) := cell_later hc (by simp [go_sem])
  have caX3 : w1.cell? ⟨w.heap.size, 3, none⟩ = some (.int .i64 z0) := cell_later hc (by simp [go_sem])
  have zaX : w.heap.size < w1.heap.size := by omega
  have caF0 : w1.cell? ⟨w.heap.size + 1, 0, none⟩ = some (.slice a1 n1 ca1) := cell_later hc (by simp [go_sem])
  have zaF : w.heap.size + 1 < w1.heap.size := by omega
  replace hb := hb.trans (bq.mono hb.size)
  clear hc bq bp hbt
  have hleft0 : ¬ (1048576 - (n0 : Int) < 0) := by omega
  go_wp2_with fail
  refine Calls.mono (szFile_yes a1 n1 ca1 (1048576 - (n0 : Int)) _ (by omega) (by omega)) ?_
  rintro e w2 ⟨rfl, hc⟩
  have s2 : w1.heap.size ≤ w2.heap.size := hc.size
  have bq := hc
  replace caX0 := cell_later bq caX0
  replace caX1 := cell_later bq caX1
  replace caX2 := cell_later bq caX2
  replace caX3 := cell_later bq caX3
  replace zaX := Nat.lt_of_lt_of_le zaX bq.size
  replace caF0 := cell_later bq caF0
  replace zaF := Nat.lt_of_lt_of_le zaF bq.size
  replace hb := hb.trans (bq.mono hb.size)
  clear hc bq
  have hleft1 : ¬ (1048576 - (n0 : Int) - (n1 : Int) < 0) := by omega
  go_wp2_with fail
  refine region_join (fun a a' w' => ∃ (B lo hi : Nat) (v v0 v1 : Value), a' = ((((((a.put (some 24) (.agg #[.int .i64 e0, .slice a0 n0 ca0, .int .i64 l0, .int .i64 z0])).put (some 26) (.agg #[.slice a1 n1 ca1])).put (some 25) v0).put (some 27) v1).put (some 28) (.agg #[.int .i64 p0, .int .i64 0, .int .i64 p2, v, .int .i64 p4, .int .i64 p5])).put (some 6) (.pointer (some ⟨B, 0, none⟩))) ∧ Below w2.heap.size w2 w' ∧ w2.heap.size ≤ B ∧ B < w'.heap.size ∧ w2.heap.size ≤ lo ∧ hi ≤ w'.heap.size ∧ (B < lo ∨ hi ≤ B) ∧ RowI .i64 2 w' lo hi v m rs ∧ w'.cell? ⟨B, 0, none⟩ = some (.int .i64 p0) ∧ w'.cell? ⟨B, 1, none⟩ = some (.int .i64 0) ∧ w'.cell? ⟨B, 2, none⟩ = some (.int .i64 p2) ∧ w'.cell? ⟨B, 3, none⟩ = some (v) ∧ w'.cell? ⟨B, 4, none⟩ = some (.int .i64 p4) ∧ w'.cell? ⟨B, 5, none⟩ = some (.int .i64 p5)) ?_ ?_
  · skip
    refine wp_region_held_drew (S := fun w' => Below w2.heap.size w2 w') (by kernel_rfl) (Below.refl _ _).drew (fun hS => ?_)
    have hdz : w2.drew.heap.size = w2.heap.size := rfl
    refine wpAnyH_take (i := 0) (v := (.agg #[.int .i64 e0, .slice a0 n0 ca0, .int .i64 l0, .int .i64 z0])) rfl (by kernel_rfl) (by kernel_rfl) (by kernel_rfl) (fun _ _ _ h => nomatch h.1) (Or.inl ⟨by kernel_rfl, ?_⟩) hS ?_
    · intro w hSw; (try dsimp only at hSw); have hl0 := cell_later hSw caX0; have hl1 := cell_later hSw caX1; have hl2 := cell_later hSw caX2; have hl3 := cell_later hSw caX3; go_simp
    (try simp only [Act.put, List.getElem_toArray, List.getElem_cons_zero, List.getElem_cons_succ, List.setIfInBounds_toArray, List.set_cons_zero, List.set_cons_succ])
    refine wpAnyH_take (i := 2) (v := (.agg #[.slice a1 n1 ca1])) rfl (by kernel_rfl) (by kernel_rfl) (by kernel_rfl) (fun _ _ _ h => nomatch h.1) (Or.inl ⟨by kernel_rfl, ?_⟩) hS ?_
    · intro w hSw; (try dsimp only at hSw); have hl0 := cell_later hSw caF0; go_simp
    (try simp only [Act.put, List.getElem_toArray, List.getElem_cons_zero, List.getElem_cons_succ, List.setIfInBounds_toArray, List.set_cons_zero, List.set_cons_succ])
    refine wpAnyH_ready (rs := [1, 5]) (by as_aux_lemma => kernel_rfl) (by simp) ?_
    refine AllReadyH.cons rfl (fun K hK => ?_) (AllReadyH.cons rfl (fun K hK => ?_) AllReadyH.nil)
    · skip
      go_simp
      refine Calls.mono (toIndex_any e0 a0 n0 ca0 xs0 l0 z0 _ (hr0.below (hb.trans (hS.mono hb.size))) (by omega)) ?_
      rintro e y0 ⟨x0, rfl, q0, hc⟩
      obtain ⟨ax0, kx0, rfl, g1, g2⟩ := q0.shape
      have KQ0 : Hid _ := And.intro g1 g2
      clear g1 g2
      have sz0 := hc.size
      refine hK.out _ _ (hS.trans (hc.mono hS.size)) (fun hS => ?_)
      clear hK K
      (try simp only [Act.put, List.getElem_toArray, List.getElem_cons_zero, List.getElem_cons_succ, List.setIfInBounds_toArray, List.set_cons_zero, List.set_cons_succ])
      clear hc
      refine wpAnyH_ready (rs := [3, 5]) (by as_aux_lemma => kernel_rfl) (by simp) ?_
      refine AllReadyH.cons rfl (fun K hK => ?_) (AllReadyH.cons rfl (fun K hK => ?_) AllReadyH.nil)
      · skip
        go_simp
        refine Calls.mono (toFile_any a1 n1 ca1 xs1 _ (hr1.below (hb.trans (hS.mono hb.size))) (by omega)) ?_
        rintro e y1 ⟨x1, rfl, q1, hc⟩
        obtain ⟨ax1, kx1, rfl, g1, g2⟩ := q1.shape
        have KQ1 : Hid _ := And.intro g1 g2
        clear g1 g2
        replace q0 := q0.below hc
        have sz1 := hc.size
        refine hK.out _ _ (hS.trans (hc.mono hS.size)) (fun hS => ?_)
        clear hK K
        (try simp only [Act.put, List.getElem_toArray, List.getElem_cons_zero, List.getElem_cons_succ, List.setIfInBounds_toArray, List.set_cons_zero, List.set_cons_succ])
        clear hc
        refine wpAnyH_ready (rs := [4, 5]) (by as_aux_lemma => kernel_rfl) (by simp) ?_
        refine AllReadyH.cons rfl (fun K hK => ?_) (AllReadyH.cons rfl (fun K hK => ?_) AllReadyH.nil)
        · skip
          go_simp
          refine Calls.mono (HSC.out ax0 kx0 ax1 kx1 _ q0.read KQ0.out.1 KQ0.out.2 q1.read KQ1.out.1 KQ1.out.2) ?_
          rintro e y2 ⟨x2, rfl, q2, hc⟩
          obtain ⟨ax2, kx2, rfl, -⟩ := q2.shape
          replace q0 := q0.below hc
          replace q1 := q1.below hc
          have sz2 := hc.size
          refine hK.out _ _ (hS.trans (hc.mono hS.size)) (fun hS => ?_)
          clear hK K
          (try simp only [Act.put, List.getElem_toArray, List.getElem_cons_zero, List.getElem_cons_succ, List.setIfInBounds_toArray, List.set_cons_zero, List.set_cons_succ])
          clear hc
          refine wpAnyH_ready (rs := [5]) (by as_aux_lemma => kernel_rfl) (by simp) ?_
          refine AllReadyH.cons rfl (fun K hK => ?_) AllReadyH.nil
          go_simp
          refine hK.out _ _ (hS.alloc hS.size _) (fun hS => ?_)
          clear hK K
          (try simp only [Act.put, List.getElem_toArray, List.getElem_cons_zero, List.getElem_cons_succ, List.setIfInBounds_toArray, List.set_cons_zero, List.set_cons_succ])
          have NB : Below y2.heap.size y2 (y2.alloc (.cells #[.int .i64 0, .int .i64 0, .int .i64 0, .slice none 0 0, .int .i64 0, .int .i64 0] 34)) := (Below.refl _ _).alloc (Nat.le_refl _) _
          have hB := Blk.new y2 #[.int .i64 0, .int .i64 0, .int .i64 0, .slice none 0 0, .int .i64 0, .int .i64 0] 34
          replace q0 := q0.below NB
          replace q1 := q1.below NB
          replace q2 := q2.below NB
          have szA := NB.size
          have ltA := hB.lt
          clear NB
          generalize y2.alloc (.cells #[.int .i64 0, .int .i64 0, .int .i64 0, .slice none 0 0, .int .i64 0, .int .i64 0] 34) = yA at *
          have d0 : yA.cell? ⟨y2.heap.size, 0, none⟩ = some (.int .i64 0) := hB.cell 0
          have df0 := hB.frozen 0
          have d1 : yA.cell? ⟨y2.heap.size, 1, none⟩ = some (.int .i64 0) := hB.cell 1
          have df1 := hB.frozen 1
          have d2 : yA.cell? ⟨y2.heap.size, 2, none⟩ = some (.int .i64 0) := hB.cell 2
          have df2 := hB.frozen 2
          have d3 : yA.cell? ⟨y2.heap.size, 3, none⟩ = some (.slice none 0 0) := hB.cell 3
          have df3 := hB.frozen 3
          have d4 : yA.cell? ⟨y2.heap.size, 4, none⟩ = some (.int .i64 0) := hB.cell 4
          have df4 := hB.frozen 4
          have d5 : yA.cell? ⟨y2.heap.size, 5, none⟩ = some (.int .i64 0) := hB.cell 5
          have df5 := hB.frozen 5
          refine wpAnyH_ready (rs := [6]) (by as_aux_lemma => kernel_rfl) (by simp) ?_
          refine AllReadyH.cons rfl (fun K hK => ?_) AllReadyH.nil
          have HBB := hid hB
          clear hB
          go_simp
          have hWs : w2.heap.size ≤ y2.heap.size := by have := hS.size; omega
          refine hK.out _ _ (((((((hS.setCell hWs _).setCell hWs _).setCell hWs _).setCell hWs _).setCell hWs _).setCell hWs _)) (fun hS => ?_)
          clear hK K
          (try simp only [Act.put, List.getElem_toArray, List.getElem_cons_zero, List.getElem_cons_succ, List.setIfInBounds_toArray, List.set_cons_zero, List.set_cons_succ])
          have hbl := ((((((HBB.out.set (i := 0) (.int .i64 p0)).set (i := 1) (.int .i64 0)).set (i := 2) (.int .i64 p2)).set (i := 3) (.slice ax2 m kx2)).set (i := 4) (.int .i64 p4)).set (i := 5) (.int .i64 p5))
          simp only [List.setIfInBounds_toArray, List.set_cons_zero, List.set_cons_succ] at hbl
          have hdj : y2.heap.size < y1.heap.size ∨ y2.heap.size ≤ y2.heap.size := by omega
          have hrow := ((((((q2.setB hdj 0 (.int .i64 p0)).setB hdj 1 (.int .i64 0)).setB hdj 2 (.int .i64 p2)).setB hdj 3 (.slice ax2 m kx2)).setB hdj 4 (.int .i64 p4)).setB hdj 5 (.int .i64 p5))
          have hx0 := hbl.cell 0
          simp only [List.getElem?_toArray, List.getElem?_cons_zero, List.getElem?_cons_succ] at hx0
          have hx1 := hbl.cell 1
          simp only [List.getElem?_toArray, List.getElem?_cons_zero, List.getElem?_cons_succ] at hx1
          have hx2 := hbl.cell 2
          simp only [List.getElem?_toArray, List.getElem?_cons_zero, List.getElem?_cons_succ] at hx2
          have hx3 := hbl.cell 3
          simp only [List.getElem?_toArray, List.getElem?_cons_zero, List.getElem?_cons_succ] at hx3
          have hx4 := hbl.cell 4
          simp only [List.getElem?_toArray, List.getElem?_cons_zero, List.getElem?_cons_succ] at hx4
          have hx5 := hbl.cell 5
          simp only [List.getElem?_toArray, List.getElem?_cons_zero, List.getElem?_cons_succ] at hx5
          refine wpAnyH_done (by kernel_rfl) ?_ _
          refine ⟨rfl, y2.heap.size, y1.heap.size, y2.heap.size, .slice ax2 m kx2, .agg #[.int .i64 e0, .slice ax0 n0 kx0, .int .i64 l0, .int .i64 z0], .agg #[.slice ax1 n1 kx1], ?_, hS, hWs, ?_, ?_, ?_, ?_, hrow, hx0, hx1, hx2, hx3, hx4, hx5⟩
          · simp only [Act.put, List.getElem_toArray, List.getElem_cons_zero, List.getElem_cons_succ, List.setIfInBounds_toArray, List.set_cons_zero, List.set_cons_succ]
          all_goals (try simp only [size_set])
          all_goals omega
        · skip
          go_simp
          refine hK.out _ _ (hS.alloc hS.size _) (fun hS => ?_)
          clear hK K
          (try simp only [Act.put, List.getElem_toArray, List.getElem_cons_zero, List.getElem_cons_succ, List.setIfInBounds_toArray, List.set_cons_zero, List.set_cons_succ])
          have NB : Below y1.heap.size y1 (y1.alloc (.cells #[.int .i64 0, .int .i64 0, .int .i64 0, .slice none 0 0, .int .i64 0, .int .i64 0] 34)) := (Below.refl _ _).alloc (Nat.le_refl _) _
          have hB := Blk.new y1 #[.int .i64 0, .int .i64 0, .int .i64 0, .slice none 0 0, .int .i64 0, .int .i64 0] 34
          replace q0 := q0.below NB
          replace q1 := q1.below NB
          have szA := NB.size
          have ltA := hB.lt
          clear NB
          generalize y1.alloc (.cells #[.int .i64 0, .int .i64 0, .int .i64 0, .slice none 0 0, .int .i64 0, .int .i64 0] 34) = yA at *
          refine wpAnyH_ready (rs := [4]) (by as_aux_lemma => kernel_rfl) (by simp) ?_
          refine AllReadyH.cons rfl (fun K hK => ?_) AllReadyH.nil
          go_simp
          refine Calls.mono (HSC.out ax0 kx0 ax1 kx1 _ q0.read KQ0.out.1 KQ0.out.2 q1.read KQ1.out.1 KQ1.out.2) ?_
          rintro e y2 ⟨x2, rfl, q2, hc⟩
          obtain ⟨ax2, kx2, rfl, -⟩ := q2.shape
          replace q0 := q0.below hc
          replace q1 := q1.below hc
          replace hB := hB.below hc
          have sz2 := hc.size
          refine hK.out _ _ (hS.trans (hc.mono hS.size)) (fun hS => ?_)
          clear hK K
          (try simp only [Act.put, List.getElem_toArray, List.getElem_cons_zero, List.getElem_cons_succ, List.setIfInBounds_toArray, List.set_cons_zero, List.set_cons_succ])
          clear hc
          have d0 : y2.cell? ⟨y1.heap.size, 0, none⟩ = some (.int .i64 0) := hB.cell 0
          have df0 := hB.frozen 0
          have d1 : y2.cell? ⟨y1.heap.size, 1, none⟩ = some (.int .i64 0) := hB.cell 1
          have df1 := hB.frozen 1
          have d2 : y2.cell? ⟨y1.heap.size, 2, none⟩ = some (.int .i64 0) := hB.cell 2
          have df2 := hB.frozen 2
          have d3 : y2.cell? ⟨y1.heap.size, 3, none⟩ = some (.slice none 0 0) := hB.cell 3
          have df3 := hB.frozen 3
          have d4 : y2.cell? ⟨y1.heap.size, 4, none⟩ = some (.int .i64 0) := hB.cell 4
          have df4 := hB.frozen 4
          have d5 : y2.cell? ⟨y1.heap.size, 5, none⟩ = some (.int .i64 0) := hB.cell 5
          have df5 := hB.frozen 5
          refine wpAnyH_ready (rs := [6]) (by as_aux_lemma => kernel_rfl) (by simp) ?_
          refine AllReadyH.cons rfl (fun K hK => ?_) AllReadyH.nil
          have HBB := hid hB
          clear hB
          go_simp
          have hWs : w2.heap.size ≤ y1.heap.size := by have := hS.size; omega
          refine hK.out _ _ (((((((hS.setCell hWs _).setCell hWs _).setCell hWs _).setCell hWs _).setCell hWs _).setCell hWs _)) (fun hS => ?_)
          clear hK K
          (try simp only [Act.put, List.getElem_toArray, List.getElem_cons_zero, List.getElem_cons_succ, List.setIfInBounds_toArray, List.set_cons_zero, List.set_cons_succ])
          have hbl := ((((((HBB.out.set (i := 0) (.int .i64 p0)).set (i := 1) (.int .i64 0)).set (i := 2) (.int .i64 p2)).set (i := 3) (.slice ax2 m kx2)).set (i := 4) (.int .i64 p4)).set (i := 5) (.int .i64 p5))
          simp only [List.setIfInBounds_toArray, List.set_cons_zero, List.set_cons_succ] at hbl
          have hdj : y1.heap.size < yA.heap.size ∨ y2.heap.size ≤ y1.heap.size := by omega
          have hrow := ((((((q2.setB hdj 0 (.int .i64 p0)).setB hdj 1 (.int .i64 0)).setB hdj 2 (.int .i64 p2)).setB hdj 3 (.slice ax2 m kx2)).setB hdj 4 (.int .i64 p4)).setB hdj 5 (.int .i64 p5))
          have hx0 := hbl.cell 0
          simp only [List.getElem?_toArray, List.getElem?_cons_zero, List.getElem?_cons_succ] at hx0
          have hx1 := hbl.cell 1
          simp only [List.getElem?_toArray, List.getElem?_cons_zero, List.getElem?_cons_succ] at hx1
          have hx2 := hbl.cell 2
          simp only [List.getElem?_toArray, List.getElem?_cons_zero, List.getElem?_cons_succ] at hx2
          have hx3 := hbl.cell 3
          simp only [List.getElem?_toArray, List.getElem?_cons_zero, List.getElem?_cons_succ] at hx3
          have hx4 := hbl.cell 4
          simp only [List.getElem?_toArray, List.getElem?_cons_zero, List.getElem?_cons_succ] at hx4
          have hx5 := hbl.cell 5
          simp only [List.getElem?_toArray, List.getElem?_cons_zero, List.getElem?_cons_succ] at hx5
          refine wpAnyH_done (by kernel_rfl) ?_ _
          refine ⟨rfl, y1.heap.size, yA.heap.size, y2.heap.size, .slice ax2 m kx2, .agg #[.int .i64 e0, .slice ax0 n0 kx0, .int .i64 l0, .int .i64 z0], .agg #[.slice ax1 n1 kx1], ?_, hS, hWs, ?_, ?_, ?_, ?_, hrow, hx0, hx1, hx2, hx3, hx4, hx5⟩
          · simp only [Act.put, List.getElem_toArray, List.getElem_cons_zero, List.getElem_cons_succ, List.setIfInBounds_toArray, List.set_cons_zero, List.set_cons_succ]
          all_goals (try simp only [size_set])
          all_goals omega
      · skip
        go_simp
        refine hK.out _ _ (hS.alloc hS.size _) (fun hS => ?_)
        clear hK K
        (try simp only [Act.put, List.getElem_toArray, List.getElem_cons_zero, List.getElem_cons_succ, List.setIfInBounds_toArray, List.set_cons_zero, List.set_cons_succ])
        have NB : Below y0.heap.size y0 (y0.alloc (.cells #[.int .i64 0, .int .i64 0, .int .i64 0, .slice none 0 0, .int .i64 0, .int .i64 0] 34)) := (Below.refl _ _).alloc (Nat.le_refl _) _
        have hB := Blk.new y0 #[.int .i64 0, .int .i64 0, .int .i64 0, .slice none 0 0, .int .i64 0, .int .i64 0] 34
        replace q0 := q0.below NB
        have szA := NB.size
        have ltA := hB.lt
        clear NB
        generalize y0.alloc (.cells #[.int .i64 0, .int .i64 0, .int .i64 0, .slice none 0 0, .int .i64 0, .int .i64 0] 34) = yA at *
        refine wpAnyH_ready (rs := [3]) (by as_aux_lemma => kernel_rfl) (by simp) ?_
        refine AllReadyH.cons rfl (fun K hK => ?_) AllReadyH.nil
        go_simp
        refine Calls.mono (toFile_any a1 n1 ca1 xs1 _ (hr1.below (hb.trans (hS.mono hb.size))) (by omega)) ?_
        rintro e y1 ⟨x1, rfl, q1, hc⟩
        obtain ⟨ax1, kx1, rfl, g1, g2⟩ := q1.shape
        have KQ1 : Hid _ := And.intro g1 g2
        clear g1 g2
        replace q0 := q0.below hc
        replace hB := hB.below hc
        have sz1 := hc.size
        refine hK.out _ _ (hS.trans (hc.mono hS.size)) (fun hS => ?_)
        clear hK K
        (try simp only [Act.put, List.getElem_toArray, List.getElem_cons_zero, List.getElem_cons_succ, List.setIfInBounds_toArray, List.set_cons_zero, List.set_cons_succ])
        clear hc
        refine wpAnyH_ready (rs := [4]) (by as_aux_lemma => kernel_rfl) (by simp) ?_
        refine AllReadyH.cons rfl (fun K hK => ?_) AllReadyH.nil
        go_simp
        refine Calls.mono (HSC.out ax0 kx0 ax1 kx1 _ q0.read KQ0.out.1 KQ0.out.2 q1.read KQ1.out.1 KQ1.out.2) ?_
        rintro e y2 ⟨x2, rfl, q2, hc⟩
        obtain ⟨ax2, kx2, rfl, -⟩ := q2.shape
        replace q0 := q0.below hc
        replace q1 := q1.below hc
        replace hB := hB.below hc
        have sz2 := hc.size
        refine hK.out _ _ (hS.trans (hc.mono hS.size)) (fun hS => ?_)
        clear hK K
        (try simp only [Act.put, List.getElem_toArray, List.getElem_cons_zero, List.getElem_cons_succ, List.setIfInBounds_toArray, List.set_cons_zero, List.set_cons_succ])
        clear hc
        have d0 : y2.cell? ⟨y0.heap.size, 0, none⟩ = some (.int .i64 0) := hB.cell 0
        have df0 := hB.frozen 0
        have d1 : y2.cell? ⟨y0.heap.size, 1, none⟩ = some (.int .i64 0) := hB.cell 1
        have df1 := hB.frozen 1
        have d2 : y2.cell? ⟨y0.heap.size, 2, none⟩ = some (.int .i64 0) := hB.cell 2
        have df2 := hB.frozen 2
        have d3 : y2.cell? ⟨y0.heap.size, 3, none⟩ = some (.slice none 0 0) := hB.cell 3
        have df3 := hB.frozen 3
        have d4 : y2.cell? ⟨y0.heap.size, 4, none⟩ = some (.int .i64 0) := hB.cell 4
        have df4 := hB.frozen 4
        have d5 : y2.cell? ⟨y0.heap.size, 5, none⟩ = some (.int .i64 0) := hB.cell 5
        have df5 := hB.frozen 5
        refine wpAnyH_ready (rs := [6]) (by as_aux_lemma => kernel_rfl) (by simp) ?_
        refine AllReadyH.cons rfl (fun K hK => ?_) AllReadyH.nil
        have HBB := hid hB
        clear hB
        go_simp
        have hWs : w2.heap.size ≤ y0.heap.size := by have := hS.size; omega
        refine hK.out _ _ (((((((hS.setCell hWs _).setCell hWs _).setCell hWs _).setCell hWs _).setCell hWs _).setCell hWs _)) (fun hS => ?_)
        clear hK K
        (try simp only [Act.put, List.getElem_toArray, List.getElem_cons_zero, List.getElem_cons_succ, List.setIfInBounds_toArray, List.set_cons_zero, List.set_cons_succ])
        have hbl := ((((((HBB.out.set (i := 0) (.int .i64 p0)).set (i := 1) (.int .i64 0)).set (i := 2) (.int .i64 p2)).set (i := 3) (.slice ax2 m kx2)).set (i := 4) (.int .i64 p4)).set (i := 5) (.int .i64 p5))
        simp only [List.setIfInBounds_toArray, List.set_cons_zero, List.set_cons_succ] at hbl
        have hdj : y0.heap.size < y1.heap.size ∨ y2.heap.size ≤ y0.heap.size := by omega
        have hrow := ((((((q2.setB hdj 0 (.int .i64 p0)).setB hdj 1 (.int .i64 0)).setB hdj 2 (.int .i64 p2)).setB hdj 3 (.slice ax2 m kx2)).setB hdj 4 (.int .i64 p4)).setB hdj 5 (.int .i64 p5))
        have hx0 := hbl.cell 0
        simp only [List.getElem?_toArray, List.getElem?_cons_zero, List.getElem?_cons_succ] at hx0
        have hx1 := hbl.cell 1
        simp only [List.getElem?_toArray, List.getElem?_cons_zero, List.getElem?_cons_succ] at hx1
        have hx2 := hbl.cell 2
        simp only [List.getElem?_toArray, List.getElem?_cons_zero, List.getElem?_cons_succ] at hx2
        have hx3 := hbl.cell 3
        simp only [List.getElem?_toArray, List.getElem?_cons_zero, List.getElem?_cons_succ] at hx3
        have hx4 := hbl.cell 4
        simp only [List.getElem?_toArray, List.getElem?_cons_zero, List.getElem?_cons_succ] at hx4
        have hx5 := hbl.cell 5
        simp only [List.getElem?_toArray, List.getElem?_cons_zero, List.getElem?_cons_succ] at hx5
        refine wpAnyH_done (by kernel_rfl) ?_ _
        refine ⟨rfl, y0.heap.size, y1.heap.size, y2.heap.size, .slice ax2 m kx2, .agg #[.int .i64 e0, .slice ax0 n0 kx0, .int .i64 l0, .int .i64 z0], .agg #[.slice ax1 n1 kx1], ?_, hS, hWs, ?_, ?_, ?_, ?_, hrow, hx0, hx1, hx2, hx3, hx4, hx5⟩
        · simp only [Act.put, List.getElem_toArray, List.getElem_cons_zero, List.getElem_cons_succ, List.setIfInBounds_toArray, List.set_cons_zero, List.set_cons_succ]
        all_goals (try simp only [size_set])
        all_goals omega
    · skip
      go_simp
      refine hK.out _ _ (hS.alloc hS.size _) (fun hS => ?_)
      clear hK K
      (try simp only [Act.put, List.getElem_toArray, List.getElem_cons_zero, List.getElem_cons_succ, List.setIfInBounds_toArray, List.set_cons_zero, List.set_cons_succ])
      have NB : Below w2.heap.size w2 (w2.alloc (.cells #[.int .i64 0, .int .i64 0, .int .i64 0, .slice none 0 0, .int .i64 0, .int .i64 0] 34)).drew := ((Below.refl _ _).alloc (Nat.le_refl _) _).drew
      have hB : Blk (w2.alloc (.cells #[.int .i64 0, .int .i64 0, .int .i64 0, .slice none 0 0, .int .i64 0, .int .i64 0] 34)).drew w2.heap.size #[.int .i64 0, .int .i64 0, .int .i64 0, .slice none 0 0, .int .i64 0, .int .i64 0] 34 := Blk.new w2 #[.int .i64 0, .int .i64 0, .int .i64 0, .slice none 0 0, .int .i64 0, .int .i64 0] 34
      have szA := NB.size
      have ltA := hB.lt
      clear NB
      generalize (w2.alloc (.cells #[.int .i64 0, .int .i64 0, .int .i64 0, .slice none 0 0, .int .i64 0, .int .i64 0] 34)).drew = yA at *
      refine wpAnyH_ready (rs := [1]) (by as_aux_lemma => kernel_rfl) (by simp) ?_
      refine AllReadyH.cons rfl (fun K hK => ?_) AllReadyH.nil
      go_simp
      refine Calls.mono (toIndex_any e0 a0 n0 ca0 xs0 l0 z0 _ (hr0.below (hb.trans (hS.mono hb.size))) (by omega)) ?_
      rintro e y0 ⟨x0, rfl, q0, hc⟩
      obtain ⟨ax0, kx0, rfl, g1, g2⟩ := q0.shape
      have KQ0 : Hid _ := And.intro g1 g2
      clear g1 g2
      replace hB := hB.below hc
      have sz0 := hc.size
      refine hK.out _ _ (hS.trans (hc.mono hS.size)) (fun hS => ?_)
      clear hK K
      (try simp only [Act.put, List.getElem_toArray, List.getElem_cons_zero, List.getElem_cons_succ, List.setIfInBounds_toArray, List.set_cons_zero, List.set_cons_succ])
      clear hc
      refine wpAnyH_ready (rs := [3]) (by as_aux_lemma => kernel_rfl) (by simp) ?_
      refine AllReadyH.cons rfl (fun K hK => ?_) AllReadyH.nil
      go_simp
      refine Calls.mono (toFile_any a1 n1 ca1 xs1 _ (hr1.below (hb.trans (hS.mono hb.size))) (by omega)) ?_
      rintro e y1 ⟨x1, rfl, q1, hc⟩
      obtain ⟨ax1, kx1, rfl, g1, g2⟩ := q1.shape
      have KQ1 : Hid _ := And.intro g1 g2
      clear g1 g2
      replace q0 := q0.below hc
      replace hB := hB.below hc
      have sz1 := hc.size
      refine hK.out _ _ (hS.trans (hc.mono hS.size)) (fun hS => ?_)
      clear hK K
      (try simp only [Act.put, List.getElem_toArray, List.getElem_cons_zero, List.getElem_cons_succ, List.setIfInBounds_toArray, List.set_cons_zero, List.set_cons_succ])
      clear hc
      refine wpAnyH_ready (rs := [4]) (by as_aux_lemma => kernel_rfl) (by simp) ?_
      refine AllReadyH.cons rfl (fun K hK => ?_) AllReadyH.nil
      go_simp
      refine Calls.mono (HSC.out ax0 kx0 ax1 kx1 _ q0.read KQ0.out.1 KQ0.out.2 q1.read KQ1.out.1 KQ1.out.2) ?_
      rintro e y2 ⟨x2, rfl, q2, hc⟩
      obtain ⟨ax2, kx2, rfl, -⟩ := q2.shape
      replace q0 := q0.below hc
      replace q1 := q1.below hc
      replace hB := hB.below hc
      have sz2 := hc.size
      refine hK.out _ _ (hS.trans (hc.mono hS.size)) (fun hS => ?_)
      clear hK K
      (try simp only [Act.put, List.getElem_toArray, List.getElem_cons_zero, List.getElem_cons_succ, List.setIfInBounds_toArray, List.set_cons_zero, List.set_cons_succ])
      clear hc
      have d0 : y2.cell? ⟨w2.heap.size, 0, none⟩ = some (.int .i64 0) := hB.cell 0
      have df0 := hB.frozen 0
      have d1 : y2.cell? ⟨w2.heap.size, 1, none⟩ = some (.int .i64 0) := hB.cell 1
      have df1 := hB.frozen 1
      have d2 : y2.cell? ⟨w2.heap.size, 2, none⟩ = some (.int .i64 0) := hB.cell 2
      have df2 := hB.frozen 2
      have d3 : y2.cell? ⟨w2.heap.size, 3, none⟩ = some (.slice none 0 0) := hB.cell 3
      have df3 := hB.frozen 3
      have d4 : y2.cell? ⟨w2.heap.size, 4, none⟩ = some (.int .i64 0) := hB.cell 4
      have df4 := hB.frozen 4
      have d5 : y2.cell? ⟨w2.heap.size, 5, none⟩ = some (.int .i64 0) := hB.cell 5
      have df5 := hB.frozen 5
      refine wpAnyH_ready (rs := [6]) (by as_aux_lemma => kernel_rfl) (by simp) ?_
      refine AllReadyH.cons rfl (fun K hK => ?_) AllReadyH.nil
      have HBB := hid hB
      clear hB
      go_simp
      have hWs : w2.heap.size ≤ w2.heap.size := by have := hS.size; omega
      refine hK.out _ _ (((((((hS.setCell hWs _).setCell hWs _).setCell hWs _).setCell hWs _).setCell hWs _).setCell hWs _)) (fun hS => ?_)
      clear hK K
      (try simp only [Act.put, List.getElem_toArray, List.getElem_cons_zero, List.getElem_cons_succ, List.setIfInBounds_toArray, List.set_cons_zero, List.set_cons_succ])
      have hbl := ((((((HBB.out.set (i := 0) (.int .i64 p0)).set (i := 1) (.int .i64 0)).set (i := 2) (.int .i64 p2)).set (i := 3) (.slice ax2 m kx2)).set (i := 4) (.int .i64 p4)).set (i := 5) (.int .i64 p5))
      simp only [List.setIfInBounds_toArray, List.set_cons_zero, List.set_cons_succ] at hbl
      have hdj : w2.heap.size < y1.heap.size ∨ y2.heap.size ≤ w2.heap.size := by omega
      have hrow := ((((((q2.setB hdj 0 (.int .i64 p0)).setB hdj 1 (.int .i64 0)).setB hdj 2 (.int .i64 p2)).setB hdj 3 (.slice ax2 m kx2)).setB hdj 4 (.int .i64 p4)).setB hdj 5 (.int .i64 p5))
      have hx0 := hbl.cell 0
      simp only [List.getElem?_toArray, List.getElem?_cons_zero, List.getElem?_cons_succ] at hx0
      have hx1 := hbl.cell 1
      simp only [List.getElem?_toArray, List.getElem?_cons_zero, List.getElem?_cons_succ] at hx1
      have hx2 := hbl.cell 2
      simp only [List.getElem?_toArray, List.getElem?_cons_zero, List.getElem?_cons_succ] at hx2
      have hx3 := hbl.cell 3
      simp only [List.getElem?_toArray, List.getElem?_cons_zero, List.getElem?_cons_succ] at hx3
      have hx4 := hbl.cell 4
      simp only [List.getElem?_toArray, List.getElem?_cons_zero, List.getElem?_cons_succ] at hx4
      have hx5 := hbl.cell 5
      simp only [List.getElem?_toArray, List.getElem?_cons_zero, List.getElem?_cons_succ] at hx5
      refine wpAnyH_done (by kernel_rfl) ?_ _
      refine ⟨rfl, w2.heap.size, y1.heap.size, y2.heap.size, .slice ax2 m kx2, .agg #[.int .i64 e0, .slice ax0 n0 kx0, .int .i64 l0, .int .i64 z0], .agg #[.slice ax1 n1 kx1], ?_, hS, hWs, ?_, ?_, ?_, ?_, hrow, hx0, hx1, hx2, hx3, hx4, hx5⟩
      · simp only [Act.put, List.getElem_toArray, List.getElem_cons_zero, List.getElem_cons_succ, List.setIfInBounds_toArray, List.set_cons_zero, List.set_cons_succ]
      all_goals (try simp only [size_set])
      all_goals omega
  · skip
    rintro a' w3 ⟨B3, lo3, hi3, vg3, u3_0, u3_1, rfl, hc, bl3, bu3, ll3, hu3, dj3, rg3, cw00, cw01, cw02, cw03, cw04, cw05⟩
    obtain ⟨ag3, kg3, rfl, -⟩ := rg3.shape
    simp only [Act.put, List.getElem_toArray, List.getElem_cons_zero, List.getElem_cons_succ, List.setIfInBounds_toArray, List.set_cons_zero, List.set_cons_succ]
    have s3 : w2.heap.size ≤ w3.heap.size := hc.size
    have bq := hc
    replace caX0 := cell_later bq caX0
    replace caX1 := cell_later bq caX1
    replace caX2 := cell_later bq caX2
    replace caX3 := cell_later bq caX3
    replace zaX := Nat.lt_of_lt_of_le zaX bq.size
    replace caF0 := cell_later bq caF0
    replace zaF := Nat.lt_of_lt_of_le zaF bq.size
    replace hb := hb.trans (bq.mono hb.size)
    clear hc bq
    have zw0 := bu3
    go_wp2_with fail
    refine Calls.mono (toIndex_any e0 a0 n0 ca0 xs0 l0 z0 _ (hr0.below hb) (by omega)) ?_
    rintro e w4 ⟨vt4, rfl, rt4, hc⟩
    obtain ⟨at4, kt4, rfl, q1, q2⟩ := rt4.shape
    have Kt4 : Hid _ := And.intro q1 q2
    clear q1 q2
    have s4 : w3.heap.size ≤ w4.heap.size := hc.size
    have bq := hc
    replace caX0 := cell_later bq caX0
    replace caX1 := cell_later bq caX1
    replace caX2 := cell_later bq caX2
    replace caX3 := cell_later bq caX3
    replace zaX := Nat.lt_of_lt_of_le zaX bq.size
    replace caF0 := cell_later bq caF0
    replace zaF := Nat.lt_of_lt_of_le zaF bq.size
    replace cw00 := cell_later bq cw00
    replace cw01 := cell_later bq cw01
    replace cw02 := cell_later bq cw02
    replace cw03 := cell_later bq cw03
    replace cw04 := cell_later bq cw04
    replace cw05 := cell_later bq cw05
    replace zw0 := Nat.lt_of_lt_of_le zw0 bq.size
    replace rg3 := rg3.below bq
    replace hb := hb.trans (bq.mono hb.size)
    clear hc bq
    go_wp2_with fail
    have bp : ∀ o0, Below w4.heap.size w4 (w4.alloc o0) := fun o0 => (Below.refl _ _).alloc (Nat.le_refl _) o0
    have hbt : ∀ o0, Below w.heap.size w (w4.alloc o0) := fun o0 => hb.trans ((bp o0).mono hb.size)
    refine Calls.mono (toFile_any a1 n1 ca1 xs1 _ (hr1.below (hbt _)) (by omega)) ?_
    rintro e w5 ⟨vt5, rfl, rt5, hc⟩
    obtain ⟨at5, kt5, rfl, q1, q2⟩ := rt5.shape
    have Kt5 : Hid _ := And.intro q1 q2
    clear q1 q2
    replace rt5 := RowI.mono (lo' := w4.heap.size + 1) rt5 (by simp) (Nat.le_refl _)
    have s5 : w4.heap.size + 1 ≤ w5.heap.size := by have := hc.size; simp at this; omega
    have bq : Below w4.heap.size w4 w5 := (bp _).trans (hc.mono (bp _).size)
    replace caX0 := cell_later bq caX0
    replace caX1 := cell_later bq caX1
    replace caX2 := cell_later bq caX2
    replace caX3 := cell_later bq caX3
    replace zaX := Nat.lt_of_lt_of_le zaX bq.size
    replace caF0 := cell_later bq caF0
    replace zaF := Nat.lt_of_lt_of_le zaF bq.size
    replace cw00 := cell_later bq cw00
    replace cw01 := cell_later bq cw01
    replace cw02 := cell_later bq cw02
    replace cw03 := cell_later bq cw03
    replace cw04 := cell_later bq cw04
    replace cw05 := cell_later bq cw05
    replace zw0 := Nat.lt_of_lt_of_le zw0 bq.size
    have cx00 : w5.cell? ⟨w4.heap.size, 0, none⟩ = some (.int .i64 e0) := cell_later hc (by simp [go_sem])
    have cx01 : w5.cell? ⟨w4.heap.size, 1, none⟩ = some (.slice at4 n0 kt4) := cell_later hc (by simp [go_sem])
    have cx02 : w5.cell? ⟨w4.heap.size, 2, none⟩ = some (.int .i64 l0) := cell_later hc (by simp [go_sem])
    have cx03 : w5.cell? ⟨w4.heap.size, 3, none⟩ = some (.int .i64 z0) := cell_later hc (by simp [go_sem])
    have zx0 : w4.heap.size < w5.heap.size := by omega
    replace rg3 := rg3.below bq
    replace rt4 := rt4.below bq
    replace hb := hb.trans (bq.mono hb.size)
    clear hc bq bp hbt
    go_wp2_with fail
    have bp : ∀ o0, Below w5.heap.size w5 (w5.alloc o0) := fun o0 => (Below.refl _ _).alloc (Nat.le_refl _) o0
    have hbt : ∀ o0, Below w.heap.size w (w5.alloc o0) := fun o0 => hb.trans ((bp o0).mono hb.size)
    refine Calls.mono (HIC.out at4 kt4 at5 kt5 _ (rt4.below (bp _)).read Kt4.out.1 Kt4.out.2 (rt5.below (bp _)).read Kt5.out.1 Kt5.out.2) ?_
    rintro e w6 ⟨vg6, rfl, rg6, hc⟩
    obtain ⟨ag6, kg6, rfl, -⟩ := rg6.shape
    replace rg6 := RowI.mono (lo' := w5.heap.size + 1) rg6 (by simp) (Nat.le_refl _)
    have s6 : w5.heap.size + 1 ≤ w6.heap.size := by have := hc.size; simp at this; omega
    have bq : Below w5.heap.size w5 w6 := (bp _).trans (hc.mono (bp _).size)
    replace caX0 := cell_later bq caX0
    replace caX1 := cell_later bq caX1
    replace caX2 := cell_later bq caX2
    replace caX3 := cell_later bq caX3
    replace zaX := Nat.lt_of_lt_of_le zaX bq.size
    replace caF0 := cell_later bq caF0
    replace zaF := Nat.lt_of_lt_of_le zaF bq.size
    replace cw00 := cell_later bq cw00
    replace cw01 := cell_later bq cw01
    replace cw02 := cell_later bq cw02
    replace cw03 := cell_later bq cw03
    replace cw04 := cell_later bq cw04
    replace cw05 := cell_later bq cw05
    replace zw0 := Nat.lt_of_lt_of_le zw0 bq.size
    replace cx00 := cell_later bq cx00
    replace cx01 := cell_later bq cx01
    replace cx02 := cell_later bq cx02
    replace cx03 := cell_later bq cx03
    replace zx0 := Nat.lt_of_lt_of_le zx0 bq.size
    have cx10 : w6.cell? ⟨w5.heap.size, 0, none⟩ = some (.slice at5 n1 kt5) := cell_later hc (by simp [go_sem])
    have zx1 : w5.heap.size < w6.heap.size := by omega
    replace rg3 := rg3.below bq
    replace rt4 := rt4.below bq
    replace rt5 := rt5.below bq
    replace hb := hb.trans (bq.mono hb.size)
    clear hc bq bp hbt
    go_wp2_with fail
    have bp : ∀ o0, Below w6.heap.size w6 (w6.alloc o0) := fun o0 => (Below.refl _ _).alloc (Nat.le_refl _) o0
    have hbt : ∀ o0, Below w.heap.size w (w6.alloc o0) := fun o0 => hb.trans ((bp o0).mono hb.size)
    refine Calls.mono (eqIndexResult_yes p0 0 p2 ag6 ag3 m kg6 kg3 rs p4 p5 _ (rg6.below (bp _)).read (rg3.below (bp _)).read (by first | omega | (unfold maxLen; omega))) ?_
    rintro e w7 ⟨rfl, hc⟩
    have s7 : w6.heap.size + 1 ≤ w7.heap.size := by have := hc.size; simp at this; omega
    have bq : Below w6.heap.size w6 w7 := (bp _).trans (hc.mono (bp _).size)
    replace caX0 := cell_later bq caX0
    replace caX1 := cell_later bq caX1
    replace caX2 := cell_later bq caX2
    replace caX3 := cell_later bq caX3
    replace zaX := Nat.lt_of_lt_of_le zaX bq.size
    replace caF0 := cell_later bq caF0
    replace zaF := Nat.lt_of_lt_of_le zaF bq.size
    replace cw00 := cell_later bq cw00
    replace cw01 := cell_later bq cw01
    replace cw02 := cell_later bq cw02
    replace cw03 := cell_later bq cw03
    replace cw04 := cell_later bq cw04
    replace cw05 := cell_later bq cw05
    replace zw0 := Nat.lt_of_lt_of_le zw0 bq.size
    replace cx00 := cell_later bq cx00
    replace cx01 := cell_later bq cx01
    replace cx02 := cell_later bq cx02
    replace cx03 := cell_later bq cx03
    replace zx0 := Nat.lt_of_lt_of_le zx0 bq.size
    replace cx10 := cell_later bq cx10
    replace zx1 := Nat.lt_of_lt_of_le zx1 bq.size
    have cg00 : w7.cell? ⟨w6.heap.size, 0, none⟩ = some (.int .i64 p0) := cell_later hc (by simp [go_sem])
    have cg01 : w7.cell? ⟨w6.heap.size, 1, none⟩ = some (.int .i64 0) := cell_later hc (by simp [go_sem])
    have cg02 : w7.cell? ⟨w6.heap.size, 2, none⟩ = some (.int .i64 p2) := cell_later hc (by simp [go_sem])
    have cg03 : w7.cell? ⟨w6.heap.size, 3, none⟩ = some (.slice ag6 m kg6) := cell_later hc (by simp [go_sem])
    have cg04 : w7.cell? ⟨w6.heap.size, 4, none⟩ = some (.int .i64 p4) := cell_later hc (by simp [go_sem])
    have cg05 : w7.cell? ⟨w6.heap.size, 5, none⟩ = some (.int .i64 p5) := cell_later hc (by simp [go_sem])
    have zg0 : w6.heap.size < w7.heap.size := by omega
    replace rg3 := rg3.below bq
    replace rt4 := rt4.below bq
    replace rt5 := rt5.below bq
    replace rg6 := rg6.below bq
    replace hb := hb.trans (bq.mono hb.size)
    clear hc bq bp hbt
    go_wp2_with fail
    have bd : Below w7.heap.size w7 w7.drew := (Below.refl _ _).drew
    refine wp_region_held_drew (S := fun w' => w'.cell? ⟨w4.heap.size, 0, none⟩ = some (.int .i64 e0) ∧ w'.cell? ⟨w4.heap.size, 1, none⟩ = some (.slice at4 n0 kt4) ∧ w'.cell? ⟨w4.heap.size, 2, none⟩ = some (.int .i64 l0) ∧ w'.cell? ⟨w4.heap.size, 3, none⟩ = some (.int .i64 z0) ∧ w'.cell? ⟨w.heap.size, 0, none⟩ = some (.int .i64 e0) ∧ w'.cell? ⟨w.heap.size, 1, none⟩ = some (.slice a0 n0 ca0) ∧ w'.cell? ⟨w.heap.size, 2, none⟩ = some (.int .i64 l0) ∧ w'.cell? ⟨w.heap.size, 3, none⟩ = some (.int .i64 z0)) (by kernel_rfl) (by exact ⟨cx00, cx01, cx02, cx03, caX0, caX1, caX2, caX3⟩) (fun hS => ?_)
    refine wpAnyH_take (i := 0) (v := (.agg #[.int .i64 e0, .slice at4 n0 kt4, .int .i64 l0, .int .i64 z0])) rfl (by kernel_rfl) (by kernel_rfl) (by kernel_rfl) (fun _ _ _ h => h) (Or.inl ⟨by kernel_rfl, ?_⟩) hS ?_
    · intro w hSw; (try dsimp only at hSw); go_simp
    simp only [Act.put, List.getElem_toArray, List.getElem_cons_zero, List.getElem_cons_succ, List.setIfInBounds_toArray, List.set_cons_zero, List.set_cons_succ]
    refine wpAnyH_take (i := 1) (v := (.agg #[.int .i64 e0, .slice a0 n0 ca0, .int .i64 l0, .int .i64 z0])) rfl (by kernel_rfl) (by kernel_rfl) (by kernel_rfl) (fun _ _ _ h => h) (Or.inl ⟨by kernel_rfl, ?_⟩) hS ?_
    · intro w hSw; (try dsimp only at hSw); go_simp
    simp only [Act.put, List.getElem_toArray, List.getElem_cons_zero, List.getElem_cons_succ, List.setIfInBounds_toArray, List.set_cons_zero, List.set_cons_succ]
    refine wpAnyH_ready (rs := [2]) (by kernel_rfl) (by simp) ?_
    refine AllReadyH.cons rfl (fun K hK => ?_) AllReadyH.nil
    go_simp
    refine Calls.mono (toIndex_any e0 a0 n0 ca0 xs0 l0 z0 _ (hr0.below hb.drew) (by omega)) ?_
    rintro e w8 ⟨vt8, rfl, rt8, hc0⟩
    obtain ⟨at8, kt8, rfl, q1, q2⟩ := rt8.shape
    have Kt8 : Hid _ := And.intro q1 q2
    clear q1 q2
    replace rt8 := RowI.mono (lo' := w7.heap.size) rt8 (Nat.le_refl _) (Nat.le_refl _)
    refine hK.out _ _ ⟨cell_later hc0 hS.1, cell_later hc0 hS.2.1, cell_later hc0 hS.2.2.1, cell_later hc0 hS.2.2.2.1, cell_later hc0 hS.2.2.2.2.1, cell_later hc0 hS.2.2.2.2.2.1, cell_later hc0 hS.2.2.2.2.2.2.1, cell_later hc0 hS.2.2.2.2.2.2.2⟩ (fun hS => ?_)
    clear hK K
    have hc : Below w7.heap.size w7 w8 := bd.trans (hc0.mono (Nat.le_refl _))
    clear hc0 bd
    have s8 : w7.heap.size ≤ w8.heap.size := hc.size
    have bq := hc
    replace caX0 := cell_later bq caX0
    replace caX1 := cell_later bq caX1
    replace caX2 := cell_later bq caX2
    replace caX3 := cell_later bq caX3
    replace zaX := Nat.lt_of_lt_of_le zaX bq.size
    replace caF0 := cell_later bq caF0
    replace zaF := Nat.lt_of_lt_of_le zaF bq.size
    replace cw00 := cell_later bq cw00
    replace cw01 := cell_later bq cw01
    replace cw02 := cell_later bq cw02
    replace cw03 := cell_later bq cw03
    replace cw04 := cell_later bq cw04
    replace cw05 := cell_later bq cw05
    replace zw0 := Nat.lt_of_lt_of_le zw0 bq.size
    replace cx00 := cell_later bq cx00
    replace cx01 := cell_later bq cx01
    replace cx02 := cell_later bq cx02
    replace cx03 := cell_later bq cx03
    replace zx0 := Nat.lt_of_lt_of_le zx0 bq.size
    replace cx10 := cell_later bq cx10
    replace zx1 := Nat.lt_of_lt_of_le zx1 bq.size
    replace cg00 := cell_later bq cg00
    replace cg01 := cell_later bq cg01
    replace cg02 := cell_later bq cg02
    replace cg03 := cell_later bq cg03
    replace cg04 := cell_later bq cg04
    replace cg05 := cell_later bq cg05
    replace zg0 := Nat.lt_of_lt_of_le zg0 bq.size
    replace rg3 := rg3.below bq
    replace rt4 := rt4.below bq
    replace rt5 := rt5.below bq
    replace rg6 := rg6.below bq
    replace hb := hb.trans (bq.mono hb.size)
    clear hc bq
    refine wpAnyH_ready (rs := [3]) (by kernel_rfl) (by simp) ?_
    refine AllReadyH.cons rfl (fun K hK => ?_) AllReadyH.nil
    go_simp
    refine Calls.mono (eqIndex_yes e0 at4 at8 n0 kt4 kt8 xs0 l0 z0 _ rt4.read rt8.read (by first | omega | (unfold maxLen; omega))) ?_
    rintro e w9 ⟨rfl, hc0⟩
    refine hK.out _ _ ⟨cell_later hc0 hS.1, cell_later hc0 hS.2.1, cell_later hc0 hS.2.2.1, cell_later hc0 hS.2.2.2.1, cell_later hc0 hS.2.2.2.2.1, cell_later hc0 hS.2.2.2.2.2.1, cell_later hc0 hS.2.2.2.2.2.2.1, cell_later hc0 hS.2.2.2.2.2.2.2⟩ (fun hS => ?_)
    clear hK K
    have hc := hc0
    clear hc0
    have s9 : w8.heap.size ≤ w9.heap.size := hc.size
    have bq := hc
    replace caX0 := cell_later bq caX0
    replace caX1 := cell_later bq caX1
    replace caX2 := cell_later bq caX2
    replace caX3 := cell_later bq caX3
    replace zaX := Nat.lt_of_lt_of_le zaX bq.size
    replace caF0 := cell_later bq caF0
    replace zaF := Nat.lt_of_lt_of_le zaF bq.size
    replace cw00 := cell_later bq cw00
    replace cw01 := cell_later bq cw01
    replace cw02 := cell_later bq cw02
    replace cw03 := cell_later bq cw03
    replace cw04 := cell_later bq cw04
    replace cw05 := cell_later bq cw05
    replace zw0 := Nat.lt_of_lt_of_le zw0 bq.size
    replace cx00 := cell_later bq cx00
    replace cx01 := cell_later bq cx01
    replace cx02 := cell_later bq cx02
    replace cx03 := cell_later bq cx03
    replace zx0 := Nat.lt_of_lt_of_le zx0 bq.size
    replace cx10 := cell_later bq cx10
    replace zx1 := Nat.lt_of_lt_of_le zx1 bq.size
    replace cg00 := cell_later bq cg00
    replace cg01 := cell_later bq cg01
    replace cg02 := cell_later bq cg02
    replace cg03 := cell_later bq cg03
    replace cg04 := cell_later bq cg04
    replace cg05 := cell_later bq cg05
    replace zg0 := Nat.lt_of_lt_of_le zg0 bq.size
    replace rg3 := rg3.below bq
    replace rt4 := rt4.below bq
    replace rt5 := rt5.below bq
    replace rg6 := rg6.below bq
    replace rt8 := rt8.below bq
    replace hb := hb.trans (bq.mono hb.size)
    clear hc bq
    clear rt8 Kt8
    refine wpAnyH_take (i := 4) (v := (.bool false)) rfl (by kernel_rfl) (by kernel_rfl) (by kernel_rfl) (fun _ _ _ h => h) (Or.inl ⟨by kernel_rfl, ?_⟩) hS ?_
    · intro w hSw; (try dsimp only at hSw); go_simp
    simp only [Act.put, List.getElem_toArray, List.getElem_cons_zero, List.getElem_cons_succ, List.setIfInBounds_toArray, List.set_cons_zero, List.set_cons_succ]
    refine wpAnyH_done (by kernel_rfl) ?_ _
    clear hS
    go_wp2_with fail
    have bd : Below w9.heap.size w9 w9.drew := (Below.refl _ _).drew
    refine wp_region_held_drew (S := fun w' => w'.cell? ⟨w5.heap.size, 0, none⟩ = some (.slice at5 n1 kt5) ∧ w'.cell? ⟨w.heap.size + 1, 0, none⟩ = some (.slice a1 n1 ca1)) (by kernel_rfl) (by exact ⟨cx10, caF0⟩) (fun hS => ?_)
    refine wpAnyH_take (i := 0) (v := (.agg #[.slice at5 n1 kt5])) rfl (by kernel_rfl) (by kernel_rfl) (by kernel_rfl) (fun _ _ _ h => h) (Or.inl ⟨by kernel_rfl, ?_⟩) hS ?_
    · intro w hSw; (try dsimp only at hSw); go_simp
    simp only [Act.put, List.getElem_toArray, List.getElem_cons_zero, List.getElem_cons_succ, List.setIfInBounds_toArray, List.set_cons_zero, List.set_cons_succ]
    refine wpAnyH_take (i := 1) (v := (.agg #[.slice a1 n1 ca1])) rfl (by kernel_rfl) (by kernel_rfl) (by kernel_rfl) (fun _ _ _ h => h) (Or.inl ⟨by kernel_rfl, ?_⟩) hS ?_
    · intro w hSw; (try dsimp only at hSw); go_simp
    simp only [Act.put, List.getElem_toArray, List.getElem_cons_zero, List.getElem_cons_succ, List.setIfInBounds_toArray, List.set_cons_zero, List.set_cons_succ]
    refine wpAnyH_ready (rs := [2]) (by kernel_rfl) (by simp) ?_
    refine AllReadyH.cons rfl (fun K hK => ?_) AllReadyH.nil
    go_simp
    refine Calls.mono (toFile_any a1 n1 ca1 xs1 _ (hr1.below hb.drew) (by omega)) ?_
    rintro e w10 ⟨vt10, rfl, rt10, hc0⟩
    obtain ⟨at10, kt10, rfl, q1, q2⟩ := rt10.shape
    have Kt10 : Hid _ := And.intro q1 q2
    clear q1 q2
    replace rt10 := RowI.mono (lo' := w9.heap.size) rt10 (Nat.le_refl _) (Nat.le_refl _)
    refine hK.out _ _ ⟨cell_later hc0 hS.1, cell_later hc0 hS.2⟩ (fun hS => ?_)
    clear hK K
    have hc : Below w9.heap.size w9 w10 := bd.trans (hc0.mono (Nat.le_refl _))
    clear hc0 bd
    have s10 : w9.heap.size ≤ w10.heap.size := hc.size
    have bq := hc
    replace caX0 := cell_later bq caX0
    replace caX1 := cell_later bq caX1
    replace caX2 := cell_later bq caX2
    replace caX3 := cell_later bq caX3
    replace zaX := Nat.lt_of_lt_of_le zaX bq.size
    replace caF0 := cell_later bq caF0
    replace zaF := Nat.lt_of_lt_of_le zaF bq.size
    replace cw00 := cell_later bq cw00
    replace cw01 := cell_later bq cw01
    replace cw02 := cell_later bq cw02
    replace cw03 := cell_later bq cw03
    replace cw04 := cell_later bq cw04
    replace cw05 := cell_later bq cw05
    replace zw0 := Nat.lt_of_lt_of_le zw0 bq.size
    replace cx00 := cell_later bq cx00
    replace cx01 := cell_later bq cx01
    replace cx02 := cell_later bq cx02
    replace cx03 := cell_later bq cx03
    replace zx0 := Nat.lt_of_lt_of_le zx0 bq.size
    replace cx10 := cell_later bq cx10
    replace zx1 := Nat.lt_of_lt_of_le zx1 bq.size
    replace cg00 := cell_later bq cg00
    replace cg01 := cell_later bq cg01
    replace cg02 := cell_later bq cg02
    replace cg03 := cell_later bq cg03
    replace cg04 := cell_later bq cg04
    replace cg05 := cell_later bq cg05
    replace zg0 := Nat.lt_of_lt_of_le zg0 bq.size
    replace rg3 := rg3.below bq
    replace rt4 := rt4.below bq
    replace rt5 := rt5.below bq
    replace rg6 := rg6.below bq
    replace hb := hb.trans (bq.mono hb.size)
    clear hc bq
    refine wpAnyH_ready (rs := [3]) (by kernel_rfl) (by simp) ?_
    refine AllReadyH.cons rfl (fun K hK => ?_) AllReadyH.nil
    go_simp
    refine Calls.mono (eqFile_yes at5 at10 n1 kt5 kt10 xs1 _ rt5.read rt10.read (by first | omega | (unfold maxLen; omega))) ?_
    rintro e w11 ⟨rfl, hc0⟩
    refine hK.out _ _ ⟨cell_later hc0 hS.1, cell_later hc0 hS.2⟩ (fun hS => ?_)
    clear hK K
    have hc := hc0
    clear hc0
    have s11 : w10.heap.size ≤ w11.heap.size := hc.size
    have bq := hc
    replace caX0 := cell_later bq caX0
    replace caX1 := cell_later bq caX1
    replace caX2 := cell_later bq caX2
    replace caX3 := cell_later bq caX3
    replace zaX := Nat.lt_of_lt_of_le zaX bq.size
    replace caF0 := cell_later bq caF0
    replace zaF := Nat.lt_of_lt_of_le zaF bq.size
    replace cw00 := cell_later bq cw00
    replace cw01 := cell_later bq cw01
    replace cw02 := cell_later bq cw02
    replace cw03 := cell_later bq cw03
    replace cw04 := cell_later bq cw04
    replace cw05 := cell_later bq cw05
    replace zw0 := Nat.lt_of_lt_of_le zw0 bq.size
    replace cx00 := cell_later bq cx00
    replace cx01 := cell_later bq cx01
    replace cx02 := cell_later bq cx02
    replace cx03 := cell_later bq cx03
    replace zx0 := Nat.lt_of_lt_of_le zx0 bq.size
    replace cx10 := cell_later bq cx10
    replace zx1 := Nat.lt_of_lt_of_le zx1 bq.size
    replace cg00 := cell_later bq cg00
    replace cg01 := cell_later bq cg01
    replace cg02 := cell_later bq cg02
    replace cg03 := cell_later bq cg03
    replace cg04 := cell_later bq cg04
    replace cg05 := cell_later bq cg05
    replace zg0 := Nat.lt_of_lt_of_le zg0 bq.size
    replace rg3 := rg3.below bq
    replace rt4 := rt4.below bq
    replace rt5 := rt5.below bq
    replace rg6 := rg6.below bq
    replace rt10 := rt10.below bq
    replace hb := hb.trans (bq.mono hb.size)
    clear hc bq
    clear rt10 Kt10
    refine wpAnyH_take (i := 4) (v := (.bool false)) rfl (by kernel_rfl) (by kernel_rfl) (by kernel_rfl) (fun _ _ _ h => h) (Or.inl ⟨by kernel_rfl, ?_⟩) hS ?_
    · intro w hSw; (try dsimp only at hSw); go_simp
    simp only [Act.put, List.getElem_toArray, List.getElem_cons_zero, List.getElem_cons_succ, List.setIfInBounds_toArray, List.set_cons_zero, List.set_cons_succ]
    refine wpAnyH_done (by kernel_rfl) ?_ _
    clear hS
    go_wp2_with fail
    refine Calls.mono (markIndex_row e0 l0 z0 1 _ n0 _ _ xs0 _ rt4 (by omega) (by omega) (by omega)) ?_
    clear rt4
    rintro e w12 ⟨rfl, rt4, hc⟩
    have s12 : w11.heap.size ≤ w12.heap.size := hc.size
    have cq := hc
    replace caX0 := cq.at caX0 zaX (by omega)
    replace caX1 := cq.at caX1 zaX (by omega)
    replace caX2 := cq.at caX2 zaX (by omega)
    replace caX3 := cq.at caX3 zaX (by omega)
    replace zaX := Nat.lt_of_lt_of_le zaX cq.size
    replace caF0 := cq.at caF0 zaF (by omega)
    replace zaF := Nat.lt_of_lt_of_le zaF cq.size
    replace cw00 := cq.at cw00 zw0 (by omega)
    replace cw01 := cq.at cw01 zw0 (by omega)
    replace cw02 := cq.at cw02 zw0 (by omega)
    replace cw03 := cq.at cw03 zw0 (by omega)
    replace cw04 := cq.at cw04 zw0 (by omega)
    replace cw05 := cq.at cw05 zw0 (by omega)
    replace zw0 := Nat.lt_of_lt_of_le zw0 cq.size
    replace cx00 := cq.at cx00 zx0 (by omega)
    replace cx01 := cq.at cx01 zx0 (by omega)
    replace cx02 := cq.at cx02 zx0 (by omega)
    replace cx03 := cq.at cx03 zx0 (by omega)
    replace zx0 := Nat.lt_of_lt_of_le zx0 cq.size
    replace cx10 := cq.at cx10 zx1 (by omega)
    replace zx1 := Nat.lt_of_lt_of_le zx1 cq.size
    replace cg00 := cq.at cg00 zg0 (by omega)
    replace cg01 := cq.at cg01 zg0 (by omega)
    replace cg02 := cq.at cg02 zg0 (by omega)
    replace cg03 := cq.at cg03 zg0 (by omega)
    replace cg04 := cq.at cg04 zg0 (by omega)
    replace cg05 := cq.at cg05 zg0 (by omega)
    replace zg0 := Nat.lt_of_lt_of_le zg0 cq.size
    replace rg3 := rg3.chg cq (by omega)
    replace rt5 := rt5.chg cq (by omega)
    replace rg6 := rg6.chg cq (by omega)
    replace hb := below_chg hb cq hb.size (by omega)
    clear hc cq
    have hk12 : ¬ (1 + (n0 : Int)) < 0 := by omega
    go_wp2_with fail
    refine Calls.mono (markFile_row  (1 + (n0 : Int)) _ n1 _ _ xs1 _ rt5 (by omega) (by omega) (by omega)) ?_
    clear rt5
    rintro e w13 ⟨rfl, rt5, hc⟩
    have s13 : w12.heap.size ≤ w13.heap.size := hc.size
    have cq := hc
    replace caX0 := cq.at caX0 zaX (by omega)
    replace caX1 := cq.at caX1 zaX (by omega)
    replace caX2 := cq.at caX2 zaX (by omega)
    replace caX3 := cq.at caX3 zaX (by omega)
    replace zaX := Nat.lt_of_lt_of_le zaX cq.size
    replace caF0 := cq.at caF0 zaF (by omega)
    replace zaF := Nat.lt_of_lt_of_le zaF cq.size
    replace cw00 := cq.at cw00 zw0 (by omega)
    replace cw01 := cq.at cw01 zw0 (by omega)
    replace cw02 := cq.at cw02 zw0 (by omega)
    replace cw03 := cq.at cw03 zw0 (by omega)
    replace cw04 := cq.at cw04 zw0 (by omega)
    replace cw05 := cq.at cw05 zw0 (by omega)
    replace zw0 := Nat.lt_of_lt_of_le zw0 cq.size
    replace cx00 := cq.at cx00 zx0 (by omega)
    replace cx01 := cq.at cx01 zx0 (by omega)
    replace cx02 := cq.at cx02 zx0 (by omega)
    replace cx03 := cq.at cx03 zx0 (by omega)
    replace zx0 := Nat.lt_of_lt_of_le zx0 cq.size
    replace cx10 := cq.at cx10 zx1 (by omega)
    replace zx1 := Nat.lt_of_lt_of_le zx1 cq.size
    replace cg00 := cq.at cg00 zg0 (by omega)
    replace cg01 := cq.at cg01 zg0 (by omega)
    replace cg02 := cq.at cg02 zg0 (by omega)
    replace cg03 := cq.at cg03 zg0 (by omega)
    replace cg04 := cq.at cg04 zg0 (by omega)
    replace cg05 := cq.at cg05 zg0 (by omega)
    replace zg0 := Nat.lt_of_lt_of_le zg0 cq.size
    replace rg3 := rg3.chg cq (by omega)
    replace rt4 := rt4.chg cq (by omega)
    replace rg6 := rg6.chg cq (by omega)
    replace hb := below_chg hb cq hb.size (by omega)
    clear hc cq
    have hk13 : ¬ ((1 + (n0 : Int)) + (n1 : Int)) < 0 := by omega
    go_wp2_with fail
    refine Calls.mono (eqIndexResult_yes p0 0 p2 ag6 ag3 m kg6 kg3 rs p4 p5 _ rg6.read rg3.read (by first | omega | (unfold maxLen; omega))) ?_
    rintro e w14 ⟨rfl, hc⟩
    have s14 : w13.heap.size ≤ w14.heap.size := hc.size
    have bq := hc
    replace caX0 := cell_later bq caX0
    replace caX1 := cell_later bq caX1
    replace caX2 := cell_later bq caX2
    replace caX3 := cell_later bq caX3
    replace zaX := Nat.lt_of_lt_of_le zaX bq.size
    replace caF0 := cell_later bq caF0
    replace zaF := Nat.lt_of_lt_of_le zaF bq.size
    replace cw00 := cell_later bq cw00
    replace cw01 := cell_later bq cw01
    replace cw02 := cell_later bq cw02
    replace cw03 := cell_later bq cw03
    replace cw04 := cell_later bq cw04
    replace cw05 := cell_later bq cw05
    replace zw0 := Nat.lt_of_lt_of_le zw0 bq.size
    replace cx00 := cell_later bq cx00
    replace cx01 := cell_later bq cx01
    replace cx02 := cell_later bq cx02
    replace cx03 := cell_later bq cx03
    replace zx0 := Nat.lt_of_lt_of_le zx0 bq.size
    replace cx10 := cell_later bq cx10
    replace zx1 := Nat.lt_of_lt_of_le zx1 bq.size
    replace cg00 := cell_later bq cg00
    replace cg01 := cell_later bq cg01
    replace cg02 := cell_later bq cg02
    replace cg03 := cell_later bq cg03
    replace cg04 := cell_later bq cg04
    replace cg05 := cell_later bq cg05
    replace zg0 := Nat.lt_of_lt_of_le zg0 bq.size
    replace rg3 := rg3.below bq
    replace rt4 := rt4.below bq
    replace rt5 := rt5.below bq
    replace rg6 := rg6.below bq
    replace hb := hb.trans (bq.mono hb.size)
    clear hc bq
    go_wp2_with fail
    refine Calls.mono (markIndexResult_row p0 0 p2 p4 p5 1 _ m _ _ rs _ rg6 (by omega) (by omega) (by omega)) ?_
    clear rg6
    rintro e w15 ⟨rfl, rg6, hc⟩
    have s15 : w14.heap.size ≤ w15.heap.size := hc.size
    have cq := hc
    replace caX0 := cq.at caX0 zaX (by omega)
    replace caX1 := cq.at caX1 zaX (by omega)
    replace caX2 := cq.at caX2 zaX (by omega)
    replace caX3 := cq.at caX3 zaX (by omega)
    replace zaX := Nat.lt_of_lt_of_le zaX cq.size
    replace caF0 := cq.at caF0 zaF (by omega)
    replace zaF := Nat.lt_of_lt_of_le zaF cq.size
    replace cw00 := cq.at cw00 zw0 (by omega)
    replace cw01 := cq.at cw01 zw0 (by omega)
    replace cw02 := cq.at cw02 zw0 (by omega)
    replace cw03 := cq.at cw03 zw0 (by omega)
    replace cw04 := cq.at cw04 zw0 (by omega)
    replace cw05 := cq.at cw05 zw0 (by omega)
    replace zw0 := Nat.lt_of_lt_of_le zw0 cq.size
    replace cx00 := cq.at cx00 zx0 (by omega)
    replace cx01 := cq.at cx01 zx0 (by omega)
    replace cx02 := cq.at cx02 zx0 (by omega)
    replace cx03 := cq.at cx03 zx0 (by omega)
    replace zx0 := Nat.lt_of_lt_of_le zx0 cq.size
    replace cx10 := cq.at cx10 zx1 (by omega)
    replace zx1 := Nat.lt_of_lt_of_le zx1 cq.size
    replace cg00 := cq.at cg00 zg0 (by omega)
    replace cg01 := cq.at cg01 zg0 (by omega)
    replace cg02 := cq.at cg02 zg0 (by omega)
    replace cg03 := cq.at cg03 zg0 (by omega)
    replace cg04 := cq.at cg04 zg0 (by omega)
    replace cg05 := cq.at cg05 zg0 (by omega)
    replace zg0 := Nat.lt_of_lt_of_le zg0 cq.size
    replace rg3 := rg3.chg cq (by omega)
    replace rt4 := rt4.chg cq (by omega)
    replace rt5 := rt5.chg cq (by omega)
    replace hb := below_chg hb cq hb.size (by omega)
    clear hc cq
    have hk15 : ¬ (1 + (m : Int)) < 0 := by omega
    go_wp2_with fail
    refine Calls.mono (heldIndexResult_yes p0 0 p2 p4 p5 1 ag6 m kg6 _ rg6.read (by omega) (by omega) (by omega)) ?_
    rintro e w16 ⟨rfl, hc⟩
    have s16 : w15.heap.size ≤ w16.heap.size := hc.size
    have bq := hc
    replace caX0 := cell_later bq caX0
    replace caX1 := cell_later bq caX1
    replace caX2 := cell_later bq caX2
    replace caX3 := cell_later bq caX3
    replace zaX := Nat.lt_of_lt_of_le zaX bq.size
    replace caF0 := cell_later bq caF0
    replace zaF := Nat.lt_of_lt_of_le zaF bq.size
    replace cw00 := cell_later bq cw00
    replace cw01 := cell_later bq cw01
    replace cw02 := cell_later bq cw02
    replace cw03 := cell_later bq cw03
    replace cw04 := cell_later bq cw04
    replace cw05 := cell_later bq cw05
    replace zw0 := Nat.lt_of_lt_of_le zw0 bq.size
    replace cx00 := cell_later bq cx00
    replace cx01 := cell_later bq cx01
    replace cx02 := cell_later bq cx02
    replace cx03 := cell_later bq cx03
    replace zx0 := Nat.lt_of_lt_of_le zx0 bq.size
    replace cx10 := cell_later bq cx10
    replace zx1 := Nat.lt_of_lt_of_le zx1 bq.size
    replace cg00 := cell_later bq cg00
    replace cg01 := cell_later bq cg01
    replace cg02 := cell_later bq cg02
    replace cg03 := cell_later bq cg03
    replace cg04 := cell_later bq cg04
    replace cg05 := cell_later bq cg05
    replace zg0 := Nat.lt_of_lt_of_le zg0 bq.size
    replace rg3 := rg3.below bq
    replace rt4 := rt4.below bq
    replace rt5 := rt5.below bq
    replace rg6 := rg6.below bq
    replace hb := hb.trans (bq.mono hb.size)
    clear hc bq
    go_wp2_with fail
    refine region_join (fun a a' w' => ∃ (B lo hi : Nat) (v v0 v1 : Value), a' = ((((((a.put (some 75) (.agg #[.int .i64 e0, .slice a0 n0 ca0, .int .i64 l0, .int .i64 z0])).put (some 77) (.agg #[.slice a1 n1 ca1])).put (some 76) v0).put (some 78) v1).put (some 79) (.agg #[.int .i64 p0, .int .i64 0, .int .i64 p2, v, .int .i64 p4, .int .i64 p5])).put (some 13) (.pointer (some ⟨B, 0, none⟩))) ∧ Below w16.heap.size w16 w' ∧ w16.heap.size ≤ B ∧ B < w'.heap.size ∧ w16.heap.size ≤ lo ∧ hi ≤ w'.heap.size ∧ (B < lo ∨ hi ≤ B) ∧ RowI .i64 2 w' lo hi v m rs ∧ w'.cell? ⟨B, 0, none⟩ = some (.int .i64 p0) ∧ w'.cell? ⟨B, 1, none⟩ = some (.int .i64 0) ∧ w'.cell? ⟨B, 2, none⟩ = some (.int .i64 p2) ∧ w'.cell? ⟨B, 3, none⟩ = some (v) ∧ w'.cell? ⟨B, 4, none⟩ = some (.int .i64 p4) ∧ w'.cell? ⟨B, 5, none⟩ = some (.int .i64 p5)) ?_ ?_
    · skip
      refine wp_region_held_drew (S := fun w' => Below w16.heap.size w16 w') (by kernel_rfl) (Below.refl _ _).drew (fun hS => ?_)
      have hdz : w16.drew.heap.size = w16.heap.size := rfl
      refine wpAnyH_take (i := 0) (v := (.agg #[.int .i64 e0, .slice a0 n0 ca0, .int .i64 l0, .int .i64 z0])) rfl (by kernel_rfl) (by kernel_rfl) (by kernel_rfl) (fun _ _ _ h => nomatch h.1) (Or.inl ⟨by kernel_rfl, ?_⟩) hS ?_
      · intro w hSw; (try dsimp only at hSw); have hl0 := cell_later hSw caX0; have hl1 := cell_later hSw caX1; have hl2 := cell_later hSw caX2; have hl3 := cell_later hSw caX3; go_simp
      (try simp only [Act.put, List.getElem_toArray, List.getElem_cons_zero, List.getElem_cons_succ, List.setIfInBounds_toArray, List.set_cons_zero, List.set_cons_succ])
      refine wpAnyH_take (i := 2) (v := (.agg #[.slice a1 n1 ca1])) rfl (by kernel_rfl) (by kernel_rfl) (by kernel_rfl) (fun _ _ _ h => nomatch h.1) (Or.inl ⟨by kernel_rfl, ?_⟩) hS ?_
      · intro w hSw; (try dsimp only at hSw); have hl0 := cell_later hSw caF0; go_simp
      (try simp only [Act.put, List.getElem_toArray, List.getElem_cons_zero, List.getElem_cons_succ, List.setIfInBounds_toArray, List.set_cons_zero, List.set_cons_succ])
      refine wpAnyH_ready (rs := [1, 5]) (by as_aux_lemma => kernel_rfl) (by simp) ?_
      refine AllReadyH.cons rfl (fun K hK => ?_) (AllReadyH.cons rfl (fun K hK => ?_) AllReadyH.nil)
      · skip
        go_simp
        refine Calls.mono (toIndex_any e0 a0 n0 ca0 xs0 l0 z0 _ (hr0.below (hb.trans (hS.mono hb.size))) (by omega)) ?_
        rintro e y0 ⟨x0, rfl, q0, hc⟩
        obtain ⟨ax0, kx0, rfl, g1, g2⟩ := q0.shape
        have KQ0 : Hid _ := And.intro g1 g2
        clear g1 g2
        have sz0 := hc.size
        refine hK.out _ _ (hS.trans (hc.mono hS.size)) (fun hS => ?_)
        clear hK K
        (try simp only [Act.put, List.getElem_toArray, List.getElem_cons_zero, List.getElem_cons_succ, List.setIfInBounds_toArray, List.set_cons_zero, List.set_cons_succ])
        clear hc
        refine wpAnyH_ready (rs := [3, 5]) (by as_aux_lemma => kernel_rfl) (by simp) ?_
        refine AllReadyH.cons rfl (fun K hK => ?_) (AllReadyH.cons rfl (fun K hK => ?_) AllReadyH.nil)
        · skip
          go_simp
          refine Calls.mono (toFile_any a1 n1 ca1 xs1 _ (hr1.below (hb.trans (hS.mono hb.size))) (by omega)) ?_
          rintro e y1 ⟨x1, rfl, q1, hc⟩
          obtain ⟨ax1, kx1, rfl, g1, g2⟩ := q1.shape
          have KQ1 : Hid _ := And.intro g1 g2
          clear g1 g2
          replace q0 := q0.below hc
          have sz1 := hc.size
          refine hK.out _ _ (hS.trans (hc.mono hS.size)) (fun hS => ?_)
          clear hK K
          (try simp only [Act.put, List.getElem_toArray, List.getElem_cons_zero, List.getElem_cons_succ, List.setIfInBounds_toArray, List.set_cons_zero, List.set_cons_succ])
          clear hc
          refine wpAnyH_ready (rs := [4, 5]) (by as_aux_lemma => kernel_rfl) (by simp) ?_
          refine AllReadyH.cons rfl (fun K hK => ?_) (AllReadyH.cons rfl (fun K hK => ?_) AllReadyH.nil)
          · skip
            go_simp
            refine Calls.mono (HIC.out ax0 kx0 ax1 kx1 _ q0.read KQ0.out.1 KQ0.out.2 q1.read KQ1.out.1 KQ1.out.2) ?_
            rintro e y2 ⟨x2, rfl, q2, hc⟩
            obtain ⟨ax2, kx2, rfl, -⟩ := q2.shape
            replace q0 := q0.below hc
            replace q1 := q1.below hc
            have sz2 := hc.size
            refine hK.out _ _ (hS.trans (hc.mono hS.size)) (fun hS => ?_)
            clear hK K
            (try simp only [Act.put, List.getElem_toArray, List.getElem_cons_zero, List.getElem_cons_succ, List.setIfInBounds_toArray, List.set_cons_zero, List.set_cons_succ])
            clear hc
            refine wpAnyH_ready (rs := [5]) (by as_aux_lemma => kernel_rfl) (by simp) ?_
            refine AllReadyH.cons rfl (fun K hK => ?_) AllReadyH.nil
            go_simp
            refine hK.out _ _ (hS.alloc hS.size _) (fun hS => ?_)
            clear hK K
            (try simp only [Act.put, List.getElem_toArray, List.getElem_cons_zero, List.getElem_cons_succ, List.setIfInBounds_toArray, List.set_cons_zero, List.set_cons_succ])
            have NB : Below y2.heap.size y2 (y2.alloc (.cells #[.int .i64 0, .int .i64 0, .int .i64 0, .slice none 0 0, .int .i64 0, .int .i64 0] 34)) := (Below.refl _ _).alloc (Nat.le_refl _) _
            have hB := Blk.new y2 #[.int .i64 0, .int .i64 0, .int .i64 0, .slice none 0 0, .int .i64 0, .int .i64 0] 34
            replace q0 := q0.below NB
            replace q1 := q1.below NB
            replace q2 := q2.below NB
            have szA := NB.size
            have ltA := hB.lt
            clear NB
            generalize y2.alloc (.cells #[.int .i64 0, .int .i64 0, .int .i64 0, .slice none 0 0, .int .i64 0, .int .i64 0] 34) = yA at *
            have d0 : yA.cell? ⟨y2.heap.size, 0, none⟩ = some (.int .i64 0) := hB.cell 0
            have df0 := hB.frozen 0
            have d1 : yA.cell? ⟨y2.heap.size, 1, none⟩ = some (.int .i64 0) := hB.cell 1
            have df1 := hB.frozen 1
            have d2 : yA.cell? ⟨y2.heap.size, 2, none⟩ = some (.int .i64 0) := hB.cell 2
            have df2 := hB.frozen 2
            have d3 : yA.cell? ⟨y2.heap.size, 3, none⟩ = some (.slice none 0 0) := hB.cell 3
            have df3 := hB.frozen 3
            have d4 : yA.cell? ⟨y2.heap.size, 4, none⟩ = some (.int .i64 0) := hB.cell 4
            have df4 := hB.frozen 4
            have d5 : yA.cell? ⟨y2.heap.size, 5, none⟩ = some (.int .i64 0) := hB.cell 5
            have df5 := hB.frozen 5
            refine wpAnyH_ready (rs := [6]) (by as_aux_lemma => kernel_rfl) (by simp) ?_
            refine AllReadyH.cons rfl (fun K hK => ?_) AllReadyH.nil
            have HBB := hid hB
            clear hB
            go_simp
            have hWs : w16.heap.size ≤ y2.heap.size := by have := hS.size; omega
            refine hK.out _ _ (((((((hS.setCell hWs _).setCell hWs _).setCell hWs _).setCell hWs _).setCell hWs _).setCell hWs _)) (fun hS => ?_)
            clear hK K
            (try simp only [Act.put, List.getElem_toArray, List.getElem_cons_zero, List.getElem_cons_succ, List.setIfInBounds_toArray, List.set_cons_zero, List.set_cons_succ])
            have hbl := ((((((HBB.out.set (i := 0) (.int .i64 p0)).set (i := 1) (.int .i64 0)).set (i := 2) (.int .i64 p2)).set (i := 3) (.slice ax2 m kx2)).set (i := 4) (.int .i64 p4)).set (i := 5) (.int .i64 p5))
            simp only [List.setIfInBounds_toArray, List.set_cons_zero, List.set_cons_succ] at hbl
            have hdj : y2.heap.size < y1.heap.size ∨ y2.heap.size ≤ y2.heap.size := by omega
            have hrow := ((((((q2.setB hdj 0 (.int .i64 p0)).setB hdj 1 (.int .i64 0)).setB hdj 2 (.int .i64 p2)).setB hdj 3 (.slice ax2 m kx2)).setB hdj 4 (.int .i64 p4)).setB hdj 5 (.int .i64 p5))
            have hx0 := hbl.cell 0
            simp only [List.getElem?_toArray, List.getElem?_cons_zero, List.getElem?_cons_succ] at hx0
            have hx1 := hbl.cell 1
            simp only [List.getElem?_toArray, List.getElem?_cons_zero, List.getElem?_cons_succ] at hx1
            have hx2 := hbl.cell 2
            simp only [List.getElem?_toArray, List.getElem?_cons_zero, List.getElem?_cons_succ] at hx2
            have hx3 := hbl.cell 3
            simp only [List.getElem?_toArray, List.getElem?_cons_zero, List.getElem?_cons_succ] at hx3
            have hx4 := hbl.cell 4
            simp only [List.getElem?_toArray, List.getElem?_cons_zero, List.getElem?_cons_succ] at hx4
            have hx5 := hbl.cell 5
            simp only [List.getElem?_toArray, List.getElem?_cons_zero, List.getElem?_cons_succ] at hx5
            refine wpAnyH_done (by kernel_rfl) ?_ _
            refine ⟨rfl, y2.heap.size, y1.heap.size, y2.heap.size, .slice ax2 m kx2, .agg #[.int .i64 e0, .slice ax0 n0 kx0, .int .i64 l0, .int .i64 z0], .agg #[.slice ax1 n1 kx1], ?_, hS, hWs, ?_, ?_, ?_, ?_, hrow, hx0, hx1, hx2, hx3, hx4, hx5⟩
            · simp only [Act.put, List.getElem_toArray, List.getElem_cons_zero, List.getElem_cons_succ, List.setIfInBounds_toArray, List.set_cons_zero, List.set_cons_succ]
            all_goals (try simp only [size_set])
            all_goals omega
          · skip
            go_simp
            refine hK.out _ _ (hS.alloc hS.size _) (fun hS => ?_)
            clear hK K
            (try simp only [Act.put, List.getElem_toArray, List.getElem_cons_zero, List.getElem_cons_succ, List.setIfInBounds_toArray, List.set_cons_zero, List.set_cons_succ])
            have NB : Below y1.heap.size y1 (y1.alloc (.cells #[.int .i64 0, .int .i64 0, .int .i64 0, .slice none 0 0, .int .i64 0, .int .i64 0] 34)) := (Below.refl _ _).alloc (Nat.le_refl _) _
            have hB := Blk.new y1 #[.int .i64 0, .int .i64 0, .int .i64 0, .slice none 0 0, .int .i64 0, .int .i64 0] 34
            replace q0 := q0.below NB
            replace q1 := q1.below NB
            have szA := NB.size
            have ltA := hB.lt
            clear NB
            generalize y1.alloc (.cells #[.int .i64 0, .int .i64 0, .int .i64 0, .slice none 0 0, .int .i64 0, .int .i64 0] 34) = yA at *
            refine wpAnyH_ready (rs := [4]) (by as_aux_lemma => kernel_rfl) (by simp) ?_
            refine AllReadyH.cons rfl (fun K hK => ?_) AllReadyH.nil
            go_simp
            refine Calls.mono (HIC.out ax0 kx0 ax1 kx1 _ q0.read KQ0.out.1 KQ0.out.2 q1.read KQ1.out.1 KQ1.out.2) ?_
            rintro e y2 ⟨x2, rfl, q2, hc⟩
            obtain ⟨ax2, kx2, rfl, -⟩ := q2.shape
            replace q0 := q0.below hc
            replace q1 := q1.below hc
            replace hB := hB.below hc
            have sz2 := hc.size
            refine hK.out _ _ (hS.trans (hc.mono hS.size)) (fun hS => ?_)
            clear hK K
            (try simp only [Act.put, List.getElem_toArray, List.getElem_cons_zero, List.getElem_cons_succ, List.setIfInBounds_toArray, List.set_cons_zero, List.set_cons_succ])
            clear hc
            have d0 : y2.cell? ⟨y1.heap.size, 0, none⟩ = some (.int .i64 0) := hB.cell 0
            have df0 := hB.frozen 0
            have d1 : y2.cell? ⟨y1.heap.size, 1, none⟩ = some (.int .i64 0) := hB.cell 1
            have df1 := hB.frozen 1
            have d2 : y2.cell? ⟨y1.heap.size, 2, none⟩ = some (.int .i64 0) := hB.cell 2
            have df2 := hB.frozen 2
            have d3 : y2.cell? ⟨y1.heap.size, 3, none⟩ = some (.slice none 0 0) := hB.cell 3
            have df3 := hB.frozen 3
            have d4 : y2.cell? ⟨y1.heap.size, 4, none⟩ = some (.int .i64 0) := hB.cell 4
            have df4 := hB.frozen 4
            have d5 : y2.cell? ⟨y1.heap.size, 5, none⟩ = some (.int .i64 0) := hB.cell 5
            have df5 := hB.frozen 5
            refine wpAnyH_ready (rs := [6]) (by as_aux_lemma => kernel_rfl) (by simp) ?_
            refine AllReadyH.cons rfl (fun K hK => ?_) AllReadyH.nil
            have HBB := hid hB
            clear hB
            go_simp
            have hWs : w16.heap.size ≤ y1.heap.size := by have := hS.size; omega
            refine hK.out _ _ (((((((hS.setCell hWs _).setCell hWs _).setCell hWs _).setCell hWs _).setCell hWs _).setCell hWs _)) (fun hS => ?_)
            clear hK K
            (try simp only [Act.put, List.getElem_toArray, List.getElem_cons_zero, List.getElem_cons_succ, List.setIfInBounds_toArray, List.set_cons_zero, List.set_cons_succ])
            have hbl := ((((((HBB.out.set (i := 0) (.int .i64 p0)).set (i := 1) (.int .i64 0)).set (i := 2) (.int .i64 p2)).set (i := 3) (.slice ax2 m kx2)).set (i := 4) (.int .i64 p4)).set (i := 5) (.int .i64 p5))
            simp only [List.setIfInBounds_toArray, List.set_cons_zero, List.set_cons_succ] at hbl
            have hdj : y1.heap.size < yA.heap.size ∨ y2.heap.size ≤ y1.heap.size := by omega
            have hrow := ((((((q2.setB hdj 0 (.int .i64 p0)).setB hdj 1 (.int .i64 0)).setB hdj 2 (.int .i64 p2)).setB hdj 3 (.slice ax2 m kx2)).setB hdj 4 (.int .i64 p4)).setB hdj 5 (.int .i64 p5))
            have hx0 := hbl.cell 0
            simp only [List.getElem?_toArray, List.getElem?_cons_zero, List.getElem?_cons_succ] at hx0
            have hx1 := hbl.cell 1
            simp only [List.getElem?_toArray, List.getElem?_cons_zero, List.getElem?_cons_succ] at hx1
            have hx2 := hbl.cell 2
            simp only [List.getElem?_toArray, List.getElem?_cons_zero, List.getElem?_cons_succ] at hx2
            have hx3 := hbl.cell 3
            simp only [List.getElem?_toArray, List.getElem?_cons_zero, List.getElem?_cons_succ] at hx3
            have hx4 := hbl.cell 4
            simp only [List.getElem?_toArray, List.getElem?_cons_zero, List.getElem?_cons_succ] at hx4
            have hx5 := hbl.cell 5
            simp only [List.getElem?_toArray, List.getElem?_cons_zero, List.getElem?_cons_succ] at hx5
            refine wpAnyH_done (by kernel_rfl) ?_ _
            refine ⟨rfl, y1.heap.size, yA.heap.size, y2.heap.size, .slice ax2 m kx2, .agg #[.int .i64 e0, .slice ax0 n0 kx0, .int .i64 l0, .int .i64 z0], .agg #[.slice ax1 n1 kx1], ?_, hS, hWs, ?_, ?_, ?_, ?_, hrow, hx0, hx1, hx2, hx3, hx4, hx5⟩
            · simp only [Act.put, List.getElem_toArray, List.getElem_cons_zero, List.getElem_cons_succ, List.setIfInBounds_toArray, List.set_cons_zero, List.set_cons_succ]
            all_goals (try simp only [size_set])
            all_goals omega
        · skip
          go_simp
          refine hK.out _ _ (hS.alloc hS.size _) (fun hS => ?_)
          clear hK K
          (try simp only [Act.put, List.getElem_toArray, List.getElem_cons_zero, List.getElem_cons_succ, List.setIfInBounds_toArray, List.set_cons_zero, List.set_cons_succ])
          have NB : Below y0.heap.size y0 (y0.alloc (.cells #[.int .i64 0, .int .i64 0, .int .i64 0, .slice none 0 0, .int .i64 0, .int .i64 0] 34)) := (Below.refl _ _).alloc (Nat.le_refl _) _
          have hB := Blk.new y0 #[.int .i64 0, .int .i64 0, .int .i64 0, .slice none 0 0, .int .i64 0, .int .i64 0] 34
          replace q0 := q0.below NB
          have szA := NB.size
          have ltA := hB.lt
          clear NB
          generalize y0.alloc (.cells #[.int .i64 0, .int .i64 0, .int .i64 0, .slice none 0 0, .int .i64 0, .int .i64 0] 34) = yA at *
          refine wpAnyH_ready (rs := [3]) (by as_aux_lemma => kernel_rfl) (by simp) ?_
          refine AllReadyH.cons rfl (fun K hK => ?_) AllReadyH.nil
          go_simp
          refine Calls.mono (toFile_any a1 n1 ca1 xs1 _ (hr1.below (hb.trans (hS.mono hb.size))) (by omega)) ?_
          rintro e y1 ⟨x1, rfl, q1, hc⟩
          obtain ⟨ax1, kx1, rfl, g1, g2⟩ := q1.shape
          have KQ1 : Hid _ := And.intro g1 g2
          clear g1 g2
          replace q0 := q0.below hc
          replace hB := hB.below hc
          have sz1 := hc.size
          refine hK.out _ _ (hS.trans (hc.mono hS.size)) (fun hS => ?_)
          clear hK K
          (try simp only [Act.put, List.getElem_toArray, List.getElem_cons_zero, List.getElem_cons_succ, List.setIfInBounds_toArray, List.set_cons_zero, List.set_cons_succ])
          clear hc
          refine wpAnyH_ready (rs := [4]) (by as_aux_lemma => kernel_rfl) (by simp) ?_
          refine AllReadyH.cons rfl (fun K hK => ?_) AllReadyH.nil
          go_simp
          refine Calls.mono (HIC.out ax0 kx0 ax1 kx1 _ q0.read KQ0.out.1 KQ0.out.2 q1.read KQ1.out.1 KQ1.out.2) ?_
          rintro e y2 ⟨x2, rfl, q2, hc⟩
          obtain ⟨ax2, kx2, rfl, -⟩ := q2.shape
          replace q0 := q0.below hc
          replace q1 := q1.below hc
          replace hB := hB.below hc
          have sz2 := hc.size
          refine hK.out _ _ (hS.trans (hc.mono hS.size)) (fun hS => ?_)
          clear hK K
          (try simp only [Act.put, List.getElem_toArray, List.getElem_cons_zero, List.getElem_cons_succ, List.setIfInBounds_toArray, List.set_cons_zero, List.set_cons_succ])
          clear hc
          have d0 : y2.cell? ⟨y0.heap.size, 0, none⟩ = some (.int .i64 0) := hB.cell 0
          have df0 := hB.frozen 0
          have d1 : y2.cell? ⟨y0.heap.size, 1, none⟩ = some (.int .i64 0) := hB.cell 1
          have df1 := hB.frozen 1
          have d2 : y2.cell? ⟨y0.heap.size, 2, none⟩ = some (.int .i64 0) := hB.cell 2
          have df2 := hB.frozen 2
          have d3 : y2.cell? ⟨y0.heap.size, 3, none⟩ = some (.slice none 0 0) := hB.cell 3
          have df3 := hB.frozen 3
          have d4 : y2.cell? ⟨y0.heap.size, 4, none⟩ = some (.int .i64 0) := hB.cell 4
          have df4 := hB.frozen 4
          have d5 : y2.cell? ⟨y0.heap.size, 5, none⟩ = some (.int .i64 0) := hB.cell 5
          have df5 := hB.frozen 5
          refine wpAnyH_ready (rs := [6]) (by as_aux_lemma => kernel_rfl) (by simp) ?_
          refine AllReadyH.cons rfl (fun K hK => ?_) AllReadyH.nil
          have HBB := hid hB
          clear hB
          go_simp
          have hWs : w16.heap.size ≤ y0.heap.size := by have := hS.size; omega
          refine hK.out _ _ (((((((hS.setCell hWs _).setCell hWs _).setCell hWs _).setCell hWs _).setCell hWs _).setCell hWs _)) (fun hS => ?_)
          clear hK K
          (try simp only [Act.put, List.getElem_toArray, List.getElem_cons_zero, List.getElem_cons_succ, List.setIfInBounds_toArray, List.set_cons_zero, List.set_cons_succ])
          have hbl := ((((((HBB.out.set (i := 0) (.int .i64 p0)).set (i := 1) (.int .i64 0)).set (i := 2) (.int .i64 p2)).set (i := 3) (.slice ax2 m kx2)).set (i := 4) (.int .i64 p4)).set (i := 5) (.int .i64 p5))
          simp only [List.setIfInBounds_toArray, List.set_cons_zero, List.set_cons_succ] at hbl
          have hdj : y0.heap.size < y1.heap.size ∨ y2.heap.size ≤ y0.heap.size := by omega
          have hrow := ((((((q2.setB hdj 0 (.int .i64 p0)).setB hdj 1 (.int .i64 0)).setB hdj 2 (.int .i64 p2)).setB hdj 3 (.slice ax2 m kx2)).setB hdj 4 (.int .i64 p4)).setB hdj 5 (.int .i64 p5))
          have hx0 := hbl.cell 0
          simp only [List.getElem?_toArray, List.getElem?_cons_zero, List.getElem?_cons_succ] at hx0
          have hx1 := hbl.cell 1
          simp only [List.getElem?_toArray, List.getElem?_cons_zero, List.getElem?_cons_succ] at hx1
          have hx2 := hbl.cell 2
          simp only [List.getElem?_toArray, List.getElem?_cons_zero, List.getElem?_cons_succ] at hx2
          have hx3 := hbl.cell 3
          simp only [List.getElem?_toArray, List.getElem?_cons_zero, List.getElem?_cons_succ] at hx3
          have hx4 := hbl.cell 4
          simp only [List.getElem?_toArray, List.getElem?_cons_zero, List.getElem?_cons_succ] at hx4
          have hx5 := hbl.cell 5
          simp only [List.getElem?_toArray, List.getElem?_cons_zero, List.getElem?_cons_succ] at hx5
          refine wpAnyH_done (by kernel_rfl) ?_ _
          refine ⟨rfl, y0.heap.size, y1.heap.size, y2.heap.size, .slice ax2 m kx2, .agg #[.int .i64 e0, .slice ax0 n0 kx0, .int .i64 l0, .int .i64 z0], .agg #[.slice ax1 n1 kx1], ?_, hS, hWs, ?_, ?_, ?_, ?_, hrow, hx0, hx1, hx2, hx3, hx4, hx5⟩
          · simp only [Act.put, List.getElem_toArray, List.getElem_cons_zero, List.getElem_cons_succ, List.setIfInBounds_toArray, List.set_cons_zero, List.set_cons_succ]
          all_goals (try simp only [size_set])
          all_goals omega
      · skip
        go_simp
        refine hK.out _ _ (hS.alloc hS.size _) (fun hS => ?_)
        clear hK K
        (try simp only [Act.put, List.getElem_toArray, List.getElem_cons_zero, List.getElem_cons_succ, List.setIfInBounds_toArray, List.set_cons_zero, List.set_cons_succ])
        have NB : Below w16.heap.size w16 (w16.alloc (.cells #[.int .i64 0, .int .i64 0, .int .i64 0, .slice none 0 0, .int .i64 0, .int .i64 0] 34)).drew := ((Below.refl _ _).alloc (Nat.le_refl _) _).drew
        have hB : Blk (w16.alloc (.cells #[.int .i64 0, .int .i64 0, .int .i64 0, .slice none 0 0, .int .i64 0, .int .i64 0] 34)).drew w16.heap.size #[.int .i64 0, .int .i64 0, .int .i64 0, .slice none 0 0, .int .i64 0, .int .i64 0] 34 := Blk.new w16 #[.int .i64 0, .int .i64 0, .int .i64 0, .slice none 0 0, .int .i64 0, .int .i64 0] 34
        have szA := NB.size
        have ltA := hB.lt
        clear NB
        generalize (w16.alloc (.cells #[.int .i64 0, .int .i64 0, .int .i64 0, .slice none 0 0, .int .i64 0, .int .i64 0] 34)).drew = yA at *
        refine wpAnyH_ready (rs := [1]) (by as_aux_lemma => kernel_rfl) (by simp) ?_
        refine AllReadyH.cons rfl (fun K hK => ?_) AllReadyH.nil
        go_simp
        refine Calls.mono (toIndex_any e0 a0 n0 ca0 xs0 l0 z0 _ (hr0.below (hb.trans (hS.mono hb.size))) (by omega)) ?_
        rintro e y0 ⟨x0, rfl, q0, hc⟩
        obtain ⟨ax0, kx0, rfl, g1, g2⟩ := q0.shape
        have KQ0 : Hid _ := And.intro g1 g2
        clear g1 g2
        replace hB := hB.below hc
        have sz0 := hc.size
        refine hK.out _ _ (hS.trans (hc.mono hS.size)) (fun hS => ?_)
        clear hK K
        (try simp only [Act.put, List.getElem_toArray, List.getElem_cons_zero, List.getElem_cons_succ, List.setIfInBounds_toArray, List.set_cons_zero, List.set_cons_succ])
        clear hc
        refine wpAnyH_ready (rs := [3]) (by as_aux_lemma => kernel_rfl) (by simp) ?_
        refine AllReadyH.cons rfl (fun K hK => ?_) AllReadyH.nil
        go_simp
        refine Calls.mono (toFile_any a1 n1 ca1 xs1 _ (hr1.below (hb.trans (hS.mono hb.size))) (by omega)) ?_
        rintro e y1 ⟨x1, rfl, q1, hc⟩
        obtain ⟨ax1, kx1, rfl, g1, g2⟩ := q1.shape
        have KQ1 : Hid _ := And.intro g1 g2
        clear g1 g2
        replace q0 := q0.below hc
        replace hB := hB.below hc
        have sz1 := hc.size
        refine hK.out _ _ (hS.trans (hc.mono hS.size)) (fun hS => ?_)
        clear hK K
        (try simp only [Act.put, List.getElem_toArray, List.getElem_cons_zero, List.getElem_cons_succ, List.setIfInBounds_toArray, List.set_cons_zero, List.set_cons_succ])
        clear hc
        refine wpAnyH_ready (rs := [4]) (by as_aux_lemma => kernel_rfl) (by simp) ?_
        refine AllReadyH.cons rfl (fun K hK => ?_) AllReadyH.nil
        go_simp
        refine Calls.mono (HIC.out ax0 kx0 ax1 kx1 _ q0.read KQ0.out.1 KQ0.out.2 q1.read KQ1.out.1 KQ1.out.2) ?_
        rintro e y2 ⟨x2, rfl, q2, hc⟩
        obtain ⟨ax2, kx2, rfl, -⟩ := q2.shape
        replace q0 := q0.below hc
        replace q1 := q1.below hc
        replace hB := hB.below hc
        have sz2 := hc.size
        refine hK.out _ _ (hS.trans (hc.mono hS.size)) (fun hS => ?_)
        clear hK K
        (try simp only [Act.put, List.getElem_toArray, List.getElem_cons_zero, List.getElem_cons_succ, List.setIfInBounds_toArray, List.set_cons_zero, List.set_cons_succ])
        clear hc
        have d0 : y2.cell? ⟨w16.heap.size, 0, none⟩ = some (.int .i64 0) := hB.cell 0
        have df0 := hB.frozen 0
        have d1 : y2.cell? ⟨w16.heap.size, 1, none⟩ = some (.int .i64 0) := hB.cell 1
        have df1 := hB.frozen 1
        have d2 : y2.cell? ⟨w16.heap.size, 2, none⟩ = some (.int .i64 0) := hB.cell 2
        have df2 := hB.frozen 2
        have d3 : y2.cell? ⟨w16.heap.size, 3, none⟩ = some (.slice none 0 0) := hB.cell 3
        have df3 := hB.frozen 3
        have d4 : y2.cell? ⟨w16.heap.size, 4, none⟩ = some (.int .i64 0) := hB.cell 4
        have df4 := hB.frozen 4
        have d5 : y2.cell? ⟨w16.heap.size, 5, none⟩ = some (.int .i64 0) := hB.cell 5
        have df5 := hB.frozen 5
        refine wpAnyH_ready (rs := [6]) (by as_aux_lemma => kernel_rfl) (by simp) ?_
        refine AllReadyH.cons rfl (fun K hK => ?_) AllReadyH.nil
        have HBB := hid hB
        clear hB
        go_simp
        have hWs : w16.heap.size ≤ w16.heap.size := by have := hS.size; omega
        refine hK.out _ _ (((((((hS.setCell hWs _).setCell hWs _).setCell hWs _).setCell hWs _).setCell hWs _).setCell hWs _)) (fun hS => ?_)
        clear hK K
        (try simp only [Act.put, List.getElem_toArray, List.getElem_cons_zero, List.getElem_cons_succ, List.setIfInBounds_toArray, List.set_cons_zero, List.set_cons_succ])
        have hbl := ((((((HBB.out.set (i := 0) (.int .i64 p0)).set (i := 1) (.int .i64 0)).set (i := 2) (.int .i64 p2)).set (i := 3) (.slice ax2 m kx2)).set (i := 4) (.int .i64 p4)).set (i := 5) (.int .i64 p5))
        simp only [List.setIfInBounds_toArray, List.set_cons_zero, List.set_cons_succ] at hbl
        have hdj : w16.heap.size < y1.heap.size ∨ y2.heap.size ≤ w16.heap.size := by omega
        have hrow := ((((((q2.setB hdj 0 (.int .i64 p0)).setB hdj 1 (.int .i64 0)).setB hdj 2 (.int .i64 p2)).setB hdj 3 (.slice ax2 m kx2)).setB hdj 4 (.int .i64 p4)).setB hdj 5 (.int .i64 p5))
        have hx0 := hbl.cell 0
        simp only [List.getElem?_toArray, List.getElem?_cons_zero, List.getElem?_cons_succ] at hx0
        have hx1 := hbl.cell 1
        simp only [List.getElem?_toArray, List.getElem?_cons_zero, List.getElem?_cons_succ] at hx1
        have hx2 := hbl.cell 2
        simp only [List.getElem?_toArray, List.getElem?_cons_zero, List.getElem?_cons_succ] at hx2
        have hx3 := hbl.cell 3
        simp only [List.getElem?_toArray, List.getElem?_cons_zero, List.getElem?_cons_succ] at hx3
        have hx4 := hbl.cell 4
        simp only [List.getElem?_toArray, List.getElem?_cons_zero, List.getElem?_cons_succ] at hx4
        have hx5 := hbl.cell 5
        simp only [List.getElem?_toArray, List.getElem?_cons_zero, List.getElem?_cons_succ] at hx5
        refine wpAnyH_done (by kernel_rfl) ?_ _
        refine ⟨rfl, w16.heap.size, y1.heap.size, y2.heap.size, .slice ax2 m kx2, .agg #[.int .i64 e0, .slice ax0 n0 kx0, .int .i64 l0, .int .i64 z0], .agg #[.slice ax1 n1 kx1], ?_, hS, hWs, ?_, ?_, ?_, ?_, hrow, hx0, hx1, hx2, hx3, hx4, hx5⟩
        · simp only [Act.put, List.getElem_toArray, List.getElem_cons_zero, List.getElem_cons_succ, List.setIfInBounds_toArray, List.set_cons_zero, List.set_cons_succ]
        all_goals (try simp only [size_set])
        all_goals omega
    · skip
      rintro a' w17 ⟨B17, lo17, hi17, vg17, u17_0, u17_1, rfl, hc, bl17, bu17, ll17, hu17, dj17, rg17, ch00, ch01, ch02, ch03, ch04, ch05⟩
      obtain ⟨ag17, kg17, rfl, -⟩ := rg17.shape
      simp only [Act.put, List.getElem_toArray, List.getElem_cons_zero, List.getElem_cons_succ, List.setIfInBounds_toArray, List.set_cons_zero, List.set_cons_succ]
      have s17 : w16.heap.size ≤ w17.heap.size := hc.size
      have bq := hc
      replace caX0 := cell_later bq caX0
      replace caX1 := cell_later bq caX1
      replace caX2 := cell_later bq caX2
      replace caX3 := cell_later bq caX3
      replace zaX := Nat.lt_of_lt_of_le zaX bq.size
      replace caF0 := cell_later bq caF0
      replace zaF := Nat.lt_of_lt_of_le zaF bq.size
      replace cw00 := cell_later bq cw00
      replace cw01 := cell_later bq cw01
      replace cw02 := cell_later bq cw02
      replace cw03 := cell_later bq cw03
      replace cw04 := cell_later bq cw04
      replace cw05 := cell_later bq cw05
      replace zw0 := Nat.lt_of_lt_of_le zw0 bq.size
      replace cx00 := cell_later bq cx00
      replace cx01 := cell_later bq cx01
      replace cx02 := cell_later bq cx02
      replace cx03 := cell_later bq cx03
      replace zx0 := Nat.lt_of_lt_of_le zx0 bq.size
      replace cx10 := cell_later bq cx10
      replace zx1 := Nat.lt_of_lt_of_le zx1 bq.size
      replace cg00 := cell_later bq cg00
      replace cg01 := cell_later bq cg01
      replace cg02 := cell_later bq cg02
      replace cg03 := cell_later bq cg03
      replace cg04 := cell_later bq cg04
      replace cg05 := cell_later bq cg05
      replace zg0 := Nat.lt_of_lt_of_le zg0 bq.size
      replace rg3 := rg3.below bq
      replace rt4 := rt4.below bq
      replace rt5 := rt5.below bq
      replace rg6 := rg6.below bq
      replace hb := hb.trans (bq.mono hb.size)
      clear hc bq
      have zh0 := bu17
      go_wp2_with fail
      refine Calls.mono (eqIndexResult_yes p0 0 p2 ag17 ag3 m kg17 kg3 rs p4 p5 _ rg17.read rg3.read (by first | omega | (unfold maxLen; omega))) ?_
      rintro e w18 ⟨rfl, hc⟩
      have s18 : w17.heap.size ≤ w18.heap.size := hc.size
      have bq := hc
      replace caX0 := cell_later bq caX0
      replace caX1 := cell_later bq caX1
      replace caX2 := cell_later bq caX2
      replace caX3 := cell_later bq caX3
      replace zaX := Nat.lt_of_lt_of_le zaX bq.size
      replace caF0 := cell_later bq caF0
      replace zaF := Nat.lt_of_lt_of_le zaF bq.size
      replace cw00 := cell_later bq cw00
      replace cw01 := cell_later bq cw01
      replace cw02 := cell_later bq cw02
      replace cw03 := cell_later bq cw03
      replace cw04 := cell_later bq cw04
      replace cw05 := cell_later bq cw05
      replace zw0 := Nat.lt_of_lt_of_le zw0 bq.size
      replace cx00 := cell_later bq cx00
      replace cx01 := cell_later bq cx01
      replace cx02 := cell_later bq cx02
      replace cx03 := cell_later bq cx03
      replace zx0 := Nat.lt_of_lt_of_le zx0 bq.size
      replace cx10 := cell_later bq cx10
      replace zx1 := Nat.lt_of_lt_of_le zx1 bq.size
      replace cg00 := cell_later bq cg00
      replace cg01 := cell_later bq cg01
      replace cg02 := cell_later bq cg02
      replace cg03 := cell_later bq cg03
      replace cg04 := cell_later bq cg04
      replace cg05 := cell_later bq cg05
      replace zg0 := Nat.lt_of_lt_of_le zg0 bq.size
      replace ch00 := cell_later bq ch00
      replace ch01 := cell_later bq ch01
      replace ch02 := cell_later bq ch02
      replace ch03 := cell_later bq ch03
      replace ch04 := cell_later bq ch04
      replace ch05 := cell_later bq ch05
      replace zh0 := Nat.lt_of_lt_of_le zh0 bq.size
      replace rg3 := rg3.below bq
      replace rt4 := rt4.below bq
      replace rt5 := rt5.below bq
      replace rg6 := rg6.below bq
      replace rg17 := rg17.below bq
      replace hb := hb.trans (bq.mono hb.size)
      clear hc bq
      go_wp2_with fail
      refine Calls.mono (heldIndexResult_yes p0 0 p2 p4 p5 1 ag6 m kg6 _ rg6.read (by omega) (by omega) (by omega)) ?_
      rintro e w19 ⟨rfl, hc⟩
      have s19 : w18.heap.size ≤ w19.heap.size := hc.size
      have bq := hc
      replace caX0 := cell_later bq caX0
      replace caX1 := cell_later bq caX1
      replace caX2 := cell_later bq caX2
      replace caX3 := cell_later bq caX3
      replace zaX := Nat.lt_of_lt_of_le zaX bq.size
      replace caF0 := cell_later bq caF0
      replace zaF := Nat.lt_of_lt_of_le zaF bq.size
      replace cw00 := cell_later bq cw00
      replace cw01 := cell_later bq cw01
      replace cw02 := cell_later bq cw02
      replace cw03 := cell_later bq cw03
      replace cw04 := cell_later bq cw04
      replace cw05 := cell_later bq cw05
      replace zw0 := Nat.lt_of_lt_of_le zw0 bq.size
      replace cx00 := cell_later bq cx00
      replace cx01 := cell_later bq cx01
      replace cx02 := cell_later bq cx02
      replace cx03 := cell_later bq cx03
      replace zx0 := Nat.lt_of_lt_of_le zx0 bq.size
      replace cx10 := cell_later bq cx10
      replace zx1 := Nat.lt_of_lt_of_le zx1 bq.size
      replace cg00 := cell_later bq cg00
      replace cg01 := cell_later bq cg01
      replace cg02 := cell_later bq cg02
      replace cg03 := cell_later bq cg03
      replace cg04 := cell_later bq cg04
      replace cg05 := cell_later bq cg05
      replace zg0 := Nat.lt_of_lt_of_le zg0 bq.size
      replace ch00 := cell_later bq ch00
      replace ch01 := cell_later bq ch01
      replace ch02 := cell_later bq ch02
      replace ch03 := cell_later bq ch03
      replace ch04 := cell_later bq ch04
      replace ch05 := cell_later bq ch05
      replace zh0 := Nat.lt_of_lt_of_le zh0 bq.size
      replace rg3 := rg3.below bq
      replace rt4 := rt4.below bq
      replace rt5 := rt5.below bq
      replace rg6 := rg6.below bq
      replace rg17 := rg17.below bq
      replace hb := hb.trans (bq.mono hb.size)
      clear hc bq
      go_wp2
      go_ret
      exact ⟨rfl, hb⟩

theorem own : ownKnob Try.prog.godebug = none := by kernel_rfl
theorem laidOut : laidOutB Try.prog = true := by kernel_rfl

set_option maxRecDepth 100000 in
theorem lifted (os : Os) (started : os.Started) (H : Type) (enc : TypeId × Value → H) :
    ReturnsInHanded {} Try.checked os 6 .any (Rows.fnExactExtendIndexSpec.pre6 enc Try.prog Try.f6 Rows.fnExactExtendIndexRow.domain false) (Rows.fnExactExtendIndexSpec.post enc Try.prog Try.f6 false true false false) := by
  refine returnsInHanded_of_change (C := Try.checked) own started (by kernel_rfl) Try.func6
    (ChangeSpec.witness6 (enc := enc) (C := Try.checked) false ⟨#[], #[.agg #[.int .i64 0, .slice none 0 0, .int .i64 0, .int .i64 0], .agg #[.slice none 0 0]], []⟩ 8 (by kernel_rfl) (by kernel_rfl) (by kernel_rfl) (by kernel_rfl)) ?_
  intro W base args ds gs before hval0 hW hcnd _
  have hval : ∀ (j : Nat) t v, Try.f6.params[j]? = some t → args[j]? = some v → Value.okWide Try.prog W .any base t v := hval0
  have hW' := hW
  obtain ⟨p, q, hA0, hV, rfl, hfz, hnd⟩ := hW
  have hA : DataW.TrodAll enc Try.prog W 0 (fun _ => true) true Try.f6.params.toList args.toList ds p := hA0
  rw [Try.params6] at hA hval
  obtain ⟨v0, v1, d0, d1, p0, p1, rfl, rfl, rfl, h0, h1⟩ := trodAll_two hA
  obtain ⟨rfl, rfl⟩ := trodVars_none hV
  have k0 := h0
  have lt0 : ∀ x ∈ p0, x.block < W.heap.size := by obtain ⟨m, hm⟩ := k0; exact DataW.trod_lt m _ _ _ hm
  obtain ⟨e0, a0, len0, cap0, x0, l0, z0, rfl, hr0, hm0⟩ := open_index (hval 0 44 v0 rfl rfl) h0
  have k1 := h1
  have lt1 : ∀ x ∈ p1, x.block < W.heap.size := by obtain ⟨m, hm⟩ := k1; exact DataW.trod_lt m _ _ _ hm
  obtain ⟨a1, len1, cap1, x1, rfl, hr1, hB1, hm1⟩ := open_file (hval 1 52 v1 rfl rfl) h1
  clear hA0 hval0
  refine (walk e0 a0 len0 cap0 x0 l0 z0 a1 len1 cap1 x1 W hr0 hm0 hr1 hB1 hm1).mono fun e W' ⟨he, bel⟩ => ?_
  subst he
  exact ⟨_, rfl, _, _, _, [], _, [], hW', trodAll_mk1 (shut_bool Try.underlying4 _), trodAll_mk2 (Below.trod laidOut (by kernel_rfl) (of_decide_eq_true (by kernel_rfl)) k0 bel lt0) (Below.trod laidOut (by kernel_rfl) (of_decide_eq_true (by kernel_rfl)) k1 bel lt1), rfl, bel.frame _, fun h => by cases h⟩

theorem proved : Rows.FnExactExtendIndexSaid :=
  OpenClaim.holds_of_wide 6 Try.f6 rfl rfl rfl rfl rfl rfl rfl ⟨rfl, rfl, rfl, rfl, rfl⟩ rfl rfl rfl rfl rfl (by kernel_rfl) Try.func6 (by kernel_rfl)
    (of_decide_eq_true (by kernel_rfl)) (by unfold Func.isWrapper; first | (rw [if_pos (by decide +kernel)]; kernel_rfl) | (rw [if_neg (by decide +kernel)]; exact ⟨rfl, rfl⟩))
    (fun os started H enc _ => lifted os started H enc)
end Go.Proofs.Ythdglflipeggpaa.fnExactExtendIndex
namespace Go.Proofs.Ythdglflipeggpaa
theorem fnExactExtendIndex_proved : Rows.FnExactExtendIndexSaid := fnExactExtendIndex.proved
end Go.Proofs.Ythdglflipeggpaa
