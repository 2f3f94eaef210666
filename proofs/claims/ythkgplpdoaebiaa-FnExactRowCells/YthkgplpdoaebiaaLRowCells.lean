/-
  For every line, layout and number, FnExactRowCells returns true: the program's RowCells answers as the model, writes into no argument, and its answer owns its memory; no condition.
-/
import Derived.Test.YthkgplpdoaebiaaRow2
import Derived.Test.YthkgplpdoaebiaaArgsL
import Derived.Test.YthkgplpdoaebiaaHlpO
import Derived.Test.YthkgplpdoaebiaaHlpF
import Derived.Test.YthkgplpdoaebiaaJoin
import Derived.ProofKit
import Derived.OpenShut
import Derived.ChangeOld
import Derived.Below
import Derived.Carry
import Derived.Deep.RegionWith
import Derived.Deep.RegionHeld3
namespace Go.Proofs.Ythkgplpdoaebiaa.fnExactRowCells
open Go.ChangeShapes Go.WideShapes Go.ChangeAt Go.RowKit
set_option linter.unusedVariables false
set_option linter.unusedSimpArgs false

set_option maxRecDepth 10000 in
set_option maxHeartbeats 6400000 in
theorem walk (ap0 : Option Addr) (n0 kp0 : Nat) (xs0 : List Int) (W1 : Int) (C1 : Bool) (S1 : Int) (I2 : Int) (w : World) (hr0 : Rd .u8 w ap0 n0 xs0) (hB0 : Bytes xs0) (hm0 : n0 ≤ maxLen) :
    Calls Try.prog 7 #[.slice ap0 n0 kp0, .agg #[.int .i64 W1, .bool C1, .int .i64 S1], .int .i64 I2] w fun e w' => e = .returned (.bool true) ∧ Below w.heap.size w w' := by
  unfold maxLen at hm0
  by_cases hn0 : n0 ≤ 1048576
  case neg =>
    go_enter Try.func7, Try.ntmps7
    go_wp2
    go_ret
    exact ⟨rfl, (Below.refl _ _).alloc (Nat.le_refl _) _⟩
  have SC := fun (A0 : Option Addr) (C0 : Nat) (W' : World) (H0 : Rd .u8 W' A0 n0 xs0) (J0 : n0 ≤ C0) (M0 : C0 ≤ maxLen) => specRowCells_any A0 n0 C0 xs0 W1 S1 I2 C1 W' H0 hB0 (by omega)
  have IC := fun (A0 : Option Addr) (C0 : Nat) (W' : World) (H0 : Rd .u8 W' A0 n0 xs0) (J0 : n0 ≤ C0) (M0 : C0 ≤ maxLen) => implRowCells_any A0 n0 C0 xs0 W1 S1 I2 C1 W' H0 hB0 (by omega) J0 M0
  have hrl : (rwRes xs0 W1 C1 S1 I2).length ≤ 1600 := rwRes_len hB0
  generalize rwC xs0 W1 C1 S1 I2 = p0 at *
  generalize rwRes xs0 W1 C1 S1 I2 = rs at *
  generalize hml : rs.length = m at *
  clear hml
  have HSC : Hid _ := SC
  have HIC : Hid _ := IC
  clear SC IC
  go_enter Try.func7, Try.ntmps7
  have hb : Below w.heap.size w w := Below.refl _ _
  go_wp2_with fail
  have bp : ∀ o0, Below w.heap.size w (w.alloc o0) := fun o0 => (Below.refl _ _).alloc (Nat.le_refl _) o0
  have hbt : ∀ o0, Below w.heap.size w (w.alloc o0) := fun o0 => hb.trans ((bp o0).mono hb.size)
  obtain ⟨w1, hw1⟩ : ∃ x, (w.alloc (.cells #[.int .i64 W1, .bool C1, .int .i64 S1] 50)) = x := ⟨_, rfl⟩
  have hc : Below ((w.alloc (.cells #[.int .i64 W1, .bool C1, .int .i64 S1] 50))).heap.size ((w.alloc (.cells #[.int .i64 W1, .bool C1, .int .i64 S1] 50))) w1 := hw1 ▸ Below.refl _ _
  have s1 : w.heap.size + 1 ≤ w1.heap.size := by have := hc.size; simp at this; omega
  have bq : Below w.heap.size w w1 := (bp _).trans (hc.mono (bp _).size)
  have cb40 : w1.cell? ⟨w.heap.size, 0, none⟩ = some (.int .i64 W1) := cell_later hc (by simp [go_sem])
  have cb41 : w1.cell? ⟨w.heap.size, 1, none⟩ = some (.bool C1) := cell_later hc (by simp [go_sem])
  have cb42 : w1.cell? ⟨w.heap.size, 2, none⟩ = some (.int .i64 S1) := cell_later hc (by simp [go_sem])
  have zb4 : w.heap.size < w1.heap.size := by omega
  replace hb := hb.trans (bq.mono hb.size)
  clear hc bq bp hbt
  rw [hw1]
  clear hw1
  refine region_join (fun a a' w' => ∃ (B : Nat) (lo hi : Nat) (v : Value) (u0 : Option Addr) (q0 : Nat), a' = (((((((a.put (some 17) (.slice ap0 n0 kp0)).put (some 18) ((.slice u0 n0 q0))).put (some 19) (.agg #[.int .i64 W1, .bool C1, .int .i64 S1])).put (some 20) (.agg #[.int .i64 W1, .bool C1, .int .i64 S1])).put (some 21) (.int .i64 I2)).put (some 22) (.agg #[.int .i64 p0, v])).put (some 7) (.pointer (some ⟨B, 0, none⟩))) ∧ Below w1.heap.size w1 w' ∧ w1.heap.size ≤ B ∧ B < w'.heap.size ∧ w1.heap.size ≤ lo ∧ hi ≤ w'.heap.size ∧ (B < lo ∨ hi ≤ B) ∧ RowS cellE 3 38 w' lo hi v m rs ∧ w'.cell? ⟨B, 0, none⟩ = some (.int .i64 p0) ∧ w'.cell? ⟨B, 1, none⟩ = some (v)) ?_ ?_
  · skip
    have ob40 := cb40
    have ob41 := cb41
    have ob42 := cb42
    have bd : Below w1.heap.size w1 w1.drew := (Below.refl _ _).drew
    refine wp_region_held_drew (S := fun w' => Below w1.heap.size w1 w') (by kernel_rfl) bd (fun hS => ?_)
    obtain ⟨D, hD⟩ : ∃ D, w1.drew = D := ⟨_, rfl⟩
    rw [hD] at hS bd ⊢
    have hc := bd
    clear hD bd
    have s2 : w1.heap.size ≤ D.heap.size := hc.size
    have bq := hc
    replace cb40 := cell_later bq cb40
    replace cb41 := cell_later bq cb41
    replace cb42 := cell_later bq cb42
    replace zb4 := Nat.lt_of_lt_of_le zb4 bq.size
    replace hb := hb.trans (bq.mono hb.size)
    clear hc bq
    refine wpAnyH_take (i := 0) (v := (.slice ap0 n0 kp0)) rfl (by as_aux_lemma => kernel_rfl) (by as_aux_lemma => kernel_rfl) (by as_aux_lemma => kernel_rfl) (fun _ _ _ h => nomatch h.1) (Or.inl ⟨by kernel_rfl, ?_⟩) hS ?_
    · intro w hSw; (try dsimp only at hSw); go_simp
    (try simp only [Act.put, List.getElem_toArray, List.getElem_cons_zero, List.getElem_cons_succ, List.setIfInBounds_toArray, List.set_cons_zero, List.set_cons_succ])
    refine wpAnyH_take (i := 2) (v := (.agg #[.int .i64 W1, .bool C1, .int .i64 S1])) rfl (by as_aux_lemma => kernel_rfl) (by as_aux_lemma => kernel_rfl) (by as_aux_lemma => kernel_rfl) (fun _ _ _ h => nomatch h.1) (Or.inl ⟨by kernel_rfl, ?_⟩) hS ?_
    · intro w hSw; (try dsimp only at hSw); have hl0 := cell_later hSw ob40; have hl1 := cell_later hSw ob41; have hl2 := cell_later hSw ob42; go_simp
    (try simp only [Act.put, List.getElem_toArray, List.getElem_cons_zero, List.getElem_cons_succ, List.setIfInBounds_toArray, List.set_cons_zero, List.set_cons_succ])
    refine wpAnyH_take (i := 4) (v := (.int .i64 I2)) rfl (by as_aux_lemma => kernel_rfl) (by as_aux_lemma => kernel_rfl) (by as_aux_lemma => kernel_rfl) (fun _ _ _ h => nomatch h.1) (Or.inl ⟨by kernel_rfl, ?_⟩) hS ?_
    · intro w hSw; (try dsimp only at hSw); go_simp
    (try simp only [Act.put, List.getElem_toArray, List.getElem_cons_zero, List.getElem_cons_succ, List.setIfInBounds_toArray, List.set_cons_zero, List.set_cons_succ])
    refine wpAnyH_ready (rs := [1, 6]) (by as_aux_lemma => kernel_rfl) (by simp) ?_
    refine AllReadyH.cons rfl (fun K hK => ?_) (AllReadyH.cons rfl (fun K hK => ?_) AllReadyH.nil)
    · skip
      go_simp
      refine Calls.mono (toByteS_row ap0 n0 kp0 xs0 _ (hr0.below hb) (by omega)) ?_
      rintro e w3 ⟨vt1, rfl, rt1, hc⟩
      obtain ⟨at1, kt1, rfl, q1, q2⟩ := rt1.shape
      have Kt1 : Hid _ := And.intro q1 q2
      clear q1 q2
      refine hK.out _ _ (hS.trans (hc.mono hS.size)) (fun hS => ?_)
      clear hK K
      (try simp only [Act.put, List.getElem_toArray, List.getElem_cons_zero, List.getElem_cons_succ, List.setIfInBounds_toArray, List.set_cons_zero, List.set_cons_succ])
      have s3 : D.heap.size ≤ w3.heap.size := hc.size
      have bq := hc
      replace cb40 := cell_later bq cb40
      replace cb41 := cell_later bq cb41
      replace cb42 := cell_later bq cb42
      replace zb4 := Nat.lt_of_lt_of_le zb4 bq.size
      replace hb := hb.trans (bq.mono hb.size)
      clear hc bq
      refine wpAnyH_ready (rs := [3, 6]) (by as_aux_lemma => kernel_rfl) (by simp) ?_
      refine AllReadyH.cons rfl (fun K hK => ?_) (AllReadyH.cons rfl (fun K hK => ?_) AllReadyH.nil)
      · skip
        go_simp
        refine Calls.mono (toLayout_any W1 S1 C1 _) ?_
        rintro e w4 ⟨rfl, hc⟩
        refine hK.out _ _ (hS.trans (hc.mono hS.size)) (fun hS => ?_)
        clear hK K
        (try simp only [Act.put, List.getElem_toArray, List.getElem_cons_zero, List.getElem_cons_succ, List.setIfInBounds_toArray, List.set_cons_zero, List.set_cons_succ])
        have s4 : w3.heap.size ≤ w4.heap.size := hc.size
        have bq := hc
        replace cb40 := cell_later bq cb40
        replace cb41 := cell_later bq cb41
        replace cb42 := cell_later bq cb42
        replace zb4 := Nat.lt_of_lt_of_le zb4 bq.size
        replace rt1 := rt1.below bq
        replace hb := hb.trans (bq.mono hb.size)
        clear hc bq
        refine wpAnyH_ready (rs := [5, 6]) (by as_aux_lemma => kernel_rfl) (by simp) ?_
        refine AllReadyH.cons rfl (fun K hK => ?_) (AllReadyH.cons rfl (fun K hK => ?_) AllReadyH.nil)
        · skip
          go_simp
          refine Calls.mono (HSC.out at1 kt1 _ rt1.read Kt1.out.1 Kt1.out.2) ?_
          rintro e w5 ⟨vg2, rfl, rg2, hc⟩
          obtain ⟨ag2, kg2, rfl, -⟩ := (RowS.shape cellE_len rg2)
          refine hK.out _ _ (hS.trans (hc.mono hS.size)) (fun hS => ?_)
          clear hK K
          (try simp only [Act.put, List.getElem_toArray, List.getElem_cons_zero, List.getElem_cons_succ, List.setIfInBounds_toArray, List.set_cons_zero, List.set_cons_succ])
          have s5 : w4.heap.size ≤ w5.heap.size := hc.size
          have bq := hc
          replace cb40 := cell_later bq cb40
          replace cb41 := cell_later bq cb41
          replace cb42 := cell_later bq cb42
          replace zb4 := Nat.lt_of_lt_of_le zb4 bq.size
          replace rt1 := rt1.below bq
          replace hb := hb.trans (bq.mono hb.size)
          clear hc bq
          refine wpAnyH_ready (rs := [6]) (by as_aux_lemma => kernel_rfl) (by simp) ?_
          refine AllReadyH.cons rfl (fun K hK => ?_) AllReadyH.nil
          go_simp
          refine hK.out _ _ (hS.alloc hS.size _) (fun hS => ?_)
          clear hK K
          (try simp only [Act.put, List.getElem_toArray, List.getElem_cons_zero, List.getElem_cons_succ, List.setIfInBounds_toArray, List.set_cons_zero, List.set_cons_succ])
          have hB := Blk.new w5 #[.int .i64 0, .slice none 0 0] 34
          have hc : Below w5.heap.size w5 (w5.alloc (.cells #[.int .i64 0, .slice none 0 0] 34)) := (Below.refl _ _).alloc (Nat.le_refl _) _
          have ltA := hB.lt
          generalize w5.alloc (.cells #[.int .i64 0, .slice none 0 0] 34) = yA at *
          have s6 : w5.heap.size ≤ yA.heap.size := hc.size
          have bq := hc
          replace cb40 := cell_later bq cb40
          replace cb41 := cell_later bq cb41
          replace cb42 := cell_later bq cb42
          replace zb4 := Nat.lt_of_lt_of_le zb4 bq.size
          replace rt1 := rt1.below bq
          replace rg2 := rg2.below bq
          replace hb := hb.trans (bq.mono hb.size)
          clear hc bq
          have d0 : yA.cell? ⟨w5.heap.size, 0, none⟩ = some (.int .i64 0) := hB.cell 0
          have df0 := hB.frozen 0
          have d1 : yA.cell? ⟨w5.heap.size, 1, none⟩ = some (.slice none 0 0) := hB.cell 1
          have df1 := hB.frozen 1
          refine wpAnyH_ready (rs := [7]) (by as_aux_lemma => kernel_rfl) (by simp) ?_
          refine AllReadyH.cons rfl (fun K hK => ?_) AllReadyH.nil
          have HBB := hid hB
          clear hB
          go_simp
          have hWs : w1.heap.size ≤ w5.heap.size := by omega
          refine hK.out _ _ (((hS.setCell hWs _).setCell hWs _)) (fun hS => ?_)
          clear hK K
          (try simp only [Act.put, List.getElem_toArray, List.getElem_cons_zero, List.getElem_cons_succ, List.setIfInBounds_toArray, List.set_cons_zero, List.set_cons_succ])
          have hbl := ((HBB.out.set (i := 0) (.int .i64 p0)).set (i := 1) (.slice ag2 m kg2))
          simp only [List.setIfInBounds_toArray, List.set_cons_zero, List.set_cons_succ] at hbl
          have hdj : w5.heap.size < w4.heap.size ∨ w5.heap.size ≤ w5.heap.size := by omega
          have hrow := ((rg2.setB hdj 0 (.int .i64 p0)).setB hdj 1 (.slice ag2 m kg2))
          have hx0 := hbl.cell 0
          simp only [List.getElem?_toArray, List.getElem?_cons_zero, List.getElem?_cons_succ] at hx0
          have hx1 := hbl.cell 1
          simp only [List.getElem?_toArray, List.getElem?_cons_zero, List.getElem?_cons_succ] at hx1
          refine wpAnyH_done (by kernel_rfl) ?_ _
          refine ⟨rfl, w5.heap.size, w4.heap.size, w5.heap.size, .slice ag2 m kg2, at1, kt1, ?_, hS, hWs, ?_, ?_, ?_, ?_, hrow, hx0, hx1⟩
          · simp only [Act.put, List.getElem_toArray, List.getElem_cons_zero, List.getElem_cons_succ, List.setIfInBounds_toArray, List.set_cons_zero, List.set_cons_succ]
          all_goals (try simp only [size_set])
          all_goals omega
        · skip
          go_simp
          refine hK.out _ _ (hS.alloc hS.size _) (fun hS => ?_)
          clear hK K
          (try simp only [Act.put, List.getElem_toArray, List.getElem_cons_zero, List.getElem_cons_succ, List.setIfInBounds_toArray, List.set_cons_zero, List.set_cons_succ])
          have hB := Blk.new w4 #[.int .i64 0, .slice none 0 0] 34
          have hc : Below w4.heap.size w4 (w4.alloc (.cells #[.int .i64 0, .slice none 0 0] 34)) := (Below.refl _ _).alloc (Nat.le_refl _) _
          have ltA := hB.lt
          generalize w4.alloc (.cells #[.int .i64 0, .slice none 0 0] 34) = yA at *
          have s5 : w4.heap.size ≤ yA.heap.size := hc.size
          have bq := hc
          replace cb40 := cell_later bq cb40
          replace cb41 := cell_later bq cb41
          replace cb42 := cell_later bq cb42
          replace zb4 := Nat.lt_of_lt_of_le zb4 bq.size
          replace rt1 := rt1.below bq
          replace hb := hb.trans (bq.mono hb.size)
          clear hc bq
          refine wpAnyH_ready (rs := [5]) (by as_aux_lemma => kernel_rfl) (by simp) ?_
          refine AllReadyH.cons rfl (fun K hK => ?_) AllReadyH.nil
          go_simp
          refine Calls.mono (HSC.out at1 kt1 _ rt1.read Kt1.out.1 Kt1.out.2) ?_
          rintro e w6 ⟨vg2, rfl, rg2, hc⟩
          obtain ⟨ag2, kg2, rfl, -⟩ := (RowS.shape cellE_len rg2)
          replace hB := hB.below hc
          refine hK.out _ _ (hS.trans (hc.mono hS.size)) (fun hS => ?_)
          clear hK K
          (try simp only [Act.put, List.getElem_toArray, List.getElem_cons_zero, List.getElem_cons_succ, List.setIfInBounds_toArray, List.set_cons_zero, List.set_cons_succ])
          have s6 : yA.heap.size ≤ w6.heap.size := hc.size
          have bq := hc
          replace cb40 := cell_later bq cb40
          replace cb41 := cell_later bq cb41
          replace cb42 := cell_later bq cb42
          replace zb4 := Nat.lt_of_lt_of_le zb4 bq.size
          replace rt1 := rt1.below bq
          replace hb := hb.trans (bq.mono hb.size)
          clear hc bq
          have d0 : w6.cell? ⟨w4.heap.size, 0, none⟩ = some (.int .i64 0) := hB.cell 0
          have df0 := hB.frozen 0
          have d1 : w6.cell? ⟨w4.heap.size, 1, none⟩ = some (.slice none 0 0) := hB.cell 1
          have df1 := hB.frozen 1
          refine wpAnyH_ready (rs := [7]) (by as_aux_lemma => kernel_rfl) (by simp) ?_
          refine AllReadyH.cons rfl (fun K hK => ?_) AllReadyH.nil
          have HBB := hid hB
          clear hB
          go_simp
          have hWs : w1.heap.size ≤ w4.heap.size := by omega
          refine hK.out _ _ (((hS.setCell hWs _).setCell hWs _)) (fun hS => ?_)
          clear hK K
          (try simp only [Act.put, List.getElem_toArray, List.getElem_cons_zero, List.getElem_cons_succ, List.setIfInBounds_toArray, List.set_cons_zero, List.set_cons_succ])
          have hbl := ((HBB.out.set (i := 0) (.int .i64 p0)).set (i := 1) (.slice ag2 m kg2))
          simp only [List.setIfInBounds_toArray, List.set_cons_zero, List.set_cons_succ] at hbl
          have hdj : w4.heap.size < yA.heap.size ∨ w6.heap.size ≤ w4.heap.size := by omega
          have hrow := ((rg2.setB hdj 0 (.int .i64 p0)).setB hdj 1 (.slice ag2 m kg2))
          have hx0 := hbl.cell 0
          simp only [List.getElem?_toArray, List.getElem?_cons_zero, List.getElem?_cons_succ] at hx0
          have hx1 := hbl.cell 1
          simp only [List.getElem?_toArray, List.getElem?_cons_zero, List.getElem?_cons_succ] at hx1
          refine wpAnyH_done (by kernel_rfl) ?_ _
          refine ⟨rfl, w4.heap.size, yA.heap.size, w6.heap.size, .slice ag2 m kg2, at1, kt1, ?_, hS, hWs, ?_, ?_, ?_, ?_, hrow, hx0, hx1⟩
          · simp only [Act.put, List.getElem_toArray, List.getElem_cons_zero, List.getElem_cons_succ, List.setIfInBounds_toArray, List.set_cons_zero, List.set_cons_succ]
          all_goals (try simp only [size_set])
          all_goals omega
      · skip
        go_simp
        refine hK.out _ _ (hS.alloc hS.size _) (fun hS => ?_)
        clear hK K
        (try simp only [Act.put, List.getElem_toArray, List.getElem_cons_zero, List.getElem_cons_succ, List.setIfInBounds_toArray, List.set_cons_zero, List.set_cons_succ])
        have hB := Blk.new w3 #[.int .i64 0, .slice none 0 0] 34
        have hc : Below w3.heap.size w3 (w3.alloc (.cells #[.int .i64 0, .slice none 0 0] 34)) := (Below.refl _ _).alloc (Nat.le_refl _) _
        have ltA := hB.lt
        generalize w3.alloc (.cells #[.int .i64 0, .slice none 0 0] 34) = yA at *
        have s4 : w3.heap.size ≤ yA.heap.size := hc.size
        have bq := hc
        replace cb40 := cell_later bq cb40
        replace cb41 := cell_later bq cb41
        replace cb42 := cell_later bq cb42
        replace zb4 := Nat.lt_of_lt_of_le zb4 bq.size
        replace rt1 := rt1.below bq
        replace hb := hb.trans (bq.mono hb.size)
        clear hc bq
        refine wpAnyH_ready (rs := [3]) (by as_aux_lemma => kernel_rfl) (by simp) ?_
        refine AllReadyH.cons rfl (fun K hK => ?_) AllReadyH.nil
        go_simp
        refine Calls.mono (toLayout_any W1 S1 C1 _) ?_
        rintro e w5 ⟨rfl, hc⟩
        replace hB := hB.below hc
        refine hK.out _ _ (hS.trans (hc.mono hS.size)) (fun hS => ?_)
        clear hK K
        (try simp only [Act.put, List.getElem_toArray, List.getElem_cons_zero, List.getElem_cons_succ, List.setIfInBounds_toArray, List.set_cons_zero, List.set_cons_succ])
        have s5 : yA.heap.size ≤ w5.heap.size := hc.size
        have bq := hc
        replace cb40 := cell_later bq cb40
        replace cb41 := cell_later bq cb41
        replace cb42 := cell_later bq cb42
        replace zb4 := Nat.lt_of_lt_of_le zb4 bq.size
        replace rt1 := rt1.below bq
        replace hb := hb.trans (bq.mono hb.size)
        clear hc bq
        refine wpAnyH_ready (rs := [5]) (by as_aux_lemma => kernel_rfl) (by simp) ?_
        refine AllReadyH.cons rfl (fun K hK => ?_) AllReadyH.nil
        go_simp
        refine Calls.mono (HSC.out at1 kt1 _ rt1.read Kt1.out.1 Kt1.out.2) ?_
        rintro e w6 ⟨vg2, rfl, rg2, hc⟩
        obtain ⟨ag2, kg2, rfl, -⟩ := (RowS.shape cellE_len rg2)
        replace hB := hB.below hc
        refine hK.out _ _ (hS.trans (hc.mono hS.size)) (fun hS => ?_)
        clear hK K
        (try simp only [Act.put, List.getElem_toArray, List.getElem_cons_zero, List.getElem_cons_succ, List.setIfInBounds_toArray, List.set_cons_zero, List.set_cons_succ])
        have s6 : w5.heap.size ≤ w6.heap.size := hc.size
        have bq := hc
        replace cb40 := cell_later bq cb40
        replace cb41 := cell_later bq cb41
        replace cb42 := cell_later bq cb42
        replace zb4 := Nat.lt_of_lt_of_le zb4 bq.size
        replace rt1 := rt1.below bq
        replace hb := hb.trans (bq.mono hb.size)
        clear hc bq
        have d0 : w6.cell? ⟨w3.heap.size, 0, none⟩ = some (.int .i64 0) := hB.cell 0
        have df0 := hB.frozen 0
        have d1 : w6.cell? ⟨w3.heap.size, 1, none⟩ = some (.slice none 0 0) := hB.cell 1
        have df1 := hB.frozen 1
        refine wpAnyH_ready (rs := [7]) (by as_aux_lemma => kernel_rfl) (by simp) ?_
        refine AllReadyH.cons rfl (fun K hK => ?_) AllReadyH.nil
        have HBB := hid hB
        clear hB
        go_simp
        have hWs : w1.heap.size ≤ w3.heap.size := by omega
        refine hK.out _ _ (((hS.setCell hWs _).setCell hWs _)) (fun hS => ?_)
        clear hK K
        (try simp only [Act.put, List.getElem_toArray, List.getElem_cons_zero, List.getElem_cons_succ, List.setIfInBounds_toArray, List.set_cons_zero, List.set_cons_succ])
        have hbl := ((HBB.out.set (i := 0) (.int .i64 p0)).set (i := 1) (.slice ag2 m kg2))
        simp only [List.setIfInBounds_toArray, List.set_cons_zero, List.set_cons_succ] at hbl
        have hdj : w3.heap.size < w5.heap.size ∨ w6.heap.size ≤ w3.heap.size := by omega
        have hrow := ((rg2.setB hdj 0 (.int .i64 p0)).setB hdj 1 (.slice ag2 m kg2))
        have hx0 := hbl.cell 0
        simp only [List.getElem?_toArray, List.getElem?_cons_zero, List.getElem?_cons_succ] at hx0
        have hx1 := hbl.cell 1
        simp only [List.getElem?_toArray, List.getElem?_cons_zero, List.getElem?_cons_succ] at hx1
        refine wpAnyH_done (by kernel_rfl) ?_ _
        refine ⟨rfl, w3.heap.size, w5.heap.size, w6.heap.size, .slice ag2 m kg2, at1, kt1, ?_, hS, hWs, ?_, ?_, ?_, ?_, hrow, hx0, hx1⟩
        · simp only [Act.put, List.getElem_toArray, List.getElem_cons_zero, List.getElem_cons_succ, List.setIfInBounds_toArray, List.set_cons_zero, List.set_cons_succ]
        all_goals (try simp only [size_set])
        all_goals omega
    · skip
      go_simp
      refine hK.out _ _ (hS.alloc hS.size _) (fun hS => ?_)
      clear hK K
      (try simp only [Act.put, List.getElem_toArray, List.getElem_cons_zero, List.getElem_cons_succ, List.setIfInBounds_toArray, List.set_cons_zero, List.set_cons_succ])
      have hB := Blk.new D #[.int .i64 0, .slice none 0 0] 34
      have hc : Below D.heap.size D (D.alloc (.cells #[.int .i64 0, .slice none 0 0] 34)) := (Below.refl _ _).alloc (Nat.le_refl _) _
      have ltA := hB.lt
      generalize D.alloc (.cells #[.int .i64 0, .slice none 0 0] 34) = yA at *
      have s3 : D.heap.size ≤ yA.heap.size := hc.size
      have bq := hc
      replace cb40 := cell_later bq cb40
      replace cb41 := cell_later bq cb41
      replace cb42 := cell_later bq cb42
      replace zb4 := Nat.lt_of_lt_of_le zb4 bq.size
      replace hb := hb.trans (bq.mono hb.size)
      clear hc bq
      refine wpAnyH_ready (rs := [1]) (by as_aux_lemma => kernel_rfl) (by simp) ?_
      refine AllReadyH.cons rfl (fun K hK => ?_) AllReadyH.nil
      go_simp
      refine Calls.mono (toByteS_row ap0 n0 kp0 xs0 _ (hr0.below hb) (by omega)) ?_
      rintro e w4 ⟨vt1, rfl, rt1, hc⟩
      obtain ⟨at1, kt1, rfl, q1, q2⟩ := rt1.shape
      have Kt1 : Hid _ := And.intro q1 q2
      clear q1 q2
      replace hB := hB.below hc
      refine hK.out _ _ (hS.trans (hc.mono hS.size)) (fun hS => ?_)
      clear hK K
      (try simp only [Act.put, List.getElem_toArray, List.getElem_cons_zero, List.getElem_cons_succ, List.setIfInBounds_toArray, List.set_cons_zero, List.set_cons_succ])
      have s4 : yA.heap.size ≤ w4.heap.size := hc.size
      have bq := hc
      replace cb40 := cell_later bq cb40
      replace cb41 := cell_later bq cb41
      replace cb42 := cell_later bq cb42
      replace zb4 := Nat.lt_of_lt_of_le zb4 bq.size
      replace hb := hb.trans (bq.mono hb.size)
      clear hc bq
      refine wpAnyH_ready (rs := [3]) (by as_aux_lemma => kernel_rfl) (by simp) ?_
      refine AllReadyH.cons rfl (fun K hK => ?_) AllReadyH.nil
      go_simp
      refine Calls.mono (toLayout_any W1 S1 C1 _) ?_
      rintro e w5 ⟨rfl, hc⟩
      replace hB := hB.below hc
      refine hK.out _ _ (hS.trans (hc.mono hS.size)) (fun hS => ?_)
      clear hK K
      (try simp only [Act.put, List.getElem_toArray, List.getElem_cons_zero, List.getElem_cons_succ, List.setIfInBounds_toArray, List.set_cons_zero, List.set_cons_succ])
      have s5 : w4.heap.size ≤ w5.heap.size := hc.size
      have bq := hc
      replace cb40 := cell_later bq cb40
      replace cb41 := cell_later bq cb41
      replace cb42 := cell_later bq cb42
      replace zb4 := Nat.lt_of_lt_of_le zb4 bq.size
      replace rt1 := rt1.below bq
      replace hb := hb.trans (bq.mono hb.size)
      clear hc bq
      refine wpAnyH_ready (rs := [5]) (by as_aux_lemma => kernel_rfl) (by simp) ?_
      refine AllReadyH.cons rfl (fun K hK => ?_) AllReadyH.nil
      go_simp
      refine Calls.mono (HSC.out at1 kt1 _ rt1.read Kt1.out.1 Kt1.out.2) ?_
      rintro e w6 ⟨vg2, rfl, rg2, hc⟩
      obtain ⟨ag2, kg2, rfl, -⟩ := (RowS.shape cellE_len rg2)
      replace hB := hB.below hc
      refine hK.out _ _ (hS.trans (hc.mono hS.size)) (fun hS => ?_)
      clear hK K
      (try simp only [Act.put, List.getElem_toArray, List.getElem_cons_zero, List.getElem_cons_succ, List.setIfInBounds_toArray, List.set_cons_zero, List.set_cons_succ])
      have s6 : w5.heap.size ≤ w6.heap.size := hc.size
      have bq := hc
      replace cb40 := cell_later bq cb40
      replace cb41 := cell_later bq cb41
      replace cb42 := cell_later bq cb42
      replace zb4 := Nat.lt_of_lt_of_le zb4 bq.size
      replace rt1 := rt1.below bq
      replace hb := hb.trans (bq.mono hb.size)
      clear hc bq
      have d0 : w6.cell? ⟨D.heap.size, 0, none⟩ = some (.int .i64 0) := hB.cell 0
      have df0 := hB.frozen 0
      have d1 : w6.cell? ⟨D.heap.size, 1, none⟩ = some (.slice none 0 0) := hB.cell 1
      have df1 := hB.frozen 1
      refine wpAnyH_ready (rs := [7]) (by as_aux_lemma => kernel_rfl) (by simp) ?_
      refine AllReadyH.cons rfl (fun K hK => ?_) AllReadyH.nil
      have HBB := hid hB
      clear hB
      go_simp
      have hWs : w1.heap.size ≤ D.heap.size := by omega
      refine hK.out _ _ (((hS.setCell hWs _).setCell hWs _)) (fun hS => ?_)
      clear hK K
      (try simp only [Act.put, List.getElem_toArray, List.getElem_cons_zero, List.getElem_cons_succ, List.setIfInBounds_toArray, List.set_cons_zero, List.set_cons_succ])
      have hbl := ((HBB.out.set (i := 0) (.int .i64 p0)).set (i := 1) (.slice ag2 m kg2))
      simp only [List.setIfInBounds_toArray, List.set_cons_zero, List.set_cons_succ] at hbl
      have hdj : D.heap.size < w5.heap.size ∨ w6.heap.size ≤ D.heap.size := by omega
      have hrow := ((rg2.setB hdj 0 (.int .i64 p0)).setB hdj 1 (.slice ag2 m kg2))
      have hx0 := hbl.cell 0
      simp only [List.getElem?_toArray, List.getElem?_cons_zero, List.getElem?_cons_succ] at hx0
      have hx1 := hbl.cell 1
      simp only [List.getElem?_toArray, List.getElem?_cons_zero, List.getElem?_cons_succ] at hx1
      refine wpAnyH_done (by kernel_rfl) ?_ _
      refine ⟨rfl, D.heap.size, w5.heap.size, w6.heap.size, .slice ag2 m kg2, at1, kt1, ?_, hS, hWs, ?_, ?_, ?_, ?_, hrow, hx0, hx1⟩
      · simp only [Act.put, List.getElem_toArray, List.getElem_cons_zero, List.getElem_cons_succ, List.setIfInBounds_toArray, List.set_cons_zero, List.set_cons_succ]
      all_goals (try simp only [size_set])
      all_goals omega
  · skip
    rintro a' w31 ⟨B31, lo31, hi31, vg3, u31_0, q31_0, rfl, hc, bl31, bu31, ll31, hu31, dj31, rg3, cb70, cb71⟩
    obtain ⟨ag3, kg3, rfl, -⟩ := (RowS.shape cellE_len rg3)
    simp only [Act.put, List.getElem_toArray, List.getElem_cons_zero, List.getElem_cons_succ, List.setIfInBounds_toArray, List.set_cons_zero, List.set_cons_succ]
    have s31 : w1.heap.size ≤ w31.heap.size := hc.size
    have bq := hc
    replace cb40 := cell_later bq cb40
    replace cb41 := cell_later bq cb41
    replace cb42 := cell_later bq cb42
    replace zb4 := Nat.lt_of_lt_of_le zb4 bq.size
    replace hb := hb.trans (bq.mono hb.size)
    clear hc bq
    have zb7 := bu31
    go_wp2_with fail
    refine Calls.mono (toByteS_row ap0 n0 kp0 xs0 _ (hr0.below hb) (by omega)) ?_
    rintro e w32 ⟨vt4, rfl, rt4, hc⟩
    obtain ⟨at4, kt4, rfl, q1, q2⟩ := rt4.shape
    have Kt4 : Hid _ := And.intro q1 q2
    clear q1 q2
    have s32 : w31.heap.size ≤ w32.heap.size := hc.size
    have bq := hc
    replace cb40 := cell_later bq cb40
    replace cb41 := cell_later bq cb41
    replace cb42 := cell_later bq cb42
    replace zb4 := Nat.lt_of_lt_of_le zb4 bq.size
    replace cb70 := cell_later bq cb70
    replace cb71 := cell_later bq cb71
    replace zb7 := Nat.lt_of_lt_of_le zb7 bq.size
    replace rg3 := rg3.below bq
    replace hb := hb.trans (bq.mono hb.size)
    clear hc bq
    go_wp2_with fail
    refine Calls.mono (toLayout_any W1 S1 C1 _) ?_
    rintro e w33 ⟨rfl, hc⟩
    have s33 : w32.heap.size ≤ w33.heap.size := hc.size
    have bq := hc
    replace cb40 := cell_later bq cb40
    replace cb41 := cell_later bq cb41
    replace cb42 := cell_later bq cb42
    replace zb4 := Nat.lt_of_lt_of_le zb4 bq.size
    replace cb70 := cell_later bq cb70
    replace cb71 := cell_later bq cb71
    replace zb7 := Nat.lt_of_lt_of_le zb7 bq.size
    replace rg3 := rg3.below bq
    replace rt4 := rt4.below bq
    replace hb := hb.trans (bq.mono hb.size)
    clear hc bq
    go_wp2_with fail
    refine Calls.mono (HIC.out at4 kt4 _ rt4.read Kt4.out.1 Kt4.out.2) ?_
    rintro e w34 ⟨vg5, rfl, rg5, hc⟩
    obtain ⟨ag5, kg5, rfl⟩ := rg5.shape
    have s34 : w33.heap.size ≤ w34.heap.size := hc.size
    have bq := hc
    replace cb40 := cell_later bq cb40
    replace cb41 := cell_later bq cb41
    replace cb42 := cell_later bq cb42
    replace zb4 := Nat.lt_of_lt_of_le zb4 bq.size
    replace cb70 := cell_later bq cb70
    replace cb71 := cell_later bq cb71
    replace zb7 := Nat.lt_of_lt_of_le zb7 bq.size
    replace rg3 := rg3.below bq
    replace rt4 := rt4.below bq
    replace hb := hb.trans (bq.mono hb.size)
    clear hc bq
    go_wp2_with fail
    have bp : ∀ o0, Below w34.heap.size w34 (w34.alloc o0) := fun o0 => (Below.refl _ _).alloc (Nat.le_refl _) o0
    have hbt : ∀ o0, Below w.heap.size w (w34.alloc o0) := fun o0 => hb.trans ((bp o0).mono hb.size)
    refine Calls.mono (eqCellsResult_yes p0 ag5 ag3 m kg5 kg3 rs _ (RowO.read cellE_len (rg5.below (bp _))) (RowS.read cellE_len (rg3.below (bp _))) (by first | omega | (unfold maxLen; omega))) ?_
    rintro e w35 ⟨rfl, hc⟩
    have s35 : w34.heap.size + 1 ≤ w35.heap.size := by have := hc.size; simp at this; omega
    have bq : Below w34.heap.size w34 w35 := (bp _).trans (hc.mono (bp _).size)
    replace cb40 := cell_later bq cb40
    replace cb41 := cell_later bq cb41
    replace cb42 := cell_later bq cb42
    replace zb4 := Nat.lt_of_lt_of_le zb4 bq.size
    replace cb70 := cell_later bq cb70
    replace cb71 := cell_later bq cb71
    replace zb7 := Nat.lt_of_lt_of_le zb7 bq.size
    have cb90 : w35.cell? ⟨w34.heap.size, 0, none⟩ = some (.int .i64 p0) := cell_later hc (by simp [go_sem])
    have cb91 : w35.cell? ⟨w34.heap.size, 1, none⟩ = some (.slice ag5 m kg5) := cell_later hc (by simp [go_sem])
    have zb9 : w34.heap.size < w35.heap.size := by omega
    replace rg3 := rg3.below bq
    replace rt4 := rt4.below bq
    replace rg5 := rg5.below bq
    replace hb := hb.trans (bq.mono hb.size)
    clear hc bq bp hbt
    go_wp2_with fail
    refine Calls.mono (toByteS_row ap0 n0 kp0 xs0 _ (hr0.below hb) (by omega)) ?_
    rintro e w36 ⟨vt6, rfl, rt6, hc⟩
    obtain ⟨at6, kt6, rfl, q1, q2⟩ := rt6.shape
    have Kt6 : Hid _ := And.intro q1 q2
    clear q1 q2
    have s36 : w35.heap.size ≤ w36.heap.size := hc.size
    have bq := hc
    replace cb40 := cell_later bq cb40
    replace cb41 := cell_later bq cb41
    replace cb42 := cell_later bq cb42
    replace zb4 := Nat.lt_of_lt_of_le zb4 bq.size
    replace cb70 := cell_later bq cb70
    replace cb71 := cell_later bq cb71
    replace zb7 := Nat.lt_of_lt_of_le zb7 bq.size
    replace cb90 := cell_later bq cb90
    replace cb91 := cell_later bq cb91
    replace zb9 := Nat.lt_of_lt_of_le zb9 bq.size
    replace rg3 := rg3.below bq
    replace rt4 := rt4.below bq
    replace rg5 := rg5.below bq
    replace hb := hb.trans (bq.mono hb.size)
    clear hc bq
    go_wp2_with fail
    refine Calls.mono (eqByteS_yes at4 at6 n0 kt4 kt6 xs0 _ rt4.read rt6.read (by first | omega | (unfold maxLen; omega))) ?_
    rintro e w37 ⟨rfl, hc⟩
    have s37 : w36.heap.size ≤ w37.heap.size := hc.size
    have bq := hc
    replace cb40 := cell_later bq cb40
    replace cb41 := cell_later bq cb41
    replace cb42 := cell_later bq cb42
    replace zb4 := Nat.lt_of_lt_of_le zb4 bq.size
    replace cb70 := cell_later bq cb70
    replace cb71 := cell_later bq cb71
    replace zb7 := Nat.lt_of_lt_of_le zb7 bq.size
    replace cb90 := cell_later bq cb90
    replace cb91 := cell_later bq cb91
    replace zb9 := Nat.lt_of_lt_of_le zb9 bq.size
    replace rg3 := rg3.below bq
    replace rt4 := rt4.below bq
    replace rg5 := rg5.below bq
    replace rt6 := rt6.below bq
    replace hb := hb.trans (bq.mono hb.size)
    clear hc bq
    go_wp2_with fail
    refine Calls.mono (markByteS_row _ n0 _ _ xs0 1 _ rt4 (by omega) (by omega) (by omega)) ?_
    clear rt4
    rintro e w38 ⟨rfl, rt4, hc⟩
    have s38 : w37.heap.size ≤ w38.heap.size := hc.size
    have cq := hc
    replace cb40 := cq.at cb40 zb4 (by omega)
    replace cb41 := cq.at cb41 zb4 (by omega)
    replace cb42 := cq.at cb42 zb4 (by omega)
    replace zb4 := Nat.lt_of_lt_of_le zb4 cq.size
    replace cb70 := cq.at cb70 zb7 (by omega)
    replace cb71 := cq.at cb71 zb7 (by omega)
    replace zb7 := Nat.lt_of_lt_of_le zb7 cq.size
    replace cb90 := cq.at cb90 zb9 (by omega)
    replace cb91 := cq.at cb91 zb9 (by omega)
    replace zb9 := Nat.lt_of_lt_of_le zb9 cq.size
    replace rg3 := rg3.chg cq (by omega)
    replace rg5 := rg5.chg cq (by omega)
    replace rt6 := rt6.chg cq (by omega)
    replace hb := below_chg hb cq hb.size (by omega)
    clear hc cq
    have hk38 : ¬ (1 + (n0 : Int)) < 0 := by omega
    go_wp2_with fail
    refine Calls.mono (eqCellsResult_yes p0 ag5 ag3 m kg5 kg3 rs _ (RowO.read cellE_len rg5) (RowS.read cellE_len rg3) (by first | omega | (unfold maxLen; omega))) ?_
    rintro e w39 ⟨rfl, hc⟩
    have s39 : w38.heap.size ≤ w39.heap.size := hc.size
    have bq := hc
    replace cb40 := cell_later bq cb40
    replace cb41 := cell_later bq cb41
    replace cb42 := cell_later bq cb42
    replace zb4 := Nat.lt_of_lt_of_le zb4 bq.size
    replace cb70 := cell_later bq cb70
    replace cb71 := cell_later bq cb71
    replace zb7 := Nat.lt_of_lt_of_le zb7 bq.size
    replace cb90 := cell_later bq cb90
    replace cb91 := cell_later bq cb91
    replace zb9 := Nat.lt_of_lt_of_le zb9 bq.size
    replace rg3 := rg3.below bq
    replace rt4 := rt4.below bq
    replace rg5 := rg5.below bq
    replace rt6 := rt6.below bq
    replace hb := hb.trans (bq.mono hb.size)
    clear hc bq
    go_wp2_with fail
    refine Calls.mono (markCellsResult_o p0 1 _ m _ _ rs _ rg5 (by omega) (by omega) (by omega) (by omega)) ?_
    clear rg5
    rintro e w40 ⟨rfl, rg5, hc⟩
    have s40 : w39.heap.size ≤ w40.heap.size := hc.size
    have cq := hc
    replace cb40 := cq.at cb40 zb4 (by omega)
    replace cb41 := cq.at cb41 zb4 (by omega)
    replace cb42 := cq.at cb42 zb4 (by omega)
    replace zb4 := Nat.lt_of_lt_of_le zb4 cq.size
    replace cb70 := cq.at cb70 zb7 (by omega)
    replace cb71 := cq.at cb71 zb7 (by omega)
    replace zb7 := Nat.lt_of_lt_of_le zb7 cq.size
    replace cb90 := cq.at cb90 zb9 (by omega)
    replace cb91 := cq.at cb91 zb9 (by omega)
    replace zb9 := Nat.lt_of_lt_of_le zb9 cq.size
    replace rg3 := rg3.chg cq (by omega)
    replace rt4 := rt4.chg cq (by omega)
    replace rt6 := rt6.chg cq (by omega)
    replace hb := below_chg hb cq hb.size (by omega)
    clear hc cq
    have hk40 : ¬ (1 + 3 * (m : Int)) < 0 := by omega
    go_wp2_with fail
    refine Calls.mono (heldCellsResult_yes p0 1 ag5 m kg5 _ (RowO.read cellE_len rg5) (by omega) (by omega) (by omega)) ?_
    rintro e w41 ⟨rfl, hc⟩
    have s41 : w40.heap.size ≤ w41.heap.size := hc.size
    have bq := hc
    replace cb40 := cell_later bq cb40
    replace cb41 := cell_later bq cb41
    replace cb42 := cell_later bq cb42
    replace zb4 := Nat.lt_of_lt_of_le zb4 bq.size
    replace cb70 := cell_later bq cb70
    replace cb71 := cell_later bq cb71
    replace zb7 := Nat.lt_of_lt_of_le zb7 bq.size
    replace cb90 := cell_later bq cb90
    replace cb91 := cell_later bq cb91
    replace zb9 := Nat.lt_of_lt_of_le zb9 bq.size
    replace rg3 := rg3.below bq
    replace rt4 := rt4.below bq
    replace rg5 := rg5.below bq
    replace rt6 := rt6.below bq
    replace hb := hb.trans (bq.mono hb.size)
    clear hc bq
    go_wp2_with fail
    refine region_join (fun a a' w' => ∃ (B : Nat) (lo hi : Nat) (v : Value) (u0 : Option Addr) (q0 : Nat), a' = (((((((a.put (some 61) (.slice ap0 n0 kp0)).put (some 62) ((.slice u0 n0 q0))).put (some 63) (.agg #[.int .i64 W1, .bool C1, .int .i64 S1])).put (some 64) (.agg #[.int .i64 W1, .bool C1, .int .i64 S1])).put (some 65) (.int .i64 I2)).put (some 66) (.agg #[.int .i64 p0, v])).put (some 13) (.pointer (some ⟨B, 0, none⟩))) ∧ Below w41.heap.size w41 w' ∧ w41.heap.size ≤ B ∧ B < w'.heap.size ∧ w41.heap.size ≤ lo ∧ hi ≤ w'.heap.size ∧ (B < lo ∨ hi ≤ B) ∧ RowO cellE 3 38 w' lo hi v m rs ∧ w'.cell? ⟨B, 0, none⟩ = some (.int .i64 p0) ∧ w'.cell? ⟨B, 1, none⟩ = some (v)) ?_ ?_
    · skip
      have ob40 := cb40
      have ob41 := cb41
      have ob42 := cb42
      have ob70 := cb70
      have ob71 := cb71
      have ob90 := cb90
      have ob91 := cb91
      have bd : Below w41.heap.size w41 w41.drew := (Below.refl _ _).drew
      refine wp_region_held_drew (S := fun w' => Below w41.heap.size w41 w') (by kernel_rfl) bd (fun hS => ?_)
      obtain ⟨D, hD⟩ : ∃ D, w41.drew = D := ⟨_, rfl⟩
      rw [hD] at hS bd ⊢
      have hc := bd
      clear hD bd
      have s42 : w41.heap.size ≤ D.heap.size := hc.size
      have bq := hc
      replace cb40 := cell_later bq cb40
      replace cb41 := cell_later bq cb41
      replace cb42 := cell_later bq cb42
      replace zb4 := Nat.lt_of_lt_of_le zb4 bq.size
      replace cb70 := cell_later bq cb70
      replace cb71 := cell_later bq cb71
      replace zb7 := Nat.lt_of_lt_of_le zb7 bq.size
      replace cb90 := cell_later bq cb90
      replace cb91 := cell_later bq cb91
      replace zb9 := Nat.lt_of_lt_of_le zb9 bq.size
      replace rg3 := rg3.below bq
      replace rt4 := rt4.below bq
      replace rg5 := rg5.below bq
      replace rt6 := rt6.below bq
      replace hb := hb.trans (bq.mono hb.size)
      clear hc bq
      refine wpAnyH_take (i := 0) (v := (.slice ap0 n0 kp0)) rfl (by as_aux_lemma => kernel_rfl) (by as_aux_lemma => kernel_rfl) (by as_aux_lemma => kernel_rfl) (fun _ _ _ h => nomatch h.1) (Or.inl ⟨by kernel_rfl, ?_⟩) hS ?_
      · intro w hSw; (try dsimp only at hSw); go_simp
      (try simp only [Act.put, List.getElem_toArray, List.getElem_cons_zero, List.getElem_cons_succ, List.setIfInBounds_toArray, List.set_cons_zero, List.set_cons_succ])
      refine wpAnyH_take (i := 2) (v := (.agg #[.int .i64 W1, .bool C1, .int .i64 S1])) rfl (by as_aux_lemma => kernel_rfl) (by as_aux_lemma => kernel_rfl) (by as_aux_lemma => kernel_rfl) (fun _ _ _ h => nomatch h.1) (Or.inl ⟨by kernel_rfl, ?_⟩) hS ?_
      · intro w hSw; (try dsimp only at hSw); have hl0 := cell_later hSw ob40; have hl1 := cell_later hSw ob41; have hl2 := cell_later hSw ob42; go_simp
      (try simp only [Act.put, List.getElem_toArray, List.getElem_cons_zero, List.getElem_cons_succ, List.setIfInBounds_toArray, List.set_cons_zero, List.set_cons_succ])
      refine wpAnyH_take (i := 4) (v := (.int .i64 I2)) rfl (by as_aux_lemma => kernel_rfl) (by as_aux_lemma => kernel_rfl) (by as_aux_lemma => kernel_rfl) (fun _ _ _ h => nomatch h.1) (Or.inl ⟨by kernel_rfl, ?_⟩) hS ?_
      · intro w hSw; (try dsimp only at hSw); go_simp
      (try simp only [Act.put, List.getElem_toArray, List.getElem_cons_zero, List.getElem_cons_succ, List.setIfInBounds_toArray, List.set_cons_zero, List.set_cons_succ])
      refine wpAnyH_ready (rs := [1, 6]) (by as_aux_lemma => kernel_rfl) (by simp) ?_
      refine AllReadyH.cons rfl (fun K hK => ?_) (AllReadyH.cons rfl (fun K hK => ?_) AllReadyH.nil)
      · skip
        go_simp
        refine Calls.mono (toByteS_row ap0 n0 kp0 xs0 _ (hr0.below hb) (by omega)) ?_
        rintro e w43 ⟨vt7, rfl, rt7, hc⟩
        obtain ⟨at7, kt7, rfl, q1, q2⟩ := rt7.shape
        have Kt7 : Hid _ := And.intro q1 q2
        clear q1 q2
        refine hK.out _ _ (hS.trans (hc.mono hS.size)) (fun hS => ?_)
        clear hK K
        (try simp only [Act.put, List.getElem_toArray, List.getElem_cons_zero, List.getElem_cons_succ, List.setIfInBounds_toArray, List.set_cons_zero, List.set_cons_succ])
        have s43 : D.heap.size ≤ w43.heap.size := hc.size
        have bq := hc
        replace cb40 := cell_later bq cb40
        replace cb41 := cell_later bq cb41
        replace cb42 := cell_later bq cb42
        replace zb4 := Nat.lt_of_lt_of_le zb4 bq.size
        replace cb70 := cell_later bq cb70
        replace cb71 := cell_later bq cb71
        replace zb7 := Nat.lt_of_lt_of_le zb7 bq.size
        replace cb90 := cell_later bq cb90
        replace cb91 := cell_later bq cb91
        replace zb9 := Nat.lt_of_lt_of_le zb9 bq.size
        replace rg3 := rg3.below bq
        replace rt4 := rt4.below bq
        replace rg5 := rg5.below bq
        replace rt6 := rt6.below bq
        replace hb := hb.trans (bq.mono hb.size)
        clear hc bq
        refine wpAnyH_ready (rs := [3, 6]) (by as_aux_lemma => kernel_rfl) (by simp) ?_
        refine AllReadyH.cons rfl (fun K hK => ?_) (AllReadyH.cons rfl (fun K hK => ?_) AllReadyH.nil)
        · skip
          go_simp
          refine Calls.mono (toLayout_any W1 S1 C1 _) ?_
          rintro e w44 ⟨rfl, hc⟩
          refine hK.out _ _ (hS.trans (hc.mono hS.size)) (fun hS => ?_)
          clear hK K
          (try simp only [Act.put, List.getElem_toArray, List.getElem_cons_zero, List.getElem_cons_succ, List.setIfInBounds_toArray, List.set_cons_zero, List.set_cons_succ])
          have s44 : w43.heap.size ≤ w44.heap.size := hc.size
          have bq := hc
          replace cb40 := cell_later bq cb40
          replace cb41 := cell_later bq cb41
          replace cb42 := cell_later bq cb42
          replace zb4 := Nat.lt_of_lt_of_le zb4 bq.size
          replace cb70 := cell_later bq cb70
          replace cb71 := cell_later bq cb71
          replace zb7 := Nat.lt_of_lt_of_le zb7 bq.size
          replace cb90 := cell_later bq cb90
          replace cb91 := cell_later bq cb91
          replace zb9 := Nat.lt_of_lt_of_le zb9 bq.size
          replace rg3 := rg3.below bq
          replace rt4 := rt4.below bq
          replace rg5 := rg5.below bq
          replace rt6 := rt6.below bq
          replace rt7 := rt7.below bq
          replace hb := hb.trans (bq.mono hb.size)
          clear hc bq
          refine wpAnyH_ready (rs := [5, 6]) (by as_aux_lemma => kernel_rfl) (by simp) ?_
          refine AllReadyH.cons rfl (fun K hK => ?_) (AllReadyH.cons rfl (fun K hK => ?_) AllReadyH.nil)
          · skip
            go_simp
            refine Calls.mono (HIC.out at7 kt7 _ rt7.read Kt7.out.1 Kt7.out.2) ?_
            rintro e w45 ⟨vg8, rfl, rg8, hc⟩
            obtain ⟨ag8, kg8, rfl⟩ := rg8.shape
            refine hK.out _ _ (hS.trans (hc.mono hS.size)) (fun hS => ?_)
            clear hK K
            (try simp only [Act.put, List.getElem_toArray, List.getElem_cons_zero, List.getElem_cons_succ, List.setIfInBounds_toArray, List.set_cons_zero, List.set_cons_succ])
            have s45 : w44.heap.size ≤ w45.heap.size := hc.size
            have bq := hc
            replace cb40 := cell_later bq cb40
            replace cb41 := cell_later bq cb41
            replace cb42 := cell_later bq cb42
            replace zb4 := Nat.lt_of_lt_of_le zb4 bq.size
            replace cb70 := cell_later bq cb70
            replace cb71 := cell_later bq cb71
            replace zb7 := Nat.lt_of_lt_of_le zb7 bq.size
            replace cb90 := cell_later bq cb90
            replace cb91 := cell_later bq cb91
            replace zb9 := Nat.lt_of_lt_of_le zb9 bq.size
            replace rg3 := rg3.below bq
            replace rt4 := rt4.below bq
            replace rg5 := rg5.below bq
            replace rt6 := rt6.below bq
            replace rt7 := rt7.below bq
            replace hb := hb.trans (bq.mono hb.size)
            clear hc bq
            refine wpAnyH_ready (rs := [6]) (by as_aux_lemma => kernel_rfl) (by simp) ?_
            refine AllReadyH.cons rfl (fun K hK => ?_) AllReadyH.nil
            go_simp
            refine hK.out _ _ (hS.alloc hS.size _) (fun hS => ?_)
            clear hK K
            (try simp only [Act.put, List.getElem_toArray, List.getElem_cons_zero, List.getElem_cons_succ, List.setIfInBounds_toArray, List.set_cons_zero, List.set_cons_succ])
            have hB := Blk.new w45 #[.int .i64 0, .slice none 0 0] 34
            have hc : Below w45.heap.size w45 (w45.alloc (.cells #[.int .i64 0, .slice none 0 0] 34)) := (Below.refl _ _).alloc (Nat.le_refl _) _
            have ltA := hB.lt
            generalize w45.alloc (.cells #[.int .i64 0, .slice none 0 0] 34) = yA at *
            have s46 : w45.heap.size ≤ yA.heap.size := hc.size
            have bq := hc
            replace cb40 := cell_later bq cb40
            replace cb41 := cell_later bq cb41
            replace cb42 := cell_later bq cb42
            replace zb4 := Nat.lt_of_lt_of_le zb4 bq.size
            replace cb70 := cell_later bq cb70
            replace cb71 := cell_later bq cb71
            replace zb7 := Nat.lt_of_lt_of_le zb7 bq.size
            replace cb90 := cell_later bq cb90
            replace cb91 := cell_later bq cb91
            replace zb9 := Nat.lt_of_lt_of_le zb9 bq.size
            replace rg3 := rg3.below bq
            replace rt4 := rt4.below bq
            replace rg5 := rg5.below bq
            replace rt6 := rt6.below bq
            replace rt7 := rt7.below bq
            replace rg8 := rg8.below bq
            replace hb := hb.trans (bq.mono hb.size)
            clear hc bq
            have d0 : yA.cell? ⟨w45.heap.size, 0, none⟩ = some (.int .i64 0) := hB.cell 0
            have df0 := hB.frozen 0
            have d1 : yA.cell? ⟨w45.heap.size, 1, none⟩ = some (.slice none 0 0) := hB.cell 1
            have df1 := hB.frozen 1
            refine wpAnyH_ready (rs := [7]) (by as_aux_lemma => kernel_rfl) (by simp) ?_
            refine AllReadyH.cons rfl (fun K hK => ?_) AllReadyH.nil
            have HBB := hid hB
            clear hB
            go_simp
            have hWs : w41.heap.size ≤ w45.heap.size := by omega
            refine hK.out _ _ (((hS.setCell hWs _).setCell hWs _)) (fun hS => ?_)
            clear hK K
            (try simp only [Act.put, List.getElem_toArray, List.getElem_cons_zero, List.getElem_cons_succ, List.setIfInBounds_toArray, List.set_cons_zero, List.set_cons_succ])
            have hbl := ((HBB.out.set (i := 0) (.int .i64 p0)).set (i := 1) (.slice ag8 m kg8))
            simp only [List.setIfInBounds_toArray, List.set_cons_zero, List.set_cons_succ] at hbl
            have hdj : w45.heap.size < w44.heap.size ∨ w45.heap.size ≤ w45.heap.size := by omega
            have hrow := ((rg8.setB hdj 0 (.int .i64 p0)).setB hdj 1 (.slice ag8 m kg8))
            have hx0 := hbl.cell 0
            simp only [List.getElem?_toArray, List.getElem?_cons_zero, List.getElem?_cons_succ] at hx0
            have hx1 := hbl.cell 1
            simp only [List.getElem?_toArray, List.getElem?_cons_zero, List.getElem?_cons_succ] at hx1
            refine wpAnyH_done (by kernel_rfl) ?_ _
            refine ⟨rfl, w45.heap.size, w44.heap.size, w45.heap.size, .slice ag8 m kg8, at7, kt7, ?_, hS, hWs, ?_, ?_, ?_, ?_, hrow, hx0, hx1⟩
            · simp only [Act.put, List.getElem_toArray, List.getElem_cons_zero, List.getElem_cons_succ, List.setIfInBounds_toArray, List.set_cons_zero, List.set_cons_succ]
            all_goals (try simp only [size_set])
            all_goals omega
          · skip
            go_simp
            refine hK.out _ _ (hS.alloc hS.size _) (fun hS => ?_)
            clear hK K
            (try simp only [Act.put, List.getElem_toArray, List.getElem_cons_zero, List.getElem_cons_succ, List.setIfInBounds_toArray, List.set_cons_zero, List.set_cons_succ])
            have hB := Blk.new w44 #[.int .i64 0, .slice none 0 0] 34
            have hc : Below w44.heap.size w44 (w44.alloc (.cells #[.int .i64 0, .slice none 0 0] 34)) := (Below.refl _ _).alloc (Nat.le_refl _) _
            have ltA := hB.lt
            generalize w44.alloc (.cells #[.int .i64 0, .slice none 0 0] 34) = yA at *
            have s45 : w44.heap.size ≤ yA.heap.size := hc.size
            have bq := hc
            replace cb40 := cell_later bq cb40
            replace cb41 := cell_later bq cb41
            replace cb42 := cell_later bq cb42
            replace zb4 := Nat.lt_of_lt_of_le zb4 bq.size
            replace cb70 := cell_later bq cb70
            replace cb71 := cell_later bq cb71
            replace zb7 := Nat.lt_of_lt_of_le zb7 bq.size
            replace cb90 := cell_later bq cb90
            replace cb91 := cell_later bq cb91
            replace zb9 := Nat.lt_of_lt_of_le zb9 bq.size
            replace rg3 := rg3.below bq
            replace rt4 := rt4.below bq
            replace rg5 := rg5.below bq
            replace rt6 := rt6.below bq
            replace rt7 := rt7.below bq
            replace hb := hb.trans (bq.mono hb.size)
            clear hc bq
            refine wpAnyH_ready (rs := [5]) (by as_aux_lemma => kernel_rfl) (by simp) ?_
            refine AllReadyH.cons rfl (fun K hK => ?_) AllReadyH.nil
            go_simp
            refine Calls.mono (HIC.out at7 kt7 _ rt7.read Kt7.out.1 Kt7.out.2) ?_
            rintro e w46 ⟨vg8, rfl, rg8, hc⟩
            obtain ⟨ag8, kg8, rfl⟩ := rg8.shape
            replace hB := hB.below hc
            refine hK.out _ _ (hS.trans (hc.mono hS.size)) (fun hS => ?_)
            clear hK K
            (try simp only [Act.put, List.getElem_toArray, List.getElem_cons_zero, List.getElem_cons_succ, List.setIfInBounds_toArray, List.set_cons_zero, List.set_cons_succ])
            have s46 : yA.heap.size ≤ w46.heap.size := hc.size
            have bq := hc
            replace cb40 := cell_later bq cb40
            replace cb41 := cell_later bq cb41
            replace cb42 := cell_later bq cb42
            replace zb4 := Nat.lt_of_lt_of_le zb4 bq.size
            replace cb70 := cell_later bq cb70
            replace cb71 := cell_later bq cb71
            replace zb7 := Nat.lt_of_lt_of_le zb7 bq.size
            replace cb90 := cell_later bq cb90
            replace cb91 := cell_later bq cb91
            replace zb9 := Nat.lt_of_lt_of_le zb9 bq.size
            replace rg3 := rg3.below bq
            replace rt4 := rt4.below bq
            replace rg5 := rg5.below bq
            replace rt6 := rt6.below bq
            replace rt7 := rt7.below bq
            replace hb := hb.trans (bq.mono hb.size)
            clear hc bq
            have d0 : w46.cell? ⟨w44.heap.size, 0, none⟩ = some (.int .i64 0) := hB.cell 0
            have df0 := hB.frozen 0
            have d1 : w46.cell? ⟨w44.heap.size, 1, none⟩ = some (.slice none 0 0) := hB.cell 1
            have df1 := hB.frozen 1
            refine wpAnyH_ready (rs := [7]) (by as_aux_lemma => kernel_rfl) (by simp) ?_
            refine AllReadyH.cons rfl (fun K hK => ?_) AllReadyH.nil
            have HBB := hid hB
            clear hB
            go_simp
            have hWs : w41.heap.size ≤ w44.heap.size := by omega
            refine hK.out _ _ (((hS.setCell hWs _).setCell hWs _)) (fun hS => ?_)
            clear hK K
            (try simp only [Act.put, List.getElem_toArray, List.getElem_cons_zero, List.getElem_cons_succ, List.setIfInBounds_toArray, List.set_cons_zero, List.set_cons_succ])
            have hbl := ((HBB.out.set (i := 0) (.int .i64 p0)).set (i := 1) (.slice ag8 m kg8))
            simp only [List.setIfInBounds_toArray, List.set_cons_zero, List.set_cons_succ] at hbl
            have hdj : w44.heap.size < yA.heap.size ∨ w46.heap.size ≤ w44.heap.size := by omega
            have hrow := ((rg8.setB hdj 0 (.int .i64 p0)).setB hdj 1 (.slice ag8 m kg8))
            have hx0 := hbl.cell 0
            simp only [List.getElem?_toArray, List.getElem?_cons_zero, List.getElem?_cons_succ] at hx0
            have hx1 := hbl.cell 1
            simp only [List.getElem?_toArray, List.getElem?_cons_zero, List.getElem?_cons_succ] at hx1
            refine wpAnyH_done (by kernel_rfl) ?_ _
            refine ⟨rfl, w44.heap.size, yA.heap.size, w46.heap.size, .slice ag8 m kg8, at7, kt7, ?_, hS, hWs, ?_, ?_, ?_, ?_, hrow, hx0, hx1⟩
            · simp only [Act.put, List.getElem_toArray, List.getElem_cons_zero, List.getElem_cons_succ, List.setIfInBounds_toArray, List.set_cons_zero, List.set_cons_succ]
            all_goals (try simp only [size_set])
            all_goals omega
        · skip
          go_simp
          refine hK.out _ _ (hS.alloc hS.size _) (fun hS => ?_)
          clear hK K
          (try simp only [Act.put, List.getElem_toArray, List.getElem_cons_zero, List.getElem_cons_succ, List.setIfInBounds_toArray, List.set_cons_zero, List.set_cons_succ])
          have hB := Blk.new w43 #[.int .i64 0, .slice none 0 0] 34
          have hc : Below w43.heap.size w43 (w43.alloc (.cells #[.int .i64 0, .slice none 0 0] 34)) := (Below.refl _ _).alloc (Nat.le_refl _) _
          have ltA := hB.lt
          generalize w43.alloc (.cells #[.int .i64 0, .slice none 0 0] 34) = yA at *
          have s44 : w43.heap.size ≤ yA.heap.size := hc.size
          have bq := hc
          replace cb40 := cell_later bq cb40
          replace cb41 := cell_later bq cb41
          replace cb42 := cell_later bq cb42
          replace zb4 := Nat.lt_of_lt_of_le zb4 bq.size
          replace cb70 := cell_later bq cb70
          replace cb71 := cell_later bq cb71
          replace zb7 := Nat.lt_of_lt_of_le zb7 bq.size
          replace cb90 := cell_later bq cb90
          replace cb91 := cell_later bq cb91
          replace zb9 := Nat.lt_of_lt_of_le zb9 bq.size
          replace rg3 := rg3.below bq
          replace rt4 := rt4.below bq
          replace rg5 := rg5.below bq
          replace rt6 := rt6.below bq
          replace rt7 := rt7.below bq
          replace hb := hb.trans (bq.mono hb.size)
          clear hc bq
          refine wpAnyH_ready (rs := [3]) (by as_aux_lemma => kernel_rfl) (by simp) ?_
          refine AllReadyH.cons rfl (fun K hK => ?_) AllReadyH.nil
          go_simp
          refine Calls.mono (toLayout_any W1 S1 C1 _) ?_
          rintro e w45 ⟨rfl, hc⟩
          replace hB := hB.below hc
          refine hK.out _ _ (hS.trans (hc.mono hS.size)) (fun hS => ?_)
          clear hK K
          (try simp only [Act.put, List.getElem_toArray, List.getElem_cons_zero, List.getElem_cons_succ, List.setIfInBounds_toArray, List.set_cons_zero, List.set_cons_succ])
          have s45 : yA.heap.size ≤ w45.heap.size := hc.size
          have bq := hc
          replace cb40 := cell_later bq cb40
          replace cb41 := cell_later bq cb41
          replace cb42 := cell_later bq cb42
          replace zb4 := Nat.lt_of_lt_of_le zb4 bq.size
          replace cb70 := cell_later bq cb70
          replace cb71 := cell_later bq cb71
          replace zb7 := Nat.lt_of_lt_of_le zb7 bq.size
          replace cb90 := cell_later bq cb90
          replace cb91 := cell_later bq cb91
          replace zb9 := Nat.lt_of_lt_of_le zb9 bq.size
          replace rg3 := rg3.below bq
          replace rt4 := rt4.below bq
          replace rg5 := rg5.below bq
          replace rt6 := rt6.below bq
          replace rt7 := rt7.below bq
          replace hb := hb.trans (bq.mono hb.size)
          clear hc bq
          refine wpAnyH_ready (rs := [5]) (by as_aux_lemma => kernel_rfl) (by simp) ?_
          refine AllReadyH.cons rfl (fun K hK => ?_) AllReadyH.nil
          go_simp
          refine Calls.mono (HIC.out at7 kt7 _ rt7.read Kt7.out.1 Kt7.out.2) ?_
          rintro e w46 ⟨vg8, rfl, rg8, hc⟩
          obtain ⟨ag8, kg8, rfl⟩ := rg8.shape
          replace hB := hB.below hc
          refine hK.out _ _ (hS.trans (hc.mono hS.size)) (fun hS => ?_)
          clear hK K
          (try simp only [Act.put, List.getElem_toArray, List.getElem_cons_zero, List.getElem_cons_succ, List.setIfInBounds_toArray, List.set_cons_zero, List.set_cons_succ])
          have s46 : w45.heap.size ≤ w46.heap.size := hc.size
          have bq := hc
          replace cb40 := cell_later bq cb40
          replace cb41 := cell_later bq cb41
          replace cb42 := cell_later bq cb42
          replace zb4 := Nat.lt_of_lt_of_le zb4 bq.size
          replace cb70 := cell_later bq cb70
          replace cb71 := cell_later bq cb71
          replace zb7 := Nat.lt_of_lt_of_le zb7 bq.size
          replace cb90 := cell_later bq cb90
          replace cb91 := cell_later bq cb91
          replace zb9 := Nat.lt_of_lt_of_le zb9 bq.size
          replace rg3 := rg3.below bq
          replace rt4 := rt4.below bq
          replace rg5 := rg5.below bq
          replace rt6 := rt6.below bq
          replace rt7 := rt7.below bq
          replace hb := hb.trans (bq.mono hb.size)
          clear hc bq
          have d0 : w46.cell? ⟨w43.heap.size, 0, none⟩ = some (.int .i64 0) := hB.cell 0
          have df0 := hB.frozen 0
          have d1 : w46.cell? ⟨w43.heap.size, 1, none⟩ = some (.slice none 0 0) := hB.cell 1
          have df1 := hB.frozen 1
          refine wpAnyH_ready (rs := [7]) (by as_aux_lemma => kernel_rfl) (by simp) ?_
          refine AllReadyH.cons rfl (fun K hK => ?_) AllReadyH.nil
          have HBB := hid hB
          clear hB
          go_simp
          have hWs : w41.heap.size ≤ w43.heap.size := by omega
          refine hK.out _ _ (((hS.setCell hWs _).setCell hWs _)) (fun hS => ?_)
          clear hK K
          (try simp only [Act.put, List.getElem_toArray, List.getElem_cons_zero, List.getElem_cons_succ, List.setIfInBounds_toArray, List.set_cons_zero, List.set_cons_succ])
          have hbl := ((HBB.out.set (i := 0) (.int .i64 p0)).set (i := 1) (.slice ag8 m kg8))
          simp only [List.setIfInBounds_toArray, List.set_cons_zero, List.set_cons_succ] at hbl
          have hdj : w43.heap.size < w45.heap.size ∨ w46.heap.size ≤ w43.heap.size := by omega
          have hrow := ((rg8.setB hdj 0 (.int .i64 p0)).setB hdj 1 (.slice ag8 m kg8))
          have hx0 := hbl.cell 0
          simp only [List.getElem?_toArray, List.getElem?_cons_zero, List.getElem?_cons_succ] at hx0
          have hx1 := hbl.cell 1
          simp only [List.getElem?_toArray, List.getElem?_cons_zero, List.getElem?_cons_succ] at hx1
          refine wpAnyH_done (by kernel_rfl) ?_ _
          refine ⟨rfl, w43.heap.size, w45.heap.size, w46.heap.size, .slice ag8 m kg8, at7, kt7, ?_, hS, hWs, ?_, ?_, ?_, ?_, hrow, hx0, hx1⟩
          · simp only [Act.put, List.getElem_toArray, List.getElem_cons_zero, List.getElem_cons_succ, List.setIfInBounds_toArray, List.set_cons_zero, List.set_cons_succ]
          all_goals (try simp only [size_set])
          all_goals omega
      · skip
        go_simp
        refine hK.out _ _ (hS.alloc hS.size _) (fun hS => ?_)
        clear hK K
        (try simp only [Act.put, List.getElem_toArray, List.getElem_cons_zero, List.getElem_cons_succ, List.setIfInBounds_toArray, List.set_cons_zero, List.set_cons_succ])
        have hB := Blk.new D #[.int .i64 0, .slice none 0 0] 34
        have hc : Below D.heap.size D (D.alloc (.cells #[.int .i64 0, .slice none 0 0] 34)) := (Below.refl _ _).alloc (Nat.le_refl _) _
        have ltA := hB.lt
        generalize D.alloc (.cells #[.int .i64 0, .slice none 0 0] 34) = yA at *
        have s43 : D.heap.size ≤ yA.heap.size := hc.size
        have bq := hc
        replace cb40 := cell_later bq cb40
        replace cb41 := cell_later bq cb41
        replace cb42 := cell_later bq cb42
        replace zb4 := Nat.lt_of_lt_of_le zb4 bq.size
        replace cb70 := cell_later bq cb70
        replace cb71 := cell_later bq cb71
        replace zb7 := Nat.lt_of_lt_of_le zb7 bq.size
        replace cb90 := cell_later bq cb90
        replace cb91 := cell_later bq cb91
        replace zb9 := Nat.lt_of_lt_of_le zb9 bq.size
        replace rg3 := rg3.below bq
        replace rt4 := rt4.below bq
        replace rg5 := rg5.below bq
        replace rt6 := rt6.below bq
        replace hb := hb.trans (bq.mono hb.size)
        clear hc bq
        refine wpAnyH_ready (rs := [1]) (by as_aux_lemma => kernel_rfl) (by simp) ?_
        refine AllReadyH.cons rfl (fun K hK => ?_) AllReadyH.nil
        go_simp
        refine Calls.mono (toByteS_row ap0 n0 kp0 xs0 _ (hr0.below hb) (by omega)) ?_
        rintro e w44 ⟨vt7, rfl, rt7, hc⟩
        obtain ⟨at7, kt7, rfl, q1, q2⟩ := rt7.shape
        have Kt7 : Hid _ := And.intro q1 q2
        clear q1 q2
        replace hB := hB.below hc
        refine hK.out _ _ (hS.trans (hc.mono hS.size)) (fun hS => ?_)
        clear hK K
        (try simp only [Act.put, List.getElem_toArray, List.getElem_cons_zero, List.getElem_cons_succ, List.setIfInBounds_toArray, List.set_cons_zero, List.set_cons_succ])
        have s44 : yA.heap.size ≤ w44.heap.size := hc.size
        have bq := hc
        replace cb40 := cell_later bq cb40
        replace cb41 := cell_later bq cb41
        replace cb42 := cell_later bq cb42
        replace zb4 := Nat.lt_of_lt_of_le zb4 bq.size
        replace cb70 := cell_later bq cb70
        replace cb71 := cell_later bq cb71
        replace zb7 := Nat.lt_of_lt_of_le zb7 bq.size
        replace cb90 := cell_later bq cb90
        replace cb91 := cell_later bq cb91
        replace zb9 := Nat.lt_of_lt_of_le zb9 bq.size
        replace rg3 := rg3.below bq
        replace rt4 := rt4.below bq
        replace rg5 := rg5.below bq
        replace rt6 := rt6.below bq
        replace hb := hb.trans (bq.mono hb.size)
        clear hc bq
        refine wpAnyH_ready (rs := [3]) (by as_aux_lemma => kernel_rfl) (by simp) ?_
        refine AllReadyH.cons rfl (fun K hK => ?_) AllReadyH.nil
        go_simp
        refine Calls.mono (toLayout_any W1 S1 C1 _) ?_
        rintro e w45 ⟨rfl, hc⟩
        replace hB := hB.below hc
        refine hK.out _ _ (hS.trans (hc.mono hS.size)) (fun hS => ?_)
        clear hK K
        (try simp only [Act.put, List.getElem_toArray, List.getElem_cons_zero, List.getElem_cons_succ, List.setIfInBounds_toArray, List.set_cons_zero, List.set_cons_succ])
        have s45 : w44.heap.size ≤ w45.heap.size := hc.size
        have bq := hc
        replace cb40 := cell_later bq cb40
        replace cb41 := cell_later bq cb41
        replace cb42 := cell_later bq cb42
        replace zb4 := Nat.lt_of_lt_of_le zb4 bq.size
        replace cb70 := cell_later bq cb70
        replace cb71 := cell_later bq cb71
        replace zb7 := Nat.lt_of_lt_of_le zb7 bq.size
        replace cb90 := cell_later bq cb90
        replace cb91 := cell_later bq cb91
        replace zb9 := Nat.lt_of_lt_of_le zb9 bq.size
        replace rg3 := rg3.below bq
        replace rt4 := rt4.below bq
        replace rg5 := rg5.below bq
        replace rt6 := rt6.below bq
        replace rt7 := rt7.below bq
        replace hb := hb.trans (bq.mono hb.size)
        clear hc bq
        refine wpAnyH_ready (rs := [5]) (by as_aux_lemma => kernel_rfl) (by simp) ?_
        refine AllReadyH.cons rfl (fun K hK => ?_) AllReadyH.nil
        go_simp
        refine Calls.mono (HIC.out at7 kt7 _ rt7.read Kt7.out.1 Kt7.out.2) ?_
        rintro e w46 ⟨vg8, rfl, rg8, hc⟩
        obtain ⟨ag8, kg8, rfl⟩ := rg8.shape
        replace hB := hB.below hc
        refine hK.out _ _ (hS.trans (hc.mono hS.size)) (fun hS => ?_)
        clear hK K
        (try simp only [Act.put, List.getElem_toArray, List.getElem_cons_zero, List.getElem_cons_succ, List.setIfInBounds_toArray, List.set_cons_zero, List.set_cons_succ])
        have s46 : w45.heap.size ≤ w46.heap.size := hc.size
        have bq := hc
        replace cb40 := cell_later bq cb40
        replace cb41 := cell_later bq cb41
        replace cb42 := cell_later bq cb42
        replace zb4 := Nat.lt_of_lt_of_le zb4 bq.size
        replace cb70 := cell_later bq cb70
        replace cb71 := cell_later bq cb71
        replace zb7 := Nat.lt_of_lt_of_le zb7 bq.size
        replace cb90 := cell_later bq cb90
        replace cb91 := cell_later bq cb91
        replace zb9 := Nat.lt_of_lt_of_le zb9 bq.size
        replace rg3 := rg3.below bq
        replace rt4 := rt4.below bq
        replace rg5 := rg5.below bq
        replace rt6 := rt6.below bq
        replace rt7 := rt7.below bq
        replace hb := hb.trans (bq.mono hb.size)
        clear hc bq
        have d0 : w46.cell? ⟨D.heap.size, 0, none⟩ = some (.int .i64 0) := hB.cell 0
        have df0 := hB.frozen 0
        have d1 : w46.cell? ⟨D.heap.size, 1, none⟩ = some (.slice none 0 0) := hB.cell 1
        have df1 := hB.frozen 1
        refine wpAnyH_ready (rs := [7]) (by as_aux_lemma => kernel_rfl) (by simp) ?_
        refine AllReadyH.cons rfl (fun K hK => ?_) AllReadyH.nil
        have HBB := hid hB
        clear hB
        go_simp
        have hWs : w41.heap.size ≤ D.heap.size := by omega
        refine hK.out _ _ (((hS.setCell hWs _).setCell hWs _)) (fun hS => ?_)
        clear hK K
        (try simp only [Act.put, List.getElem_toArray, List.getElem_cons_zero, List.getElem_cons_succ, List.setIfInBounds_toArray, List.set_cons_zero, List.set_cons_succ])
        have hbl := ((HBB.out.set (i := 0) (.int .i64 p0)).set (i := 1) (.slice ag8 m kg8))
        simp only [List.setIfInBounds_toArray, List.set_cons_zero, List.set_cons_succ] at hbl
        have hdj : D.heap.size < w45.heap.size ∨ w46.heap.size ≤ D.heap.size := by omega
        have hrow := ((rg8.setB hdj 0 (.int .i64 p0)).setB hdj 1 (.slice ag8 m kg8))
        have hx0 := hbl.cell 0
        simp only [List.getElem?_toArray, List.getElem?_cons_zero, List.getElem?_cons_succ] at hx0
        have hx1 := hbl.cell 1
        simp only [List.getElem?_toArray, List.getElem?_cons_zero, List.getElem?_cons_succ] at hx1
        refine wpAnyH_done (by kernel_rfl) ?_ _
        refine ⟨rfl, D.heap.size, w45.heap.size, w46.heap.size, .slice ag8 m kg8, at7, kt7, ?_, hS, hWs, ?_, ?_, ?_, ?_, hrow, hx0, hx1⟩
        · simp only [Act.put, List.getElem_toArray, List.getElem_cons_zero, List.getElem_cons_succ, List.setIfInBounds_toArray, List.set_cons_zero, List.set_cons_succ]
        all_goals (try simp only [size_set])
        all_goals omega
    · skip
      rintro a' w71 ⟨B71, lo71, hi71, vg9, u71_0, q71_0, rfl, hc, bl71, bu71, ll71, hu71, dj71, rg9, cb130, cb131⟩
      obtain ⟨ag9, kg9, rfl⟩ := rg9.shape
      simp only [Act.put, List.getElem_toArray, List.getElem_cons_zero, List.getElem_cons_succ, List.setIfInBounds_toArray, List.set_cons_zero, List.set_cons_succ]
      have s71 : w41.heap.size ≤ w71.heap.size := hc.size
      have bq := hc
      replace cb40 := cell_later bq cb40
      replace cb41 := cell_later bq cb41
      replace cb42 := cell_later bq cb42
      replace zb4 := Nat.lt_of_lt_of_le zb4 bq.size
      replace cb70 := cell_later bq cb70
      replace cb71 := cell_later bq cb71
      replace zb7 := Nat.lt_of_lt_of_le zb7 bq.size
      replace cb90 := cell_later bq cb90
      replace cb91 := cell_later bq cb91
      replace zb9 := Nat.lt_of_lt_of_le zb9 bq.size
      replace rg3 := rg3.below bq
      replace rt4 := rt4.below bq
      replace rg5 := rg5.below bq
      replace rt6 := rt6.below bq
      replace hb := hb.trans (bq.mono hb.size)
      clear hc bq
      have zb13 := bu71
      go_wp2_with fail
      refine Calls.mono (eqCellsResult_yes p0 ag9 ag3 m kg9 kg3 rs _ (RowO.read cellE_len rg9) (RowS.read cellE_len rg3) (by first | omega | (unfold maxLen; omega))) ?_
      rintro e w72 ⟨rfl, hc⟩
      have s72 : w71.heap.size ≤ w72.heap.size := hc.size
      have bq := hc
      replace cb40 := cell_later bq cb40
      replace cb41 := cell_later bq cb41
      replace cb42 := cell_later bq cb42
      replace zb4 := Nat.lt_of_lt_of_le zb4 bq.size
      replace cb70 := cell_later bq cb70
      replace cb71 := cell_later bq cb71
      replace zb7 := Nat.lt_of_lt_of_le zb7 bq.size
      replace cb90 := cell_later bq cb90
      replace cb91 := cell_later bq cb91
      replace zb9 := Nat.lt_of_lt_of_le zb9 bq.size
      replace cb130 := cell_later bq cb130
      replace cb131 := cell_later bq cb131
      replace zb13 := Nat.lt_of_lt_of_le zb13 bq.size
      replace rg3 := rg3.below bq
      replace rt4 := rt4.below bq
      replace rg5 := rg5.below bq
      replace rt6 := rt6.below bq
      replace rg9 := rg9.below bq
      replace hb := hb.trans (bq.mono hb.size)
      clear hc bq
      go_wp2_with fail
      refine Calls.mono (heldCellsResult_yes p0 1 ag5 m kg5 _ (RowO.read cellE_len rg5) (by omega) (by omega) (by omega)) ?_
      rintro e w73 ⟨rfl, hc⟩
      have s73 : w72.heap.size ≤ w73.heap.size := hc.size
      have bq := hc
      replace cb40 := cell_later bq cb40
      replace cb41 := cell_later bq cb41
      replace cb42 := cell_later bq cb42
      replace zb4 := Nat.lt_of_lt_of_le zb4 bq.size
      replace cb70 := cell_later bq cb70
      replace cb71 := cell_later bq cb71
      replace zb7 := Nat.lt_of_lt_of_le zb7 bq.size
      replace cb90 := cell_later bq cb90
      replace cb91 := cell_later bq cb91
      replace zb9 := Nat.lt_of_lt_of_le zb9 bq.size
      replace cb130 := cell_later bq cb130
      replace cb131 := cell_later bq cb131
      replace zb13 := Nat.lt_of_lt_of_le zb13 bq.size
      replace rg3 := rg3.below bq
      replace rt4 := rt4.below bq
      replace rg5 := rg5.below bq
      replace rt6 := rt6.below bq
      replace rg9 := rg9.below bq
      replace hb := hb.trans (bq.mono hb.size)
      clear hc bq
      go_wp2
      go_ret
      exact ⟨rfl, hb⟩

theorem own : ownKnob Try.prog.godebug = none := by kernel_rfl
theorem laidOut : laidOutB Try.prog = true := by kernel_rfl

set_option maxRecDepth 100000 in
theorem lifted (os : Os) (started : os.Started) (H : Type) (enc : TypeId × Value → H) :
    ReturnsInHanded {} Try.checked os 7 .any (Rows.fnExactRowCellsSpec.pre6 enc Try.prog Try.f7 Rows.fnExactRowCellsRow.domain false) (Rows.fnExactRowCellsSpec.post enc Try.prog Try.f7 false true false false) := by
  refine returnsInHanded_of_change (C := Try.checked) own started (by kernel_rfl) Try.func7
    (ChangeSpec.witness6 (enc := enc) (C := Try.checked) false ⟨#[], #[.slice none 0 0, .agg #[.int .i64 0, .bool false, .int .i64 0], .int .i64 0], []⟩ 8 (by kernel_rfl) (by kernel_rfl) (by kernel_rfl) (by kernel_rfl)) ?_
  intro W base args ds gs before hval0 hW hcnd _
  have hval : ∀ (j : Nat) t v, Try.f7.params[j]? = some t → args[j]? = some v → Value.okWide Try.prog W .any base t v := hval0
  have hW' := hW
  obtain ⟨p, q, hA0, hV, rfl, hfz, hnd⟩ := hW
  have hA : DataW.TrodAll enc Try.prog W 0 (fun _ => true) true Try.f7.params.toList args.toList ds p := hA0
  rw [Try.params7] at hA hval
  obtain ⟨v0, v1, v2, d0, d1, d2, p0, p1, p2, rfl, rfl, rfl, h0, h1, h2⟩ := trodAll_three hA
  obtain ⟨rfl, rfl⟩ := trodVars_none hV
  have k0 := h0
  have lt0 : ∀ x ∈ p0, x.block < W.heap.size := by obtain ⟨m, hm⟩ := k0; exact DataW.trod_lt m _ _ _ hm
  obtain ⟨a0, len0, cap0, rfl⟩ := okWide_slice Try.underlying22 (hval 0 22 v0 rfl rfl)
  obtain ⟨x0, hr0, hB0, hm0⟩ := open_bytes Try.underlying22 Try.underlying5 (by kernel_rfl) h0
  have k1 := h1
  have lt1 : ∀ x ∈ p1, x.block < W.heap.size := by obtain ⟨m, hm⟩ := k1; exact DataW.trod_lt m _ _ _ hm
  obtain ⟨W1, C1, S1, rfl, hIW1, hIS1⟩ := open_layout (hval 1 50 v1 rfl rfl) h1
  obtain ⟨I2, rfl, rfl, rfl, wI2⟩ := open_int Try.underlying2 (hval 2 2 v2 rfl rfl) h2
  clear hA0 hval0
  refine (walk a0 len0 cap0 x0 W1 C1 S1 I2 W hr0 hB0 hm0).mono fun e W' ⟨he, bel⟩ => ?_
  subst he
  exact ⟨_, rfl, _, _, _, [], _, [], hW', trodAll_mk1 (shut_bool Try.underlying4 _), trodAll_mk3 (Below.trod laidOut (by kernel_rfl) (of_decide_eq_true (by kernel_rfl)) k0 bel lt0) (Below.trod laidOut (by kernel_rfl) (of_decide_eq_true (by kernel_rfl)) k1 bel lt1) (shut_int Try.underlying2 wI2), rfl, bel.frame _, fun h => by cases h⟩

theorem proved : Rows.FnExactRowCellsSaid :=
  OpenClaim.holds_of_wide 7 Try.f7 rfl rfl rfl rfl rfl rfl rfl ⟨rfl, rfl, rfl, rfl, rfl⟩ rfl rfl rfl rfl rfl (by kernel_rfl) Try.func7 (by kernel_rfl)
    (of_decide_eq_true (by kernel_rfl)) (by unfold Func.isWrapper; first | (rw [if_pos (by decide +kernel)]; kernel_rfl) | (rw [if_neg (by decide +kernel)]; exact ⟨rfl, rfl⟩))
    (fun os started H enc _ => lifted os started H enc)
end Go.Proofs.Ythkgplpdoaebiaa.fnExactRowCells
namespace Go.Proofs.Ythkgplpdoaebiaa
theorem fnExactRowCells_proved : Rows.FnExactRowCellsSaid := fnExactRowCells.proved
end Go.Proofs.Ythkgplpdoaebiaa
