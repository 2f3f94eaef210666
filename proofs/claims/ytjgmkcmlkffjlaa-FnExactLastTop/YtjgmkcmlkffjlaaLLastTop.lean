/-
  For every file, layout and number, FnExactLastTop returns true: the program's LastTop answers as the model and writes into no argument; no condition.
-/
import Derived.Test.YtjgmkcmlkffjlaaRow9
import Derived.Test.YtjgmkcmlkffjlaaArgsL
import Derived.Test.YtjgmkcmlkffjlaaHlpO
import Derived.Test.YtjgmkcmlkffjlaaHlpF
import Derived.Test.YtjgmkcmlkffjlaaJoin
import Derived.ProofKit
import Derived.OpenShut
import Derived.ChangeOld
import Derived.Below
import Derived.Carry
import Derived.Deep.RegionWith
import Derived.Deep.RegionHeld3
namespace Go.Proofs.Ytjgmkcmlkffjlaa.fnExactLastTop
open Go.ChangeShapes Go.WideShapes Go.ChangeAt Go.RowKit
set_option linter.unusedVariables false
set_option linter.unusedSimpArgs false

set_option maxRecDepth 10000 in
set_option maxHeartbeats 6400000 in
theorem walk (ap0 : Option Addr) (n0 kp0 : Nat) (xs0 : List Int) (W1 : Int) (C1 : Bool) (S1 : Int) (I2 : Int) (w : World) (hr0 : Rd .u8 w ap0 n0 xs0) (hB0 : Bytes xs0) (hm0 : n0 ≤ maxLen) :
    Calls Try.prog 6 #[.agg #[.slice ap0 n0 kp0], .agg #[.int .i64 W1, .bool C1, .int .i64 S1], .int .i64 I2] w fun e w' => e = .returned (.bool true) ∧ Below w.heap.size w w' := by
  unfold maxLen at hm0
  by_cases hn0 : (n0 : Int) ≤ 1048576
  case neg =>
    go_enter Try.func6, Try.ntmps6
    have hb : Below w.heap.size w w := Below.refl _ _
    go_wp2_with fail
    have bp : ∀ o0 o1, Below w.heap.size w ((w.alloc o0).alloc o1) := fun o0 o1 => ((Below.refl _ _).alloc (Nat.le_refl _) o0).alloc (by simp) o1
    have hbt : ∀ o0 o1, Below w.heap.size w ((w.alloc o0).alloc o1) := fun o0 o1 => hb.trans ((bp o0 o1).mono hb.size)
    refine Calls.mono (szFile_no ap0 n0 kp0 1048576 _ (by omega) (by unfold maxLen; omega) (by omega) (by omega)) ?_
    rintro e w1 ⟨rfl, hc⟩
    have s1 : w.heap.size + 2 ≤ w1.heap.size := by have := hc.size; simp at this; omega
    have bq : Below w.heap.size w w1 := (bp _ _).trans (hc.mono (bp _ _).size)
    have cb30 : w1.cell? ⟨w.heap.size, 0, none⟩ = some (.slice ap0 n0 kp0) := cell_later hc (by simp [go_sem])
    have zb3 : w.heap.size < w1.heap.size := by omega
    have cb40 : w1.cell? ⟨w.heap.size + 1, 0, none⟩ = some (.int .i64 W1) := cell_later hc (by simp [go_sem])
    have cb41 : w1.cell? ⟨w.heap.size + 1, 1, none⟩ = some (.bool C1) := cell_later hc (by simp [go_sem])
    have cb42 : w1.cell? ⟨w.heap.size + 1, 2, none⟩ = some (.int .i64 S1) := cell_later hc (by simp [go_sem])
    have zb4 : w.heap.size + 1 < w1.heap.size := by omega
    replace hb := hb.trans (bq.mono hb.size)
    clear hc bq bp hbt
    go_wp2
    go_ret
    exact ⟨rfl, hb⟩
  have SC := fun (A0 : Option Addr) (C0 : Nat) (W' : World) (H0 : Rd .u8 W' A0 n0 xs0) (J0 : n0 ≤ C0) (M0 : C0 ≤ maxLen) => specLastTop_any A0 n0 C0 xs0 W1 S1 I2 C1 W' H0 hB0 (by omega) J0 M0
  have IC := fun (A0 : Option Addr) (C0 : Nat) (W' : World) (H0 : Rd .u8 W' A0 n0 xs0) (J0 : n0 ≤ C0) (M0 : C0 ≤ maxLen) => implLastTop_any A0 n0 C0 xs0 W1 S1 I2 C1 W' H0 hB0 (by omega) J0 M0
  generalize ltC xs0 W1 C1 S1 I2 = p0 at *
  generalize (ltS xs0 W1 C1 S1 I2).1 = p1 at *
  generalize (ltS xs0 W1 C1 S1 I2).2 = p2 at *
  have HSC : Hid _ := SC
  have HIC : Hid _ := IC
  clear SC IC
  go_enter Try.func6, Try.ntmps6
  have hb : Below w.heap.size w w := Below.refl _ _
  go_wp2_with fail
  have bp : ∀ o0 o1, Below w.heap.size w ((w.alloc o0).alloc o1) := fun o0 o1 => ((Below.refl _ _).alloc (Nat.le_refl _) o0).alloc (by simp) o1
  have hbt : ∀ o0 o1, Below w.heap.size w ((w.alloc o0).alloc o1) := fun o0 o1 => hb.trans ((bp o0 o1).mono hb.size)
  refine Calls.mono (szFile_yes ap0 n0 kp0 1048576 _ (by omega) (by omega)) ?_
  rintro e w1 ⟨rfl, hc⟩
  have s1 : w.heap.size + 2 ≤ w1.heap.size := by have := hc.size; simp at this; omega
  have bq : Below w.heap.size w w1 := (bp _ _).trans (hc.mono (bp _ _).size)
  have cb30 : w1.cell? ⟨w.heap.size, 0, none⟩ = some (.slice ap0 n0 kp0) := cell_later hc (by simp [go_sem])
  have zb3 : w.heap.size < w1.heap.size := by omega
  have cb40 : w1.cell? ⟨w.heap.size + 1, 0, none⟩ = some (.int .i64 W1) := cell_later hc (by simp [go_sem])
  have cb41 : w1.cell? ⟨w.heap.size + 1, 1, none⟩ = some (.bool C1) := cell_later hc (by simp [go_sem])
  have cb42 : w1.cell? ⟨w.heap.size + 1, 2, none⟩ = some (.int .i64 S1) := cell_later hc (by simp [go_sem])
  have zb4 : w.heap.size + 1 < w1.heap.size := by omega
  replace hb := hb.trans (bq.mono hb.size)
  clear hc bq bp hbt
  have hleft1 : ¬ (1048576 - (n0 : Int)) < 0 := by omega
  go_wp2_with fail
  refine region_join (fun a a' w' => ∃ (B : Nat) (u0 : Option Addr) (q0 : Nat), a' = (((((((a.put (some 16) (.agg #[.slice ap0 n0 kp0])).put (some 17) (.agg #[(.slice u0 n0 q0)])).put (some 18) (.agg #[.int .i64 W1, .bool C1, .int .i64 S1])).put (some 19) (.agg #[.int .i64 W1, .bool C1, .int .i64 S1])).put (some 20) (.int .i64 I2)).put (some 21) (.agg #[.int .i64 p0, .int .i64 p1, .int .i64 p2])).put (some 8) (.pointer (some ⟨B, 0, none⟩))) ∧ Below w1.heap.size w1 w' ∧ w1.heap.size ≤ B ∧ B < w'.heap.size ∧ w'.cell? ⟨B, 0, none⟩ = some (.int .i64 p0) ∧ w'.cell? ⟨B, 1, none⟩ = some (.int .i64 p1) ∧ w'.cell? ⟨B, 2, none⟩ = some (.int .i64 p2)) ?_ ?_
  · skip
    have ob30 := cb30
    have ob40 := cb40
    have ob41 := cb41
    have ob42 := cb42
    have bd : Below w1.heap.size w1 w1.drew := (Below.refl _ _).drew
    refine wp_region_held_drew (S := fun w' => Below w1.heap.size w1 w') (by kernel_rfl) bd (fun hS => ?_)
    obtain ⟨D, hD⟩ : ∃ D, w1.drew = D := ⟨_, rfl⟩
    rw [hD] at hS bd ⊢
    have hc := bd
    clear hD bd
    have s2 : w1.heap.size ≤ D.heap.size := hc.size
    have bq := hc
    replace cb30 := cell_later bq cb30
    replace zb3 := Nat.lt_of_lt_of_le zb3 bq.size
    replace cb40 := cell_later bq cb40
    replace cb41 := cell_later bq cb41
    replace cb42 := cell_later bq cb42
    replace zb4 := Nat.lt_of_lt_of_le zb4 bq.size
    replace hb := hb.trans (bq.mono hb.size)
    clear hc bq
    refine wpAnyH_take (i := 0) (v := (.agg #[.slice ap0 n0 kp0])) rfl (by as_aux_lemma => kernel_rfl) (by as_aux_lemma => kernel_rfl) (by as_aux_lemma => kernel_rfl) (fun _ _ _ h => nomatch h.1) (Or.inl ⟨by kernel_rfl, ?_⟩) hS ?_
    · intro w hSw; (try dsimp only at hSw); have hl0 := cell_later hSw ob30; go_simp
    (try simp only [Act.put, List.getElem_toArray, List.getElem_cons_zero, List.getElem_cons_succ, List.setIfInBounds_toArray, List.set_cons_zero, List.set_cons_succ])
    refine wpAnyH_take (i := 2) (v := (.agg #[.int .i64 W1, .bool C1, .int .i64 S1])) rfl (by as_aux_lemma => kernel_rfl) (by as_aux_lemma => kernel_rfl) (by as_aux_lemma => kernel_rfl) (fun _ _ _ h => nomatch h.1) (Or.inl ⟨by kernel_rfl, ?_⟩) hS ?_
    · intro w hSw; (try dsimp only at hSw); have hl0 := cell_later hSw ob40; have hl1 := cell_later hSw ob41; have hl2 := cell_later hSw ob42; go_simp
    (try simp only [Act.put, List.getElem_toArray, List.getElem_cons_zero, List.getElem_cons_succ, List.setIfInBounds_toArray, List.set_cons_zero, List.set_cons_succ])
    refine wpAnyH_take (i := 4) (v := (.int .i64 I2)) rfl (by as_aux_lemma => kernel_rfl) (by as_aux_lemma => kernel_rfl) (by as_aux_lemma => kernel_rfl) (fun _ _ _ h => nomatch h.1) (Or.inl ⟨by kernel_rfl, ?_⟩) hS ?_
    · intro w hSw; (try dsimp only at hSw); go_simp
    (try simp only [Act.put, List.getElem_toArray, List.getElem_cons_zero, List.getElem_cons_succ, List.setIfInBounds_toArray, List.set_cons_zero, List.set_cons_succ])
    refine wpAnyH_ready (rs := [1, 6]) (by as_aux_lemma => kernel_rfl) (by simp) ?_
    refine AllReadyH.cons rfl (fun K hK => ?_) (AllReadyH.cons rfl (fun K hK => ?_) AllReadyH.nil)
    · skip
      go_simp
      refine Calls.mono (toFile_any ap0 n0 kp0 xs0 _ (hr0.below hb) (by omega)) ?_
      rintro e w3 ⟨vt1, rfl, rt1, hc⟩
      obtain ⟨at1, kt1, rfl, q1, q2⟩ := rt1.shape
      have Kt1 : Hid _ := And.intro q1 q2
      clear q1 q2
      refine hK.out _ _ (hS.trans (hc.mono hS.size)) (fun hS => ?_)
      clear hK K
      (try simp only [Act.put, List.getElem_toArray, List.getElem_cons_zero, List.getElem_cons_succ, List.setIfInBounds_toArray, List.set_cons_zero, List.set_cons_succ])
      have s3 : D.heap.size ≤ w3.heap.size := hc.size
      have bq := hc
      replace cb30 := cell_later bq cb30
      replace zb3 := Nat.lt_of_lt_of_le zb3 bq.size
      replace cb40 := cell_later bq cb40
      replace cb41 := cell_later bq cb41
      replace cb42 := cell_later bq cb42
      replace zb4 := Nat.lt_of_lt_of_le zb4 bq.size
      replace hb := hb.trans (bq.mono hb.size)
      clear hc bq
      refine wpAnyH_ready (rs := [3, 6]) (by as_aux_lemma => kernel_rfl) (by simp) ?_
      refine AllReadyH.cons rfl (fun K hK => ?_) (AllReadyH.cons rfl (fun K hK => ?_) AllReadyH.nil)
      · skip
        go_simp
        refine Calls.mono (toLayout_any W1 S1 C1 _) ?_
        rintro e w4 ⟨rfl, hc⟩
        refine hK.out _ _ (hS.trans (hc.mono hS.size)) (fun hS => ?_)
        clear hK K
        (try simp only [Act.put, List.getElem_toArray, List.getElem_cons_zero, List.getElem_cons_succ, List.setIfInBounds_toArray, List.set_cons_zero, List.set_cons_succ])
        have s4 : w3.heap.size ≤ w4.heap.size := hc.size
        have bq := hc
        replace cb30 := cell_later bq cb30
        replace zb3 := Nat.lt_of_lt_of_le zb3 bq.size
        replace cb40 := cell_later bq cb40
        replace cb41 := cell_later bq cb41
        replace cb42 := cell_later bq cb42
        replace zb4 := Nat.lt_of_lt_of_le zb4 bq.size
        replace rt1 := rt1.below bq
        replace hb := hb.trans (bq.mono hb.size)
        clear hc bq
        refine wpAnyH_ready (rs := [5, 6]) (by as_aux_lemma => kernel_rfl) (by simp) ?_
        refine AllReadyH.cons rfl (fun K hK => ?_) (AllReadyH.cons rfl (fun K hK => ?_) AllReadyH.nil)
        · skip
          go_simp
          refine Calls.mono (HSC.out at1 kt1 _ rt1.read Kt1.out.1 Kt1.out.2) ?_
          rintro e w5 ⟨rfl, hc⟩
          refine hK.out _ _ (hS.trans (hc.mono hS.size)) (fun hS => ?_)
          clear hK K
          (try simp only [Act.put, List.getElem_toArray, List.getElem_cons_zero, List.getElem_cons_succ, List.setIfInBounds_toArray, List.set_cons_zero, List.set_cons_succ])
          have s5 : w4.heap.size ≤ w5.heap.size := hc.size
          have bq := hc
          replace cb30 := cell_later bq cb30
          replace zb3 := Nat.lt_of_lt_of_le zb3 bq.size
          replace cb40 := cell_later bq cb40
          replace cb41 := cell_later bq cb41
          replace cb42 := cell_later bq cb42
          replace zb4 := Nat.lt_of_lt_of_le zb4 bq.size
          replace rt1 := rt1.below bq
          replace hb := hb.trans (bq.mono hb.size)
          clear hc bq
          refine wpAnyH_ready (rs := [6]) (by as_aux_lemma => kernel_rfl) (by simp) ?_
          refine AllReadyH.cons rfl (fun K hK => ?_) AllReadyH.nil
          go_simp
          refine hK.out _ _ (hS.alloc hS.size _) (fun hS => ?_)
          clear hK K
          (try simp only [Act.put, List.getElem_toArray, List.getElem_cons_zero, List.getElem_cons_succ, List.setIfInBounds_toArray, List.set_cons_zero, List.set_cons_succ])
          have hB := Blk.new w5 #[.int .i64 0, .int .i64 0, .int .i64 0] 33
          have hc : Below w5.heap.size w5 (w5.alloc (.cells #[.int .i64 0, .int .i64 0, .int .i64 0] 33)) := (Below.refl _ _).alloc (Nat.le_refl _) _
          have ltA := hB.lt
          generalize w5.alloc (.cells #[.int .i64 0, .int .i64 0, .int .i64 0] 33) = yA at *
          have s6 : w5.heap.size ≤ yA.heap.size := hc.size
          have bq := hc
          replace cb30 := cell_later bq cb30
          replace zb3 := Nat.lt_of_lt_of_le zb3 bq.size
          replace cb40 := cell_later bq cb40
          replace cb41 := cell_later bq cb41
          replace cb42 := cell_later bq cb42
          replace zb4 := Nat.lt_of_lt_of_le zb4 bq.size
          replace rt1 := rt1.below bq
          replace hb := hb.trans (bq.mono hb.size)
          clear hc bq
          have d0 : yA.cell? ⟨w5.heap.size, 0, none⟩ = some (.int .i64 0) := hB.cell 0
          have df0 := hB.frozen 0
          have d1 : yA.cell? ⟨w5.heap.size, 1, none⟩ = some (.int .i64 0) := hB.cell 1
          have df1 := hB.frozen 1
          have d2 : yA.cell? ⟨w5.heap.size, 2, none⟩ = some (.int .i64 0) := hB.cell 2
          have df2 := hB.frozen 2
          refine wpAnyH_ready (rs := [7]) (by as_aux_lemma => kernel_rfl) (by simp) ?_
          refine AllReadyH.cons rfl (fun K hK => ?_) AllReadyH.nil
          have HBB := hid hB
          clear hB
          go_simp
          have hWs : w1.heap.size ≤ w5.heap.size := by omega
          refine hK.out _ _ ((((hS.setCell hWs _).setCell hWs _).setCell hWs _)) (fun hS => ?_)
          clear hK K
          (try simp only [Act.put, List.getElem_toArray, List.getElem_cons_zero, List.getElem_cons_succ, List.setIfInBounds_toArray, List.set_cons_zero, List.set_cons_succ])
          have hbl := (((HBB.out.set (i := 0) (.int .i64 p0)).set (i := 1) (.int .i64 p1)).set (i := 2) (.int .i64 p2))
          simp only [List.setIfInBounds_toArray, List.set_cons_zero, List.set_cons_succ] at hbl
          have hx0 := hbl.cell 0
          simp only [List.getElem?_toArray, List.getElem?_cons_zero, List.getElem?_cons_succ] at hx0
          have hx1 := hbl.cell 1
          simp only [List.getElem?_toArray, List.getElem?_cons_zero, List.getElem?_cons_succ] at hx1
          have hx2 := hbl.cell 2
          simp only [List.getElem?_toArray, List.getElem?_cons_zero, List.getElem?_cons_succ] at hx2
          refine wpAnyH_done (by kernel_rfl) ?_ _
          refine ⟨rfl, w5.heap.size, at1, kt1, ?_, hS, hWs, ?_, hx0, hx1, hx2⟩
          · simp only [Act.put, List.getElem_toArray, List.getElem_cons_zero, List.getElem_cons_succ, List.setIfInBounds_toArray, List.set_cons_zero, List.set_cons_succ]
          all_goals (try simp only [size_set])
          all_goals omega
        · skip
          go_simp
          refine hK.out _ _ (hS.alloc hS.size _) (fun hS => ?_)
          clear hK K
          (try simp only [Act.put, List.getElem_toArray, List.getElem_cons_zero, List.getElem_cons_succ, List.setIfInBounds_toArray, List.set_cons_zero, List.set_cons_succ])
          have hB := Blk.new w4 #[.int .i64 0, .int .i64 0, .int .i64 0] 33
          have hc : Below w4.heap.size w4 (w4.alloc (.cells #[.int .i64 0, .int .i64 0, .int .i64 0] 33)) := (Below.refl _ _).alloc (Nat.le_refl _) _
          have ltA := hB.lt
          generalize w4.alloc (.cells #[.int .i64 0, .int .i64 0, .int .i64 0] 33) = yA at *
          have s5 : w4.heap.size ≤ yA.heap.size := hc.size
          have bq := hc
          replace cb30 := cell_later bq cb30
          replace zb3 := Nat.lt_of_lt_of_le zb3 bq.size
          replace cb40 := cell_later bq cb40
          replace cb41 := cell_later bq cb41
          replace cb42 := cell_later bq cb42
          replace zb4 := Nat.lt_of_lt_of_le zb4 bq.size
          replace rt1 := rt1.below bq
          replace hb := hb.trans (bq.mono hb.size)
          clear hc bq
          refine wpAnyH_ready (rs := [5]) (by as_aux_lemma => kernel_rfl) (by simp) ?_
          refine AllReadyH.cons rfl (fun K hK => ?_) AllReadyH.nil
          go_simp
          refine Calls.mono (HSC.out at1 kt1 _ rt1.read Kt1.out.1 Kt1.out.2) ?_
          rintro e w6 ⟨rfl, hc⟩
          replace hB := hB.below hc
          refine hK.out _ _ (hS.trans (hc.mono hS.size)) (fun hS => ?_)
          clear hK K
          (try simp only [Act.put, List.getElem_toArray, List.getElem_cons_zero, List.getElem_cons_succ, List.setIfInBounds_toArray, List.set_cons_zero, List.set_cons_succ])
          have s6 : yA.heap.size ≤ w6.heap.size := hc.size
          have bq := hc
          replace cb30 := cell_later bq cb30
          replace zb3 := Nat.lt_of_lt_of_le zb3 bq.size
          replace cb40 := cell_later bq cb40
          replace cb41 := cell_later bq cb41
          replace cb42 := cell_later bq cb42
          replace zb4 := Nat.lt_of_lt_of_le zb4 bq.size
          replace rt1 := rt1.below bq
          replace hb := hb.trans (bq.mono hb.size)
          clear hc bq
          have d0 : w6.cell? ⟨w4.heap.size, 0, none⟩ = some (.int .i64 0) := hB.cell 0
          have df0 := hB.frozen 0
          have d1 : w6.cell? ⟨w4.heap.size, 1, none⟩ = some (.int .i64 0) := hB.cell 1
          have df1 := hB.frozen 1
          have d2 : w6.cell? ⟨w4.heap.size, 2, none⟩ = some (.int .i64 0) := hB.cell 2
          have df2 := hB.frozen 2
          refine wpAnyH_ready (rs := [7]) (by as_aux_lemma => kernel_rfl) (by simp) ?_
          refine AllReadyH.cons rfl (fun K hK => ?_) AllReadyH.nil
          have HBB := hid hB
          clear hB
          go_simp
          have hWs : w1.heap.size ≤ w4.heap.size := by omega
          refine hK.out _ _ ((((hS.setCell hWs _).setCell hWs _).setCell hWs _)) (fun hS => ?_)
          clear hK K
          (try simp only [Act.put, List.getElem_toArray, List.getElem_cons_zero, List.getElem_cons_succ, List.setIfInBounds_toArray, List.set_cons_zero, List.set_cons_succ])
          have hbl := (((HBB.out.set (i := 0) (.int .i64 p0)).set (i := 1) (.int .i64 p1)).set (i := 2) (.int .i64 p2))
          simp only [List.setIfInBounds_toArray, List.set_cons_zero, List.set_cons_succ] at hbl
          have hx0 := hbl.cell 0
          simp only [List.getElem?_toArray, List.getElem?_cons_zero, List.getElem?_cons_succ] at hx0
          have hx1 := hbl.cell 1
          simp only [List.getElem?_toArray, List.getElem?_cons_zero, List.getElem?_cons_succ] at hx1
          have hx2 := hbl.cell 2
          simp only [List.getElem?_toArray, List.getElem?_cons_zero, List.getElem?_cons_succ] at hx2
          refine wpAnyH_done (by kernel_rfl) ?_ _
          refine ⟨rfl, w4.heap.size, at1, kt1, ?_, hS, hWs, ?_, hx0, hx1, hx2⟩
          · simp only [Act.put, List.getElem_toArray, List.getElem_cons_zero, List.getElem_cons_succ, List.setIfInBounds_toArray, List.set_cons_zero, List.set_cons_succ]
          all_goals (try simp only [size_set])
          all_goals omega
      · skip
        go_simp
        refine hK.out _ _ (hS.alloc hS.size _) (fun hS => ?_)
        clear hK K
        (try simp only [Act.put, List.getElem_toArray, List.getElem_cons_zero, List.getElem_cons_succ, List.setIfInBounds_toArray, List.set_cons_zero, List.set_cons_succ])
        have hB := Blk.new w3 #[.int .i64 0, .int .i64 0, .int .i64 0] 33
        have hc : Below w3.heap.size w3 (w3.alloc (.cells #[.int .i64 0, .int .i64 0, .int .i64 0] 33)) := (Below.refl _ _).alloc (Nat.le_refl _) _
        have ltA := hB.lt
        generalize w3.alloc (.cells #[.int .i64 0, .int .i64 0, .int .i64 0] 33) = yA at *
        have s4 : w3.heap.size ≤ yA.heap.size := hc.size
        have bq := hc
        replace cb30 := cell_later bq cb30
        replace zb3 := Nat.lt_of_lt_of_le zb3 bq.size
        replace cb40 := cell_later bq cb40
        replace cb41 := cell_later bq cb41
        replace cb42 := cell_later bq cb42
        replace zb4 := Nat.lt_of_lt_of_le zb4 bq.size
        replace rt1 := rt1.below bq
        replace hb := hb.trans (bq.mono hb.size)
        clear hc bq
        refine wpAnyH_ready (rs := [3]) (by as_aux_lemma => kernel_rfl) (by simp) ?_
        refine AllReadyH.cons rfl (fun K hK => ?_) AllReadyH.nil
        go_simp
        refine Calls.mono (toLayout_any W1 S1 C1 _) ?_
        rintro e w5 ⟨rfl, hc⟩
        replace hB := hB.below hc
        refine hK.out _ _ (hS.trans (hc.mono hS.size)) (fun hS => ?_)
        clear hK K
        (try simp only [Act.put, List.getElem_toArray, List.getElem_cons_zero, List.getElem_cons_succ, List.setIfInBounds_toArray, List.set_cons_zero, List.set_cons_succ])
        have s5 : yA.heap.size ≤ w5.heap.size := hc.size
        have bq := hc
        replace cb30 := cell_later bq cb30
        replace zb3 := Nat.lt_of_lt_of_le zb3 bq.size
        replace cb40 := cell_later bq cb40
        replace cb41 := cell_later bq cb41
        replace cb42 := cell_later bq cb42
        replace zb4 := Nat.lt_of_lt_of_le zb4 bq.size
        replace rt1 := rt1.below bq
        replace hb := hb.trans (bq.mono hb.size)
        clear hc bq
        refine wpAnyH_ready (rs := [5]) (by as_aux_lemma => kernel_rfl) (by simp) ?_
        refine AllReadyH.cons rfl (fun K hK => ?_) AllReadyH.nil
        go_simp
        refine Calls.mono (HSC.out at1 kt1 _ rt1.read Kt1.out.1 Kt1.out.2) ?_
        rintro e w6 ⟨rfl, hc⟩
        replace hB := hB.below hc
        refine hK.out _ _ (hS.trans (hc.mono hS.size)) (fun hS => ?_)
        clear hK K
        (try simp only [Act.put, List.getElem_toArray, List.getElem_cons_zero, List.getElem_cons_succ, List.setIfInBounds_toArray, List.set_cons_zero, List.set_cons_succ])
        have s6 : w5.heap.size ≤ w6.heap.size := hc.size
        have bq := hc
        replace cb30 := cell_later bq cb30
        replace zb3 := Nat.lt_of_lt_of_le zb3 bq.size
        replace cb40 := cell_later bq cb40
        replace cb41 := cell_later bq cb41
        replace cb42 := cell_later bq cb42
        replace zb4 := Nat.lt_of_lt_of_le zb4 bq.size
        replace rt1 := rt1.below bq
        replace hb := hb.trans (bq.mono hb.size)
        clear hc bq
        have d0 : w6.cell? ⟨w3.heap.size, 0, none⟩ = some (.int .i64 0) := hB.cell 0
        have df0 := hB.frozen 0
        have d1 : w6.cell? ⟨w3.heap.size, 1, none⟩ = some (.int .i64 0) := hB.cell 1
        have df1 := hB.frozen 1
        have d2 : w6.cell? ⟨w3.heap.size, 2, none⟩ = some (.int .i64 0) := hB.cell 2
        have df2 := hB.frozen 2
        refine wpAnyH_ready (rs := [7]) (by as_aux_lemma => kernel_rfl) (by simp) ?_
        refine AllReadyH.cons rfl (fun K hK => ?_) AllReadyH.nil
        have HBB := hid hB
        clear hB
        go_simp
        have hWs : w1.heap.size ≤ w3.heap.size := by omega
        refine hK.out _ _ ((((hS.setCell hWs _).setCell hWs _).setCell hWs _)) (fun hS => ?_)
        clear hK K
        (try simp only [Act.put, List.getElem_toArray, List.getElem_cons_zero, List.getElem_cons_succ, List.setIfInBounds_toArray, List.set_cons_zero, List.set_cons_succ])
        have hbl := (((HBB.out.set (i := 0) (.int .i64 p0)).set (i := 1) (.int .i64 p1)).set (i := 2) (.int .i64 p2))
        simp only [List.setIfInBounds_toArray, List.set_cons_zero, List.set_cons_succ] at hbl
        have hx0 := hbl.cell 0
        simp only [List.getElem?_toArray, List.getElem?_cons_zero, List.getElem?_cons_succ] at hx0
        have hx1 := hbl.cell 1
        simp only [List.getElem?_toArray, List.getElem?_cons_zero, List.getElem?_cons_succ] at hx1
        have hx2 := hbl.cell 2
        simp only [List.getElem?_toArray, List.getElem?_cons_zero, List.getElem?_cons_succ] at hx2
        refine wpAnyH_done (by kernel_rfl) ?_ _
        refine ⟨rfl, w3.heap.size, at1, kt1, ?_, hS, hWs, ?_, hx0, hx1, hx2⟩
        · simp only [Act.put, List.getElem_toArray, List.getElem_cons_zero, List.getElem_cons_succ, List.setIfInBounds_toArray, List.set_cons_zero, List.set_cons_succ]
        all_goals (try simp only [size_set])
        all_goals omega
    · skip
      go_simp
      refine hK.out _ _ (hS.alloc hS.size _) (fun hS => ?_)
      clear hK K
      (try simp only [Act.put, List.getElem_toArray, List.getElem_cons_zero, List.getElem_cons_succ, List.setIfInBounds_toArray, List.set_cons_zero, List.set_cons_succ])
      have hB := Blk.new D #[.int .i64 0, .int .i64 0, .int .i64 0] 33
      have hc : Below D.heap.size D (D.alloc (.cells #[.int .i64 0, .int .i64 0, .int .i64 0] 33)) := (Below.refl _ _).alloc (Nat.le_refl _) _
      have ltA := hB.lt
      generalize D.alloc (.cells #[.int .i64 0, .int .i64 0, .int .i64 0] 33) = yA at *
      have s3 : D.heap.size ≤ yA.heap.size := hc.size
      have bq := hc
      replace cb30 := cell_later bq cb30
      replace zb3 := Nat.lt_of_lt_of_le zb3 bq.size
      replace cb40 := cell_later bq cb40
      replace cb41 := cell_later bq cb41
      replace cb42 := cell_later bq cb42
      replace zb4 := Nat.lt_of_lt_of_le zb4 bq.size
      replace hb := hb.trans (bq.mono hb.size)
      clear hc bq
      refine wpAnyH_ready (rs := [1]) (by as_aux_lemma => kernel_rfl) (by simp) ?_
      refine AllReadyH.cons rfl (fun K hK => ?_) AllReadyH.nil
      go_simp
      refine Calls.mono (toFile_any ap0 n0 kp0 xs0 _ (hr0.below hb) (by omega)) ?_
      rintro e w4 ⟨vt1, rfl, rt1, hc⟩
      obtain ⟨at1, kt1, rfl, q1, q2⟩ := rt1.shape
      have Kt1 : Hid _ := And.intro q1 q2
      clear q1 q2
      replace hB := hB.below hc
      refine hK.out _ _ (hS.trans (hc.mono hS.size)) (fun hS => ?_)
      clear hK K
      (try simp only [Act.put, List.getElem_toArray, List.getElem_cons_zero, List.getElem_cons_succ, List.setIfInBounds_toArray, List.set_cons_zero, List.set_cons_succ])
      have s4 : yA.heap.size ≤ w4.heap.size := hc.size
      have bq := hc
      replace cb30 := cell_later bq cb30
      replace zb3 := Nat.lt_of_lt_of_le zb3 bq.size
      replace cb40 := cell_later bq cb40
      replace cb41 := cell_later bq cb41
      replace cb42 := cell_later bq cb42
      replace zb4 := Nat.lt_of_lt_of_le zb4 bq.size
      replace hb := hb.trans (bq.mono hb.size)
      clear hc bq
      refine wpAnyH_ready (rs := [3]) (by as_aux_lemma => kernel_rfl) (by simp) ?_
      refine AllReadyH.cons rfl (fun K hK => ?_) AllReadyH.nil
      go_simp
      refine Calls.mono (toLayout_any W1 S1 C1 _) ?_
      rintro e w5 ⟨rfl, hc⟩
      replace hB := hB.below hc
      refine hK.out _ _ (hS.trans (hc.mono hS.size)) (fun hS => ?_)
      clear hK K
      (try simp only [Act.put, List.getElem_toArray, List.getElem_cons_zero, List.getElem_cons_succ, List.setIfInBounds_toArray, List.set_cons_zero, List.set_cons_succ])
      have s5 : w4.heap.size ≤ w5.heap.size := hc.size
      have bq := hc
      replace cb30 := cell_later bq cb30
      replace zb3 := Nat.lt_of_lt_of_le zb3 bq.size
      replace cb40 := cell_later bq cb40
      replace cb41 := cell_later bq cb41
      replace cb42 := cell_later bq cb42
      replace zb4 := Nat.lt_of_lt_of_le zb4 bq.size
      replace rt1 := rt1.below bq
      replace hb := hb.trans (bq.mono hb.size)
      clear hc bq
      refine wpAnyH_ready (rs := [5]) (by as_aux_lemma => kernel_rfl) (by simp) ?_
      refine AllReadyH.cons rfl (fun K hK => ?_) AllReadyH.nil
      go_simp
      refine Calls.mono (HSC.out at1 kt1 _ rt1.read Kt1.out.1 Kt1.out.2) ?_
      rintro e w6 ⟨rfl, hc⟩
      replace hB := hB.below hc
      refine hK.out _ _ (hS.trans (hc.mono hS.size)) (fun hS => ?_)
      clear hK K
      (try simp only [Act.put, List.getElem_toArray, List.getElem_cons_zero, List.getElem_cons_succ, List.setIfInBounds_toArray, List.set_cons_zero, List.set_cons_succ])
      have s6 : w5.heap.size ≤ w6.heap.size := hc.size
      have bq := hc
      replace cb30 := cell_later bq cb30
      replace zb3 := Nat.lt_of_lt_of_le zb3 bq.size
      replace cb40 := cell_later bq cb40
      replace cb41 := cell_later bq cb41
      replace cb42 := cell_later bq cb42
      replace zb4 := Nat.lt_of_lt_of_le zb4 bq.size
      replace rt1 := rt1.below bq
      replace hb := hb.trans (bq.mono hb.size)
      clear hc bq
      have d0 : w6.cell? ⟨D.heap.size, 0, none⟩ = some (.int .i64 0) := hB.cell 0
      have df0 := hB.frozen 0
      have d1 : w6.cell? ⟨D.heap.size, 1, none⟩ = some (.int .i64 0) := hB.cell 1
      have df1 := hB.frozen 1
      have d2 : w6.cell? ⟨D.heap.size, 2, none⟩ = some (.int .i64 0) := hB.cell 2
      have df2 := hB.frozen 2
      refine wpAnyH_ready (rs := [7]) (by as_aux_lemma => kernel_rfl) (by simp) ?_
      refine AllReadyH.cons rfl (fun K hK => ?_) AllReadyH.nil
      have HBB := hid hB
      clear hB
      go_simp
      have hWs : w1.heap.size ≤ D.heap.size := by omega
      refine hK.out _ _ ((((hS.setCell hWs _).setCell hWs _).setCell hWs _)) (fun hS => ?_)
      clear hK K
      (try simp only [Act.put, List.getElem_toArray, List.getElem_cons_zero, List.getElem_cons_succ, List.setIfInBounds_toArray, List.set_cons_zero, List.set_cons_succ])
      have hbl := (((HBB.out.set (i := 0) (.int .i64 p0)).set (i := 1) (.int .i64 p1)).set (i := 2) (.int .i64 p2))
      simp only [List.setIfInBounds_toArray, List.set_cons_zero, List.set_cons_succ] at hbl
      have hx0 := hbl.cell 0
      simp only [List.getElem?_toArray, List.getElem?_cons_zero, List.getElem?_cons_succ] at hx0
      have hx1 := hbl.cell 1
      simp only [List.getElem?_toArray, List.getElem?_cons_zero, List.getElem?_cons_succ] at hx1
      have hx2 := hbl.cell 2
      simp only [List.getElem?_toArray, List.getElem?_cons_zero, List.getElem?_cons_succ] at hx2
      refine wpAnyH_done (by kernel_rfl) ?_ _
      refine ⟨rfl, D.heap.size, at1, kt1, ?_, hS, hWs, ?_, hx0, hx1, hx2⟩
      · simp only [Act.put, List.getElem_toArray, List.getElem_cons_zero, List.getElem_cons_succ, List.setIfInBounds_toArray, List.set_cons_zero, List.set_cons_succ]
      all_goals (try simp only [size_set])
      all_goals omega
  · skip
    rintro a' w31 ⟨B31, u31_0, q31_0, rfl, hc, bl31, bu31, cb80, cb81, cb82⟩
    simp only [Act.put, List.getElem_toArray, List.getElem_cons_zero, List.getElem_cons_succ, List.setIfInBounds_toArray, List.set_cons_zero, List.set_cons_succ]
    have s31 : w1.heap.size ≤ w31.heap.size := hc.size
    have bq := hc
    replace cb30 := cell_later bq cb30
    replace zb3 := Nat.lt_of_lt_of_le zb3 bq.size
    replace cb40 := cell_later bq cb40
    replace cb41 := cell_later bq cb41
    replace cb42 := cell_later bq cb42
    replace zb4 := Nat.lt_of_lt_of_le zb4 bq.size
    replace hb := hb.trans (bq.mono hb.size)
    clear hc bq
    have zb8 := bu31
    go_wp2_with fail
    refine Calls.mono (toFile_any ap0 n0 kp0 xs0 _ (hr0.below hb) (by omega)) ?_
    rintro e w32 ⟨vt3, rfl, rt3, hc⟩
    obtain ⟨at3, kt3, rfl, q1, q2⟩ := rt3.shape
    have Kt3 : Hid _ := And.intro q1 q2
    clear q1 q2
    have s32 : w31.heap.size ≤ w32.heap.size := hc.size
    have bq := hc
    replace cb30 := cell_later bq cb30
    replace zb3 := Nat.lt_of_lt_of_le zb3 bq.size
    replace cb40 := cell_later bq cb40
    replace cb41 := cell_later bq cb41
    replace cb42 := cell_later bq cb42
    replace zb4 := Nat.lt_of_lt_of_le zb4 bq.size
    replace cb80 := cell_later bq cb80
    replace cb81 := cell_later bq cb81
    replace cb82 := cell_later bq cb82
    replace zb8 := Nat.lt_of_lt_of_le zb8 bq.size
    replace hb := hb.trans (bq.mono hb.size)
    clear hc bq
    go_wp2_with fail
    have bp : ∀ o0, Below w32.heap.size w32 (w32.alloc o0) := fun o0 => (Below.refl _ _).alloc (Nat.le_refl _) o0
    have hbt : ∀ o0, Below w.heap.size w (w32.alloc o0) := fun o0 => hb.trans ((bp o0).mono hb.size)
    obtain ⟨w33, hw33⟩ : ∃ x, (w32.alloc (.cells #[.slice at3 n0 kt3] 25)) = x := ⟨_, rfl⟩
    have hc : Below ((w32.alloc (.cells #[.slice at3 n0 kt3] 25))).heap.size ((w32.alloc (.cells #[.slice at3 n0 kt3] 25))) w33 := hw33 ▸ Below.refl _ _
    have s33 : w32.heap.size + 1 ≤ w33.heap.size := by have := hc.size; simp at this; omega
    have bq : Below w32.heap.size w32 w33 := (bp _).trans (hc.mono (bp _).size)
    replace cb30 := cell_later bq cb30
    replace zb3 := Nat.lt_of_lt_of_le zb3 bq.size
    replace cb40 := cell_later bq cb40
    replace cb41 := cell_later bq cb41
    replace cb42 := cell_later bq cb42
    replace zb4 := Nat.lt_of_lt_of_le zb4 bq.size
    replace cb80 := cell_later bq cb80
    replace cb81 := cell_later bq cb81
    replace cb82 := cell_later bq cb82
    replace zb8 := Nat.lt_of_lt_of_le zb8 bq.size
    have cb90 : w33.cell? ⟨w32.heap.size, 0, none⟩ = some (.slice at3 n0 kt3) := cell_later hc (by simp [go_sem])
    have zb9 : w32.heap.size < w33.heap.size := by omega
    replace rt3 := rt3.below bq
    replace hb := hb.trans (bq.mono hb.size)
    clear hc bq bp hbt
    rw [hw33]
    clear hw33
    refine region_join (fun a a' w' => ∃ (B : Nat) , a' = ((((((a.put (some 24) (.agg #[.slice at3 n0 kt3])).put (some 25) (.agg #[.int .i64 W1, .bool C1, .int .i64 S1])).put (some 26) (.agg #[.int .i64 W1, .bool C1, .int .i64 S1])).put (some 27) (.int .i64 I2)).put (some 28) (.agg #[.int .i64 p0, .int .i64 p1, .int .i64 p2])).put (some 10) (.pointer (some ⟨B, 0, none⟩))) ∧ Below w33.heap.size w33 w' ∧ w33.heap.size ≤ B ∧ B < w'.heap.size ∧ w'.cell? ⟨B, 0, none⟩ = some (.int .i64 p0) ∧ w'.cell? ⟨B, 1, none⟩ = some (.int .i64 p1) ∧ w'.cell? ⟨B, 2, none⟩ = some (.int .i64 p2)) ?_ ?_
    · skip
      have ob30 := cb30
      have ob40 := cb40
      have ob41 := cb41
      have ob42 := cb42
      have ob80 := cb80
      have ob81 := cb81
      have ob82 := cb82
      have ob90 := cb90
      have bd : Below w33.heap.size w33 w33.drew := (Below.refl _ _).drew
      refine wp_region_held_drew (S := fun w' => Below w33.heap.size w33 w') (by kernel_rfl) bd (fun hS => ?_)
      obtain ⟨D, hD⟩ : ∃ D, w33.drew = D := ⟨_, rfl⟩
      rw [hD] at hS bd ⊢
      have hc := bd
      clear hD bd
      have s34 : w33.heap.size ≤ D.heap.size := hc.size
      have bq := hc
      replace cb30 := cell_later bq cb30
      replace zb3 := Nat.lt_of_lt_of_le zb3 bq.size
      replace cb40 := cell_later bq cb40
      replace cb41 := cell_later bq cb41
      replace cb42 := cell_later bq cb42
      replace zb4 := Nat.lt_of_lt_of_le zb4 bq.size
      replace cb80 := cell_later bq cb80
      replace cb81 := cell_later bq cb81
      replace cb82 := cell_later bq cb82
      replace zb8 := Nat.lt_of_lt_of_le zb8 bq.size
      replace cb90 := cell_later bq cb90
      replace zb9 := Nat.lt_of_lt_of_le zb9 bq.size
      replace rt3 := rt3.below bq
      replace hb := hb.trans (bq.mono hb.size)
      clear hc bq
      refine wpAnyH_take (i := 0) (v := (.agg #[.slice at3 n0 kt3])) rfl (by as_aux_lemma => kernel_rfl) (by as_aux_lemma => kernel_rfl) (by as_aux_lemma => kernel_rfl) (fun _ _ _ h => nomatch h.1) (Or.inl ⟨by kernel_rfl, ?_⟩) hS ?_
      · intro w hSw; (try dsimp only at hSw); have hl0 := cell_later hSw ob90; go_simp
      (try simp only [Act.put, List.getElem_toArray, List.getElem_cons_zero, List.getElem_cons_succ, List.setIfInBounds_toArray, List.set_cons_zero, List.set_cons_succ])
      refine wpAnyH_take (i := 1) (v := (.agg #[.int .i64 W1, .bool C1, .int .i64 S1])) rfl (by as_aux_lemma => kernel_rfl) (by as_aux_lemma => kernel_rfl) (by as_aux_lemma => kernel_rfl) (fun _ _ _ h => nomatch h.1) (Or.inl ⟨by kernel_rfl, ?_⟩) hS ?_
      · intro w hSw; (try dsimp only at hSw); have hl0 := cell_later hSw ob40; have hl1 := cell_later hSw ob41; have hl2 := cell_later hSw ob42; go_simp
      (try simp only [Act.put, List.getElem_toArray, List.getElem_cons_zero, List.getElem_cons_succ, List.setIfInBounds_toArray, List.set_cons_zero, List.set_cons_succ])
      refine wpAnyH_take (i := 3) (v := (.int .i64 I2)) rfl (by as_aux_lemma => kernel_rfl) (by as_aux_lemma => kernel_rfl) (by as_aux_lemma => kernel_rfl) (fun _ _ _ h => nomatch h.1) (Or.inl ⟨by kernel_rfl, ?_⟩) hS ?_
      · intro w hSw; (try dsimp only at hSw); go_simp
      (try simp only [Act.put, List.getElem_toArray, List.getElem_cons_zero, List.getElem_cons_succ, List.setIfInBounds_toArray, List.set_cons_zero, List.set_cons_succ])
      refine wpAnyH_ready (rs := [2, 5]) (by as_aux_lemma => kernel_rfl) (by simp) ?_
      refine AllReadyH.cons rfl (fun K hK => ?_) (AllReadyH.cons rfl (fun K hK => ?_) AllReadyH.nil)
      · skip
        go_simp
        refine Calls.mono (toLayout_any W1 S1 C1 _) ?_
        rintro e w35 ⟨rfl, hc⟩
        refine hK.out _ _ (hS.trans (hc.mono hS.size)) (fun hS => ?_)
        clear hK K
        (try simp only [Act.put, List.getElem_toArray, List.getElem_cons_zero, List.getElem_cons_succ, List.setIfInBounds_toArray, List.set_cons_zero, List.set_cons_succ])
        have s35 : D.heap.size ≤ w35.heap.size := hc.size
        have bq := hc
        replace cb30 := cell_later bq cb30
        replace zb3 := Nat.lt_of_lt_of_le zb3 bq.size
        replace cb40 := cell_later bq cb40
        replace cb41 := cell_later bq cb41
        replace cb42 := cell_later bq cb42
        replace zb4 := Nat.lt_of_lt_of_le zb4 bq.size
        replace cb80 := cell_later bq cb80
        replace cb81 := cell_later bq cb81
        replace cb82 := cell_later bq cb82
        replace zb8 := Nat.lt_of_lt_of_le zb8 bq.size
        replace cb90 := cell_later bq cb90
        replace zb9 := Nat.lt_of_lt_of_le zb9 bq.size
        replace rt3 := rt3.below bq
        replace hb := hb.trans (bq.mono hb.size)
        clear hc bq
        refine wpAnyH_ready (rs := [4, 5]) (by as_aux_lemma => kernel_rfl) (by simp) ?_
        refine AllReadyH.cons rfl (fun K hK => ?_) (AllReadyH.cons rfl (fun K hK => ?_) AllReadyH.nil)
        · skip
          go_simp
          refine Calls.mono (HIC.out at3 kt3 _ rt3.read Kt3.out.1 Kt3.out.2) ?_
          rintro e w36 ⟨rfl, hc⟩
          refine hK.out _ _ (hS.trans (hc.mono hS.size)) (fun hS => ?_)
          clear hK K
          (try simp only [Act.put, List.getElem_toArray, List.getElem_cons_zero, List.getElem_cons_succ, List.setIfInBounds_toArray, List.set_cons_zero, List.set_cons_succ])
          have s36 : w35.heap.size ≤ w36.heap.size := hc.size
          have bq := hc
          replace cb30 := cell_later bq cb30
          replace zb3 := Nat.lt_of_lt_of_le zb3 bq.size
          replace cb40 := cell_later bq cb40
          replace cb41 := cell_later bq cb41
          replace cb42 := cell_later bq cb42
          replace zb4 := Nat.lt_of_lt_of_le zb4 bq.size
          replace cb80 := cell_later bq cb80
          replace cb81 := cell_later bq cb81
          replace cb82 := cell_later bq cb82
          replace zb8 := Nat.lt_of_lt_of_le zb8 bq.size
          replace cb90 := cell_later bq cb90
          replace zb9 := Nat.lt_of_lt_of_le zb9 bq.size
          replace rt3 := rt3.below bq
          replace hb := hb.trans (bq.mono hb.size)
          clear hc bq
          refine wpAnyH_ready (rs := [5]) (by as_aux_lemma => kernel_rfl) (by simp) ?_
          refine AllReadyH.cons rfl (fun K hK => ?_) AllReadyH.nil
          go_simp
          refine hK.out _ _ (hS.alloc hS.size _) (fun hS => ?_)
          clear hK K
          (try simp only [Act.put, List.getElem_toArray, List.getElem_cons_zero, List.getElem_cons_succ, List.setIfInBounds_toArray, List.set_cons_zero, List.set_cons_succ])
          have hB := Blk.new w36 #[.int .i64 0, .int .i64 0, .int .i64 0] 33
          have hc : Below w36.heap.size w36 (w36.alloc (.cells #[.int .i64 0, .int .i64 0, .int .i64 0] 33)) := (Below.refl _ _).alloc (Nat.le_refl _) _
          have ltA := hB.lt
          generalize w36.alloc (.cells #[.int .i64 0, .int .i64 0, .int .i64 0] 33) = yA at *
          have s37 : w36.heap.size ≤ yA.heap.size := hc.size
          have bq := hc
          replace cb30 := cell_later bq cb30
          replace zb3 := Nat.lt_of_lt_of_le zb3 bq.size
          replace cb40 := cell_later bq cb40
          replace cb41 := cell_later bq cb41
          replace cb42 := cell_later bq cb42
          replace zb4 := Nat.lt_of_lt_of_le zb4 bq.size
          replace cb80 := cell_later bq cb80
          replace cb81 := cell_later bq cb81
          replace cb82 := cell_later bq cb82
          replace zb8 := Nat.lt_of_lt_of_le zb8 bq.size
          replace cb90 := cell_later bq cb90
          replace zb9 := Nat.lt_of_lt_of_le zb9 bq.size
          replace rt3 := rt3.below bq
          replace hb := hb.trans (bq.mono hb.size)
          clear hc bq
          have d0 : yA.cell? ⟨w36.heap.size, 0, none⟩ = some (.int .i64 0) := hB.cell 0
          have df0 := hB.frozen 0
          have d1 : yA.cell? ⟨w36.heap.size, 1, none⟩ = some (.int .i64 0) := hB.cell 1
          have df1 := hB.frozen 1
          have d2 : yA.cell? ⟨w36.heap.size, 2, none⟩ = some (.int .i64 0) := hB.cell 2
          have df2 := hB.frozen 2
          refine wpAnyH_ready (rs := [6]) (by as_aux_lemma => kernel_rfl) (by simp) ?_
          refine AllReadyH.cons rfl (fun K hK => ?_) AllReadyH.nil
          have HBB := hid hB
          clear hB
          go_simp
          have hWs : w33.heap.size ≤ w36.heap.size := by omega
          refine hK.out _ _ ((((hS.setCell hWs _).setCell hWs _).setCell hWs _)) (fun hS => ?_)
          clear hK K
          (try simp only [Act.put, List.getElem_toArray, List.getElem_cons_zero, List.getElem_cons_succ, List.setIfInBounds_toArray, List.set_cons_zero, List.set_cons_succ])
          have hbl := (((HBB.out.set (i := 0) (.int .i64 p0)).set (i := 1) (.int .i64 p1)).set (i := 2) (.int .i64 p2))
          simp only [List.setIfInBounds_toArray, List.set_cons_zero, List.set_cons_succ] at hbl
          have hx0 := hbl.cell 0
          simp only [List.getElem?_toArray, List.getElem?_cons_zero, List.getElem?_cons_succ] at hx0
          have hx1 := hbl.cell 1
          simp only [List.getElem?_toArray, List.getElem?_cons_zero, List.getElem?_cons_succ] at hx1
          have hx2 := hbl.cell 2
          simp only [List.getElem?_toArray, List.getElem?_cons_zero, List.getElem?_cons_succ] at hx2
          refine wpAnyH_done (by kernel_rfl) ?_ _
          refine ⟨rfl, w36.heap.size, ?_, hS, hWs, ?_, hx0, hx1, hx2⟩
          · simp only [Act.put, List.getElem_toArray, List.getElem_cons_zero, List.getElem_cons_succ, List.setIfInBounds_toArray, List.set_cons_zero, List.set_cons_succ]
          all_goals (try simp only [size_set])
          all_goals omega
        · skip
          go_simp
          refine hK.out _ _ (hS.alloc hS.size _) (fun hS => ?_)
          clear hK K
          (try simp only [Act.put, List.getElem_toArray, List.getElem_cons_zero, List.getElem_cons_succ, List.setIfInBounds_toArray, List.set_cons_zero, List.set_cons_succ])
          have hB := Blk.new w35 #[.int .i64 0, .int .i64 0, .int .i64 0] 33
          have hc : Below w35.heap.size w35 (w35.alloc (.cells #[.int .i64 0, .int .i64 0, .int .i64 0] 33)) := (Below.refl _ _).alloc (Nat.le_refl _) _
          have ltA := hB.lt
          generalize w35.alloc (.cells #[.int .i64 0, .int .i64 0, .int .i64 0] 33) = yA at *
          have s36 : w35.heap.size ≤ yA.heap.size := hc.size
          have bq := hc
          replace cb30 := cell_later bq cb30
          replace zb3 := Nat.lt_of_lt_of_le zb3 bq.size
          replace cb40 := cell_later bq cb40
          replace cb41 := cell_later bq cb41
          replace cb42 := cell_later bq cb42
          replace zb4 := Nat.lt_of_lt_of_le zb4 bq.size
          replace cb80 := cell_later bq cb80
          replace cb81 := cell_later bq cb81
          replace cb82 := cell_later bq cb82
          replace zb8 := Nat.lt_of_lt_of_le zb8 bq.size
          replace cb90 := cell_later bq cb90
          replace zb9 := Nat.lt_of_lt_of_le zb9 bq.size
          replace rt3 := rt3.below bq
          replace hb := hb.trans (bq.mono hb.size)
          clear hc bq
          refine wpAnyH_ready (rs := [4]) (by as_aux_lemma => kernel_rfl) (by simp) ?_
          refine AllReadyH.cons rfl (fun K hK => ?_) AllReadyH.nil
          go_simp
          refine Calls.mono (HIC.out at3 kt3 _ rt3.read Kt3.out.1 Kt3.out.2) ?_
          rintro e w37 ⟨rfl, hc⟩
          replace hB := hB.below hc
          refine hK.out _ _ (hS.trans (hc.mono hS.size)) (fun hS => ?_)
          clear hK K
          (try simp only [Act.put, List.getElem_toArray, List.getElem_cons_zero, List.getElem_cons_succ, List.setIfInBounds_toArray, List.set_cons_zero, List.set_cons_succ])
          have s37 : yA.heap.size ≤ w37.heap.size := hc.size
          have bq := hc
          replace cb30 := cell_later bq cb30
          replace zb3 := Nat.lt_of_lt_of_le zb3 bq.size
          replace cb40 := cell_later bq cb40
          replace cb41 := cell_later bq cb41
          replace cb42 := cell_later bq cb42
          replace zb4 := Nat.lt_of_lt_of_le zb4 bq.size
          replace cb80 := cell_later bq cb80
          replace cb81 := cell_later bq cb81
          replace cb82 := cell_later bq cb82
          replace zb8 := Nat.lt_of_lt_of_le zb8 bq.size
          replace cb90 := cell_later bq cb90
          replace zb9 := Nat.lt_of_lt_of_le zb9 bq.size
          replace rt3 := rt3.below bq
          replace hb := hb.trans (bq.mono hb.size)
          clear hc bq
          have d0 : w37.cell? ⟨w35.heap.size, 0, none⟩ = some (.int .i64 0) := hB.cell 0
          have df0 := hB.frozen 0
          have d1 : w37.cell? ⟨w35.heap.size, 1, none⟩ = some (.int .i64 0) := hB.cell 1
          have df1 := hB.frozen 1
          have d2 : w37.cell? ⟨w35.heap.size, 2, none⟩ = some (.int .i64 0) := hB.cell 2
          have df2 := hB.frozen 2
          refine wpAnyH_ready (rs := [6]) (by as_aux_lemma => kernel_rfl) (by simp) ?_
          refine AllReadyH.cons rfl (fun K hK => ?_) AllReadyH.nil
          have HBB := hid hB
          clear hB
          go_simp
          have hWs : w33.heap.size ≤ w35.heap.size := by omega
          refine hK.out _ _ ((((hS.setCell hWs _).setCell hWs _).setCell hWs _)) (fun hS => ?_)
          clear hK K
          (try simp only [Act.put, List.getElem_toArray, List.getElem_cons_zero, List.getElem_cons_succ, List.setIfInBounds_toArray, List.set_cons_zero, List.set_cons_succ])
          have hbl := (((HBB.out.set (i := 0) (.int .i64 p0)).set (i := 1) (.int .i64 p1)).set (i := 2) (.int .i64 p2))
          simp only [List.setIfInBounds_toArray, List.set_cons_zero, List.set_cons_succ] at hbl
          have hx0 := hbl.cell 0
          simp only [List.getElem?_toArray, List.getElem?_cons_zero, List.getElem?_cons_succ] at hx0
          have hx1 := hbl.cell 1
          simp only [List.getElem?_toArray, List.getElem?_cons_zero, List.getElem?_cons_succ] at hx1
          have hx2 := hbl.cell 2
          simp only [List.getElem?_toArray, List.getElem?_cons_zero, List.getElem?_cons_succ] at hx2
          refine wpAnyH_done (by kernel_rfl) ?_ _
          refine ⟨rfl, w35.heap.size, ?_, hS, hWs, ?_, hx0, hx1, hx2⟩
          · simp only [Act.put, List.getElem_toArray, List.getElem_cons_zero, List.getElem_cons_succ, List.setIfInBounds_toArray, List.set_cons_zero, List.set_cons_succ]
          all_goals (try simp only [size_set])
          all_goals omega
      · skip
        go_simp
        refine hK.out _ _ (hS.alloc hS.size _) (fun hS => ?_)
        clear hK K
        (try simp only [Act.put, List.getElem_toArray, List.getElem_cons_zero, List.getElem_cons_succ, List.setIfInBounds_toArray, List.set_cons_zero, List.set_cons_succ])
        have hB := Blk.new D #[.int .i64 0, .int .i64 0, .int .i64 0] 33
        have hc : Below D.heap.size D (D.alloc (.cells #[.int .i64 0, .int .i64 0, .int .i64 0] 33)) := (Below.refl _ _).alloc (Nat.le_refl _) _
        have ltA := hB.lt
        generalize D.alloc (.cells #[.int .i64 0, .int .i64 0, .int .i64 0] 33) = yA at *
        have s35 : D.heap.size ≤ yA.heap.size := hc.size
        have bq := hc
        replace cb30 := cell_later bq cb30
        replace zb3 := Nat.lt_of_lt_of_le zb3 bq.size
        replace cb40 := cell_later bq cb40
        replace cb41 := cell_later bq cb41
        replace cb42 := cell_later bq cb42
        replace zb4 := Nat.lt_of_lt_of_le zb4 bq.size
        replace cb80 := cell_later bq cb80
        replace cb81 := cell_later bq cb81
        replace cb82 := cell_later bq cb82
        replace zb8 := Nat.lt_of_lt_of_le zb8 bq.size
        replace cb90 := cell_later bq cb90
        replace zb9 := Nat.lt_of_lt_of_le zb9 bq.size
        replace rt3 := rt3.below bq
        replace hb := hb.trans (bq.mono hb.size)
        clear hc bq
        refine wpAnyH_ready (rs := [2]) (by as_aux_lemma => kernel_rfl) (by simp) ?_
        refine AllReadyH.cons rfl (fun K hK => ?_) AllReadyH.nil
        go_simp
        refine Calls.mono (toLayout_any W1 S1 C1 _) ?_
        rintro e w36 ⟨rfl, hc⟩
        replace hB := hB.below hc
        refine hK.out _ _ (hS.trans (hc.mono hS.size)) (fun hS => ?_)
        clear hK K
        (try simp only [Act.put, List.getElem_toArray, List.getElem_cons_zero, List.getElem_cons_succ, List.setIfInBounds_toArray, List.set_cons_zero, List.set_cons_succ])
        have s36 : yA.heap.size ≤ w36.heap.size := hc.size
        have bq := hc
        replace cb30 := cell_later bq cb30
        replace zb3 := Nat.lt_of_lt_of_le zb3 bq.size
        replace cb40 := cell_later bq cb40
        replace cb41 := cell_later bq cb41
        replace cb42 := cell_later bq cb42
        replace zb4 := Nat.lt_of_lt_of_le zb4 bq.size
        replace cb80 := cell_later bq cb80
        replace cb81 := cell_later bq cb81
        replace cb82 := cell_later bq cb82
        replace zb8 := Nat.lt_of_lt_of_le zb8 bq.size
        replace cb90 := cell_later bq cb90
        replace zb9 := Nat.lt_of_lt_of_le zb9 bq.size
        replace rt3 := rt3.below bq
        replace hb := hb.trans (bq.mono hb.size)
        clear hc bq
        refine wpAnyH_ready (rs := [4]) (by as_aux_lemma => kernel_rfl) (by simp) ?_
        refine AllReadyH.cons rfl (fun K hK => ?_) AllReadyH.nil
        go_simp
        refine Calls.mono (HIC.out at3 kt3 _ rt3.read Kt3.out.1 Kt3.out.2) ?_
        rintro e w37 ⟨rfl, hc⟩
        replace hB := hB.below hc
        refine hK.out _ _ (hS.trans (hc.mono hS.size)) (fun hS => ?_)
        clear hK K
        (try simp only [Act.put, List.getElem_toArray, List.getElem_cons_zero, List.getElem_cons_succ, List.setIfInBounds_toArray, List.set_cons_zero, List.set_cons_succ])
        have s37 : w36.heap.size ≤ w37.heap.size := hc.size
        have bq := hc
        replace cb30 := cell_later bq cb30
        replace zb3 := Nat.lt_of_lt_of_le zb3 bq.size
        replace cb40 := cell_later bq cb40
        replace cb41 := cell_later bq cb41
        replace cb42 := cell_later bq cb42
        replace zb4 := Nat.lt_of_lt_of_le zb4 bq.size
        replace cb80 := cell_later bq cb80
        replace cb81 := cell_later bq cb81
        replace cb82 := cell_later bq cb82
        replace zb8 := Nat.lt_of_lt_of_le zb8 bq.size
        replace cb90 := cell_later bq cb90
        replace zb9 := Nat.lt_of_lt_of_le zb9 bq.size
        replace rt3 := rt3.below bq
        replace hb := hb.trans (bq.mono hb.size)
        clear hc bq
        have d0 : w37.cell? ⟨D.heap.size, 0, none⟩ = some (.int .i64 0) := hB.cell 0
        have df0 := hB.frozen 0
        have d1 : w37.cell? ⟨D.heap.size, 1, none⟩ = some (.int .i64 0) := hB.cell 1
        have df1 := hB.frozen 1
        have d2 : w37.cell? ⟨D.heap.size, 2, none⟩ = some (.int .i64 0) := hB.cell 2
        have df2 := hB.frozen 2
        refine wpAnyH_ready (rs := [6]) (by as_aux_lemma => kernel_rfl) (by simp) ?_
        refine AllReadyH.cons rfl (fun K hK => ?_) AllReadyH.nil
        have HBB := hid hB
        clear hB
        go_simp
        have hWs : w33.heap.size ≤ D.heap.size := by omega
        refine hK.out _ _ ((((hS.setCell hWs _).setCell hWs _).setCell hWs _)) (fun hS => ?_)
        clear hK K
        (try simp only [Act.put, List.getElem_toArray, List.getElem_cons_zero, List.getElem_cons_succ, List.setIfInBounds_toArray, List.set_cons_zero, List.set_cons_succ])
        have hbl := (((HBB.out.set (i := 0) (.int .i64 p0)).set (i := 1) (.int .i64 p1)).set (i := 2) (.int .i64 p2))
        simp only [List.setIfInBounds_toArray, List.set_cons_zero, List.set_cons_succ] at hbl
        have hx0 := hbl.cell 0
        simp only [List.getElem?_toArray, List.getElem?_cons_zero, List.getElem?_cons_succ] at hx0
        have hx1 := hbl.cell 1
        simp only [List.getElem?_toArray, List.getElem?_cons_zero, List.getElem?_cons_succ] at hx1
        have hx2 := hbl.cell 2
        simp only [List.getElem?_toArray, List.getElem?_cons_zero, List.getElem?_cons_succ] at hx2
        refine wpAnyH_done (by kernel_rfl) ?_ _
        refine ⟨rfl, D.heap.size, ?_, hS, hWs, ?_, hx0, hx1, hx2⟩
        · simp only [Act.put, List.getElem_toArray, List.getElem_cons_zero, List.getElem_cons_succ, List.setIfInBounds_toArray, List.set_cons_zero, List.set_cons_succ]
        all_goals (try simp only [size_set])
        all_goals omega
    · skip
      rintro a' w63 ⟨B63, rfl, hc, bl63, bu63, cb100, cb101, cb102⟩
      simp only [Act.put, List.getElem_toArray, List.getElem_cons_zero, List.getElem_cons_succ, List.setIfInBounds_toArray, List.set_cons_zero, List.set_cons_succ]
      have s63 : w33.heap.size ≤ w63.heap.size := hc.size
      have bq := hc
      replace cb30 := cell_later bq cb30
      replace zb3 := Nat.lt_of_lt_of_le zb3 bq.size
      replace cb40 := cell_later bq cb40
      replace cb41 := cell_later bq cb41
      replace cb42 := cell_later bq cb42
      replace zb4 := Nat.lt_of_lt_of_le zb4 bq.size
      replace cb80 := cell_later bq cb80
      replace cb81 := cell_later bq cb81
      replace cb82 := cell_later bq cb82
      replace zb8 := Nat.lt_of_lt_of_le zb8 bq.size
      replace cb90 := cell_later bq cb90
      replace zb9 := Nat.lt_of_lt_of_le zb9 bq.size
      replace rt3 := rt3.below bq
      replace hb := hb.trans (bq.mono hb.size)
      clear hc bq
      have zb10 := bu63
      go_wp2_with fail
      refine Calls.mono (eqSpotResult_yes p0 p1 p2 _) ?_
      rintro e w64 ⟨rfl, hc⟩
      have s64 : w63.heap.size ≤ w64.heap.size := hc.size
      have bq := hc
      replace cb30 := cell_later bq cb30
      replace zb3 := Nat.lt_of_lt_of_le zb3 bq.size
      replace cb40 := cell_later bq cb40
      replace cb41 := cell_later bq cb41
      replace cb42 := cell_later bq cb42
      replace zb4 := Nat.lt_of_lt_of_le zb4 bq.size
      replace cb80 := cell_later bq cb80
      replace cb81 := cell_later bq cb81
      replace cb82 := cell_later bq cb82
      replace zb8 := Nat.lt_of_lt_of_le zb8 bq.size
      replace cb90 := cell_later bq cb90
      replace zb9 := Nat.lt_of_lt_of_le zb9 bq.size
      replace cb100 := cell_later bq cb100
      replace cb101 := cell_later bq cb101
      replace cb102 := cell_later bq cb102
      replace zb10 := Nat.lt_of_lt_of_le zb10 bq.size
      replace rt3 := rt3.below bq
      replace hb := hb.trans (bq.mono hb.size)
      clear hc bq
      go_wp2_with fail
      have ob30 := cb30
      have ob40 := cb40
      have ob41 := cb41
      have ob42 := cb42
      have ob80 := cb80
      have ob81 := cb81
      have ob82 := cb82
      have ob90 := cb90
      have ob100 := cb100
      have ob101 := cb101
      have ob102 := cb102
      have bd : Below w64.heap.size w64 w64.drew := (Below.refl _ _).drew
      refine wp_region_held_drew (S := fun w' => Below w64.heap.size w64 w') (by kernel_rfl) bd (fun hS => ?_)
      obtain ⟨D, hD⟩ : ∃ D, w64.drew = D := ⟨_, rfl⟩
      rw [hD] at hS bd ⊢
      have hc := bd
      clear hD bd
      have s65 : w64.heap.size ≤ D.heap.size := hc.size
      have bq := hc
      replace cb30 := cell_later bq cb30
      replace zb3 := Nat.lt_of_lt_of_le zb3 bq.size
      replace cb40 := cell_later bq cb40
      replace cb41 := cell_later bq cb41
      replace cb42 := cell_later bq cb42
      replace zb4 := Nat.lt_of_lt_of_le zb4 bq.size
      replace cb80 := cell_later bq cb80
      replace cb81 := cell_later bq cb81
      replace cb82 := cell_later bq cb82
      replace zb8 := Nat.lt_of_lt_of_le zb8 bq.size
      replace cb90 := cell_later bq cb90
      replace zb9 := Nat.lt_of_lt_of_le zb9 bq.size
      replace cb100 := cell_later bq cb100
      replace cb101 := cell_later bq cb101
      replace cb102 := cell_later bq cb102
      replace zb10 := Nat.lt_of_lt_of_le zb10 bq.size
      replace rt3 := rt3.below bq
      replace hb := hb.trans (bq.mono hb.size)
      clear hc bq
      refine wpAnyH_take (i := 0) (v := (.agg #[.slice at3 n0 kt3])) rfl (by as_aux_lemma => kernel_rfl) (by as_aux_lemma => kernel_rfl) (by as_aux_lemma => kernel_rfl) (fun _ _ _ h => h) (Or.inl ⟨by kernel_rfl, ?_⟩) hS ?_
      · intro w hSw; (try dsimp only at hSw); have hl0 := cell_later hSw ob90; go_simp
      (try simp only [Act.put, List.getElem_toArray, List.getElem_cons_zero, List.getElem_cons_succ, List.setIfInBounds_toArray, List.set_cons_zero, List.set_cons_succ])
      refine wpAnyH_take (i := 1) (v := (.agg #[.slice ap0 n0 kp0])) rfl (by as_aux_lemma => kernel_rfl) (by as_aux_lemma => kernel_rfl) (by as_aux_lemma => kernel_rfl) (fun _ _ _ h => h) (Or.inl ⟨by kernel_rfl, ?_⟩) hS ?_
      · intro w hSw; (try dsimp only at hSw); have hl0 := cell_later hSw ob30; go_simp
      (try simp only [Act.put, List.getElem_toArray, List.getElem_cons_zero, List.getElem_cons_succ, List.setIfInBounds_toArray, List.set_cons_zero, List.set_cons_succ])
      refine wpAnyH_ready (rs := [2]) (by as_aux_lemma => kernel_rfl) (by simp) ?_
      refine AllReadyH.cons rfl (fun K hK => ?_) AllReadyH.nil
      go_simp
      refine Calls.mono (toFile_any ap0 n0 kp0 xs0 _ (hr0.below hb) (by omega)) ?_
      rintro e w66 ⟨vt5, rfl, rt5, hc⟩
      obtain ⟨at5, kt5, rfl, q1, q2⟩ := rt5.shape
      have Kt5 : Hid _ := And.intro q1 q2
      clear q1 q2
      refine hK.out _ _ (hS.trans (hc.mono hS.size)) (fun hS => ?_)
      clear hK K
      (try simp only [Act.put, List.getElem_toArray, List.getElem_cons_zero, List.getElem_cons_succ, List.setIfInBounds_toArray, List.set_cons_zero, List.set_cons_succ])
      have s66 : D.heap.size ≤ w66.heap.size := hc.size
      have bq := hc
      replace cb30 := cell_later bq cb30
      replace zb3 := Nat.lt_of_lt_of_le zb3 bq.size
      replace cb40 := cell_later bq cb40
      replace cb41 := cell_later bq cb41
      replace cb42 := cell_later bq cb42
      replace zb4 := Nat.lt_of_lt_of_le zb4 bq.size
      replace cb80 := cell_later bq cb80
      replace cb81 := cell_later bq cb81
      replace cb82 := cell_later bq cb82
      replace zb8 := Nat.lt_of_lt_of_le zb8 bq.size
      replace cb90 := cell_later bq cb90
      replace zb9 := Nat.lt_of_lt_of_le zb9 bq.size
      replace cb100 := cell_later bq cb100
      replace cb101 := cell_later bq cb101
      replace cb102 := cell_later bq cb102
      replace zb10 := Nat.lt_of_lt_of_le zb10 bq.size
      replace rt3 := rt3.below bq
      replace hb := hb.trans (bq.mono hb.size)
      clear hc bq
      refine wpAnyH_ready (rs := [3]) (by as_aux_lemma => kernel_rfl) (by simp) ?_
      refine AllReadyH.cons rfl (fun K hK => ?_) AllReadyH.nil
      go_simp
      refine Calls.mono (eqFile_yes at3 at5 n0 kt3 kt5 xs0 _ rt3.read rt5.read (by first | omega | (unfold maxLen; omega))) ?_
      rintro e w67 ⟨rfl, hc⟩
      refine hK.out _ _ (hS.trans (hc.mono hS.size)) (fun hS => ?_)
      clear hK K
      (try simp only [Act.put, List.getElem_toArray, List.getElem_cons_zero, List.getElem_cons_succ, List.setIfInBounds_toArray, List.set_cons_zero, List.set_cons_succ])
      have s67 : w66.heap.size ≤ w67.heap.size := hc.size
      have bq := hc
      replace cb30 := cell_later bq cb30
      replace zb3 := Nat.lt_of_lt_of_le zb3 bq.size
      replace cb40 := cell_later bq cb40
      replace cb41 := cell_later bq cb41
      replace cb42 := cell_later bq cb42
      replace zb4 := Nat.lt_of_lt_of_le zb4 bq.size
      replace cb80 := cell_later bq cb80
      replace cb81 := cell_later bq cb81
      replace cb82 := cell_later bq cb82
      replace zb8 := Nat.lt_of_lt_of_le zb8 bq.size
      replace cb90 := cell_later bq cb90
      replace zb9 := Nat.lt_of_lt_of_le zb9 bq.size
      replace cb100 := cell_later bq cb100
      replace cb101 := cell_later bq cb101
      replace cb102 := cell_later bq cb102
      replace zb10 := Nat.lt_of_lt_of_le zb10 bq.size
      replace rt3 := rt3.below bq
      replace rt5 := rt5.below bq
      replace hb := hb.trans (bq.mono hb.size)
      clear hc bq
      refine wpAnyH_take (i := 4) (v := (.bool false)) rfl (by as_aux_lemma => kernel_rfl) (by as_aux_lemma => kernel_rfl) (by as_aux_lemma => kernel_rfl) (fun _ _ _ h => h) (Or.inl ⟨by kernel_rfl, ?_⟩) hS ?_
      · intro w hSw; (try dsimp only at hSw); go_simp
      (try simp only [Act.put, List.getElem_toArray, List.getElem_cons_zero, List.getElem_cons_succ, List.setIfInBounds_toArray, List.set_cons_zero, List.set_cons_succ])
      refine wpAnyH_done (by kernel_rfl) ?_ _
      clear hS
      clear ob30
      clear ob40
      clear ob41
      clear ob42
      clear ob80
      clear ob81
      clear ob82
      clear ob90
      clear ob100
      clear ob101
      clear ob102
      go_wp2
      go_ret
      exact ⟨rfl, hb⟩

theorem own : ownKnob Try.prog.godebug = none := by kernel_rfl
theorem laidOut : laidOutB Try.prog = true := by kernel_rfl

set_option maxRecDepth 100000 in
theorem lifted (os : Os) (started : os.Started) (H : Type) (enc : TypeId × Value → H) :
    ReturnsInHanded {} Try.checked os 6 .any (Rows.fnExactLastTopSpec.pre6 enc Try.prog Try.f6 Rows.fnExactLastTopRow.domain false) (Rows.fnExactLastTopSpec.post enc Try.prog Try.f6 false true false false) := by
  refine returnsInHanded_of_change (C := Try.checked) own started (by kernel_rfl) Try.func6
    (ChangeSpec.witness6 (enc := enc) (C := Try.checked) false ⟨#[], #[.agg #[.slice none 0 0], .agg #[.int .i64 0, .bool false, .int .i64 0], .int .i64 0], []⟩ 8 (by kernel_rfl) (by kernel_rfl) (by kernel_rfl) (by kernel_rfl)) ?_
  intro W base args ds gs before hval0 hW hcnd _
  have hval : ∀ (j : Nat) t v, Try.f6.params[j]? = some t → args[j]? = some v → Value.okWide Try.prog W .any base t v := hval0
  have hW' := hW
  obtain ⟨p, q, hA0, hV, rfl, hfz, hnd⟩ := hW
  have hA : DataW.TrodAll enc Try.prog W 0 (fun _ => true) true Try.f6.params.toList args.toList ds p := hA0
  rw [Try.params6] at hA hval
  obtain ⟨v0, v1, v2, d0, d1, d2, p0, p1, p2, rfl, rfl, rfl, h0, h1, h2⟩ := trodAll_three hA
  obtain ⟨rfl, rfl⟩ := trodVars_none hV
  have k0 := h0
  have lt0 : ∀ x ∈ p0, x.block < W.heap.size := by obtain ⟨m, hm⟩ := k0; exact DataW.trod_lt m _ _ _ hm
  obtain ⟨a0, len0, cap0, x0, rfl, hr0, hB0, hm0⟩ := open_file (hval 0 37 v0 rfl rfl) h0
  have k1 := h1
  have lt1 : ∀ x ∈ p1, x.block < W.heap.size := by obtain ⟨m, hm⟩ := k1; exact DataW.trod_lt m _ _ _ hm
  obtain ⟨W1, C1, S1, rfl, hIW1, hIS1⟩ := open_layout (hval 1 38 v1 rfl rfl) h1
  obtain ⟨I2, rfl, rfl, rfl, wI2⟩ := open_int Try.underlying2 (hval 2 2 v2 rfl rfl) h2
  clear hA0 hval0
  refine (walk a0 len0 cap0 x0 W1 C1 S1 I2 W hr0 hB0 hm0).mono fun e W' ⟨he, bel⟩ => ?_
  subst he
  exact ⟨_, rfl, _, _, _, [], _, [], hW', trodAll_mk1 (shut_bool Try.underlying4 _), trodAll_mk3 (Below.trod laidOut (by kernel_rfl) (of_decide_eq_true (by kernel_rfl)) k0 bel lt0) (Below.trod laidOut (by kernel_rfl) (of_decide_eq_true (by kernel_rfl)) k1 bel lt1) (shut_int Try.underlying2 wI2), rfl, bel.frame _, fun h => by cases h⟩

theorem proved : Rows.FnExactLastTopSaid :=
  OpenClaim.holds_of_wide 6 Try.f6 rfl rfl rfl rfl rfl rfl rfl ⟨rfl, rfl, rfl, rfl, rfl⟩ rfl rfl rfl rfl rfl (by kernel_rfl) Try.func6 (by kernel_rfl)
    (of_decide_eq_true (by kernel_rfl)) (by unfold Func.isWrapper; first | (rw [if_pos (by decide +kernel)]; kernel_rfl) | (rw [if_neg (by decide +kernel)]; exact ⟨rfl, rfl⟩))
    (fun os started H enc _ => lifted os started H enc)
end Go.Proofs.Ytjgmkcmlkffjlaa.fnExactLastTop
namespace Go.Proofs.Ytjgmkcmlkffjlaa
theorem fnExactLastTop_proved : Rows.FnExactLastTopSaid := fnExactLastTop.proved
end Go.Proofs.Ytjgmkcmlkffjlaa
