/-
  For every grid, FnExactGridFault returns true: the program's GridFault answers as the model and writes into no argument; no condition.
-/
import Derived.Test.YtjgmkcmlkffjlaaPag2
import Derived.Test.YtjgmkcmlkffjlaaHlpG
import Derived.ProofKit
import Derived.OpenShut
import Derived.ChangeOld
import Derived.Below
import Derived.Carry
import Derived.Deep.RegionWith
import Derived.Deep.RegionHeld3
namespace Go.Proofs.Ytjgmkcmlkffjlaa.fnExactGridFault
open Go.ChangeShapes Go.WideShapes Go.ChangeAt Go.RowKit
set_option linter.unusedVariables false
set_option linter.unusedSimpArgs false

set_option maxRecDepth 10000 in
set_option maxHeartbeats 6400000 in
theorem walk (W : Int) (a b : Option Addr) (n m ca cb : Nat) (xs : List Int) (ys : List Bool) (w : World) (ha : Rd .i64 w a n xs) (hy : RdR blE 1 w b m ys) (hm1 : n ≤ maxLen) (hm2 : m ≤ maxLen) :
    Calls Try.prog 9 #[.agg #[.int .i64 W, .slice a n ca, .slice b m cb]] w fun e w' => e = .returned (.bool true) ∧ Below w.heap.size w w' := by
  by_cases hn : (n : Int) + m ≤ 1048576
  case neg =>
    go_enter Try.func9, Try.ntmps9
    have hb : Below w.heap.size w w := Below.refl _ _
    go_wp2_with fail
    have bp : ∀ o0, Below w.heap.size w (w.alloc o0) := fun o0 => (Below.refl _ _).alloc (Nat.le_refl _) o0
    have hbt : ∀ o0, Below w.heap.size w (w.alloc o0) := fun o0 => hb.trans ((bp o0).mono hb.size)
    refine Calls.mono (szGrid_no W a b n m ca cb 1048576 _ (by omega) hm1 hm2 (by omega) (by omega)) ?_
    rintro e w1 ⟨rfl, hc⟩
    have s1 : w.heap.size + 1 ≤ w1.heap.size := by have := hc.size; simp at this; omega
    have bq : Below w.heap.size w w1 := (bp _).trans (hc.mono (bp _).size)
    have cg0 : w1.cell? ⟨w.heap.size, 0, none⟩ = some (.int .i64 W) := cell_later hc (by simp [go_sem])
    have cg1 : w1.cell? ⟨w.heap.size, 1, none⟩ = some (.slice a n ca) := cell_later hc (by simp [go_sem])
    have cg2 : w1.cell? ⟨w.heap.size, 2, none⟩ = some (.slice b m cb) := cell_later hc (by simp [go_sem])
    have zg : w.heap.size < w1.heap.size := by omega
    replace hb := hb.trans (bq.mono hb.size)
    clear hc bq bp hbt
    go_wp2
    go_ret
    exact ⟨rfl, hb⟩
  have SC := fun a' b' k' q' w' h => specGridFault_any W a' b' n m k' q' xs w' h (by omega) (by omega)
  have IC := fun a' b' k' q' w' h => implGridFault_any W a' b' n m k' q' xs w' h (by omega) (by omega)
  generalize gdF W xs m = F at *
  have HSC : Hid _ := SC
  have HIC : Hid _ := IC
  clear SC IC hm1 hm2
  go_enter Try.func9, Try.ntmps9
  have hb : Below w.heap.size w w := Below.refl _ _
  go_wp2_with fail
  have bp : ∀ o0, Below w.heap.size w (w.alloc o0) := fun o0 => (Below.refl _ _).alloc (Nat.le_refl _) o0
  have hbt : ∀ o0, Below w.heap.size w (w.alloc o0) := fun o0 => hb.trans ((bp o0).mono hb.size)
  refine Calls.mono (szGrid_yes W a b n m ca cb 1048576 _ hn (by omega)) ?_
  rintro e w1 ⟨rfl, hc⟩
  have s1 : w.heap.size + 1 ≤ w1.heap.size := by have := hc.size; simp at this; omega
  have bq : Below w.heap.size w w1 := (bp _).trans (hc.mono (bp _).size)
  have cg0 : w1.cell? ⟨w.heap.size, 0, none⟩ = some (.int .i64 W) := cell_later hc (by simp [go_sem])
  have cg1 : w1.cell? ⟨w.heap.size, 1, none⟩ = some (.slice a n ca) := cell_later hc (by simp [go_sem])
  have cg2 : w1.cell? ⟨w.heap.size, 2, none⟩ = some (.slice b m cb) := cell_later hc (by simp [go_sem])
  have zg : w.heap.size < w1.heap.size := by omega
  replace hb := hb.trans (bq.mono hb.size)
  clear hc bq bp hbt
  have hl : ¬ 1048576 - (n : Int) - (m : Int) < 0 := by omega
  go_wp2_with fail
  refine Calls.mono (toGrid_any W a b n m ca cb xs ys _ (ha.below hb) (hy.below hb) (by omega) (by omega)) ?_
  rintro e w2 ⟨a1, b1, k1, q1, rfl, rx1, ry1, hc⟩
  have s2 : w1.heap.size ≤ w2.heap.size := hc.size
  have bq := hc
  replace cg0 := cell_later bq cg0
  replace cg1 := cell_later bq cg1
  replace cg2 := cell_later bq cg2
  replace zg := Nat.lt_of_lt_of_le zg bq.size
  replace hb := hb.trans (bq.mono hb.size)
  clear hc bq
  go_wp2_with fail
  refine Calls.mono (HSC.out a1 b1 k1 q1 _ rx1) ?_
  rintro e w3 ⟨rfl, hc⟩
  have s3 : w2.heap.size ≤ w3.heap.size := hc.size
  have bq := hc
  replace cg0 := cell_later bq cg0
  replace cg1 := cell_later bq cg1
  replace cg2 := cell_later bq cg2
  replace zg := Nat.lt_of_lt_of_le zg bq.size
  replace rx1 := rx1.below bq
  replace hb := hb.trans (bq.mono hb.size)
  clear hc bq
  go_wp2_with fail
  refine Calls.mono (toGrid_any W a b n m ca cb xs ys _ (ha.below hb) (hy.below hb) (by omega) (by omega)) ?_
  rintro e w4 ⟨a2, b2, k2, q2, rfl, rx2, ry2, hc⟩
  have s4 : w3.heap.size ≤ w4.heap.size := hc.size
  have bq := hc
  replace cg0 := cell_later bq cg0
  replace cg1 := cell_later bq cg1
  replace cg2 := cell_later bq cg2
  replace zg := Nat.lt_of_lt_of_le zg bq.size
  replace rx1 := rx1.below bq
  replace hb := hb.trans (bq.mono hb.size)
  clear hc bq
  go_wp2_with fail
  have bp : ∀ o0, Below w4.heap.size w4 (w4.alloc o0) := fun o0 => (Below.refl _ _).alloc (Nat.le_refl _) o0
  have hbt : ∀ o0, Below w.heap.size w (w4.alloc o0) := fun o0 => hb.trans ((bp o0).mono hb.size)
  refine Calls.mono (HIC.out a2 b2 k2 q2 _ (rx2.below (bp _))) ?_
  rintro e w5 ⟨rfl, hc⟩
  have s5 : w4.heap.size + 1 ≤ w5.heap.size := by have := hc.size; simp at this; omega
  have bq : Below w4.heap.size w4 w5 := (bp _).trans (hc.mono (bp _).size)
  replace cg0 := cell_later bq cg0
  replace cg1 := cell_later bq cg1
  replace cg2 := cell_later bq cg2
  replace zg := Nat.lt_of_lt_of_le zg bq.size
  have cx0 : w5.cell? ⟨w4.heap.size, 0, none⟩ = some (.int .i64 W) := cell_later hc (by simp [go_sem])
  have cx1 : w5.cell? ⟨w4.heap.size, 1, none⟩ = some (.slice a2 n k2) := cell_later hc (by simp [go_sem])
  have cx2 : w5.cell? ⟨w4.heap.size, 2, none⟩ = some (.slice b2 m q2) := cell_later hc (by simp [go_sem])
  have zx : w4.heap.size < w5.heap.size := by omega
  replace rx1 := rx1.below bq
  replace rx2 := rx2.below bq
  replace ry2 := ry2.below bq
  replace hb := hb.trans (bq.mono hb.size)
  clear hc bq bp hbt
  go_wp2_with fail
  have bd : Below w5.heap.size w5 w5.drew := (Below.refl _ _).drew
  refine wp_region_held_drew (S := fun w' => Below w.heap.size w w' ∧ w'.cell? ⟨w.heap.size, 0, none⟩ = some (.int .i64 W) ∧ w'.cell? ⟨w.heap.size, 1, none⟩ = some (.slice a n ca) ∧ w'.cell? ⟨w.heap.size, 2, none⟩ = some (.slice b m cb) ∧ w'.cell? ⟨w4.heap.size, 0, none⟩ = some (.int .i64 W) ∧ w'.cell? ⟨w4.heap.size, 1, none⟩ = some (.slice a2 n k2) ∧ w'.cell? ⟨w4.heap.size, 2, none⟩ = some (.slice b2 m q2)) (by kernel_rfl) ⟨(hb.trans (bd.mono hb.size)), cell_later bd cg0, cell_later bd cg1, cell_later bd cg2, cell_later bd cx0, cell_later bd cx1, cell_later bd cx2⟩ (fun hS => ?_)
  obtain ⟨D5, hD⟩ : ∃ D, w5.drew = D := ⟨_, rfl⟩
  rw [hD] at hS bd ⊢
  have hc := bd
  clear hD bd
  have s6 : w5.heap.size ≤ D5.heap.size := hc.size
  have bq := hc
  replace cg0 := cell_later bq cg0
  replace cg1 := cell_later bq cg1
  replace cg2 := cell_later bq cg2
  replace zg := Nat.lt_of_lt_of_le zg bq.size
  replace cx0 := cell_later bq cx0
  replace cx1 := cell_later bq cx1
  replace cx2 := cell_later bq cx2
  replace zx := Nat.lt_of_lt_of_le zx bq.size
  replace rx1 := rx1.below bq
  replace rx2 := rx2.below bq
  replace ry2 := ry2.below bq
  replace hb := hb.trans (bq.mono hb.size)
  clear hc bq
  refine wpAnyH_take (i := 0) (v := (.agg #[.int .i64 W, .slice a2 n k2, .slice b2 m q2])) rfl (by as_aux_lemma => kernel_rfl) (by as_aux_lemma => kernel_rfl) (by as_aux_lemma => kernel_rfl) (fun _ _ _ h => h) (Or.inl ⟨by kernel_rfl, ?_⟩) hS ?_
  · intro w hSw; (try dsimp only at hSw); obtain ⟨hSb, hl0, hl1, hl2, hl3, hl4, hl5⟩ := hSw; go_simp
  (try simp only [Act.put, List.getElem_toArray, List.getElem_cons_zero, List.getElem_cons_succ, List.setIfInBounds_toArray, List.set_cons_zero, List.set_cons_succ])
  refine wpAnyH_take (i := 1) (v := (.agg #[.int .i64 W, .slice a n ca, .slice b m cb])) rfl (by as_aux_lemma => kernel_rfl) (by as_aux_lemma => kernel_rfl) (by as_aux_lemma => kernel_rfl) (fun _ _ _ h => h) (Or.inl ⟨by kernel_rfl, ?_⟩) hS ?_
  · intro w hSw; (try dsimp only at hSw); obtain ⟨hSb, hl0, hl1, hl2, hl3, hl4, hl5⟩ := hSw; go_simp
  (try simp only [Act.put, List.getElem_toArray, List.getElem_cons_zero, List.getElem_cons_succ, List.setIfInBounds_toArray, List.set_cons_zero, List.set_cons_succ])
  refine wpAnyH_ready (rs := [2]) (by as_aux_lemma => kernel_rfl) (by simp) ?_
  refine AllReadyH.cons rfl (fun K hK => ?_) AllReadyH.nil
  go_simp
  refine Calls.mono (toGrid_any W a b n m ca cb xs ys _ (ha.below hb) (hy.below hb) (by omega) (by omega)) ?_
  rintro e w7 ⟨a3, b3, k3, q3, rfl, rx3, ry3, hc⟩
  have s7 : D5.heap.size ≤ w7.heap.size := hc.size
  have bq := hc
  replace cg0 := cell_later bq cg0
  replace cg1 := cell_later bq cg1
  replace cg2 := cell_later bq cg2
  replace zg := Nat.lt_of_lt_of_le zg bq.size
  replace cx0 := cell_later bq cx0
  replace cx1 := cell_later bq cx1
  replace cx2 := cell_later bq cx2
  replace zx := Nat.lt_of_lt_of_le zx bq.size
  replace rx1 := rx1.below bq
  replace rx2 := rx2.below bq
  replace ry2 := ry2.below bq
  replace hb := hb.trans (bq.mono hb.size)
  clear hc bq
  refine hK.out _ _ (⟨hb, cg0, cg1, cg2, cx0, cx1, cx2⟩) (fun hS => ?_)
  clear hK K
  (try simp only [Act.put, List.getElem_toArray, List.getElem_cons_zero, List.getElem_cons_succ, List.setIfInBounds_toArray, List.set_cons_zero, List.set_cons_succ])
  refine wpAnyH_ready (rs := [3]) (by as_aux_lemma => kernel_rfl) (by simp) ?_
  refine AllReadyH.cons rfl (fun K hK => ?_) AllReadyH.nil
  go_simp
  refine Calls.mono (eqGrid_yes W a2 b2 a3 b3 n m k2 q2 k3 q3 xs ys _ rx2 rx3 ry2 ry3 (by omega) (by omega)) ?_
  rintro e w8 ⟨rfl, hc⟩
  have s8 : w7.heap.size ≤ w8.heap.size := hc.size
  have bq := hc
  replace cg0 := cell_later bq cg0
  replace cg1 := cell_later bq cg1
  replace cg2 := cell_later bq cg2
  replace zg := Nat.lt_of_lt_of_le zg bq.size
  replace cx0 := cell_later bq cx0
  replace cx1 := cell_later bq cx1
  replace cx2 := cell_later bq cx2
  replace zx := Nat.lt_of_lt_of_le zx bq.size
  replace rx1 := rx1.below bq
  replace rx2 := rx2.below bq
  replace ry2 := ry2.below bq
  replace hb := hb.trans (bq.mono hb.size)
  clear hc bq
  refine hK.out _ _ (⟨hb, cg0, cg1, cg2, cx0, cx1, cx2⟩) (fun hS => ?_)
  clear hK K
  (try simp only [Act.put, List.getElem_toArray, List.getElem_cons_zero, List.getElem_cons_succ, List.setIfInBounds_toArray, List.set_cons_zero, List.set_cons_succ])
  refine wpAnyH_take (i := 4) (v := (.bool false)) rfl (by as_aux_lemma => kernel_rfl) (by as_aux_lemma => kernel_rfl) (by as_aux_lemma => kernel_rfl) (fun _ _ _ h => h) (Or.inl ⟨by kernel_rfl, ?_⟩) hS ?_
  · intro w hSw; (try dsimp only at hSw); go_simp
  (try simp only [Act.put, List.getElem_toArray, List.getElem_cons_zero, List.getElem_cons_succ, List.setIfInBounds_toArray, List.set_cons_zero, List.set_cons_succ])
  refine wpAnyH_done (by kernel_rfl) ?_ _
  clear hS
  go_wp2
  go_ret
  exact ⟨rfl, hb⟩

theorem own : ownKnob Try.prog.godebug = none := by kernel_rfl
theorem laidOut : laidOutB Try.prog = true := by kernel_rfl

set_option maxRecDepth 100000 in
theorem lifted (os : Os) (started : os.Started) (H : Type) (enc : TypeId × Value → H) :
    ReturnsInHanded {} Try.checked os 9 .any (Rows.fnExactGridFaultSpec.pre6 enc Try.prog Try.f9 Rows.fnExactGridFaultRow.domain false) (Rows.fnExactGridFaultSpec.post enc Try.prog Try.f9 false true false false) := by
  refine returnsInHanded_of_change (C := Try.checked) own started (by kernel_rfl) Try.func9
    (ChangeSpec.witness6 (enc := enc) (C := Try.checked) false ⟨#[], #[.agg #[.int .i64 0, .slice none 0 0, .slice none 0 0]], []⟩ 8 (by kernel_rfl) (by kernel_rfl) (by kernel_rfl) (by kernel_rfl)) ?_
  intro W base args ds gs before hval0 hW hcnd _
  have hval : ∀ (j : Nat) t v, Try.f9.params[j]? = some t → args[j]? = some v → Value.okWide Try.prog W .any base t v := hval0
  have hW' := hW
  obtain ⟨p, q, hA0, hV, rfl, hfz, hnd⟩ := hW
  have hA : DataW.TrodAll enc Try.prog W 0 (fun _ => true) true Try.f9.params.toList args.toList ds p := hA0
  rw [Try.params9] at hA hval
  obtain ⟨v0, d0, rfl, rfl, h0⟩ := trodAll_one hA
  obtain ⟨rfl, rfl⟩ := trodVars_none hV
  have k0 := h0
  have lt0 : ∀ x ∈ p, x.block < W.heap.size := by obtain ⟨m, hm⟩ := k0; exact DataW.trod_lt m _ _ _ hm
  obtain ⟨W0, a0, b0, ca0, cb0, xs0, ys0, rfl, hI1, hr0, q1, q2, hs0, q3, q4⟩ := open_grid (hval 0 68 v0 rfl rfl) h0
  clear hA0 hval0
  refine (walk W0 a0 b0 xs0.length ys0.length ca0 cb0 xs0 ys0 W hr0 hs0 (by omega) (by omega)).mono fun e W' ⟨he, bel⟩ => ?_
  subst he
  exact ⟨_, rfl, _, _, _, [], _, [], hW', trodAll_mk1 (shut_bool Try.underlying4 _), trodAll_mk1 (Below.trod laidOut (by kernel_rfl) (of_decide_eq_true (by kernel_rfl)) k0 bel lt0), rfl, bel.frame _, fun h => by cases h⟩

theorem proved : Rows.FnExactGridFaultSaid :=
  OpenClaim.holds_of_wide 9 Try.f9 rfl rfl rfl rfl rfl rfl rfl ⟨rfl, rfl, rfl, rfl, rfl⟩ rfl rfl rfl rfl rfl (by kernel_rfl) Try.func9 (by kernel_rfl)
    (of_decide_eq_true (by kernel_rfl)) (by unfold Func.isWrapper; first | (rw [if_pos (by decide +kernel)]; kernel_rfl) | (rw [if_neg (by decide +kernel)]; exact ⟨rfl, rfl⟩))
    (fun os started H enc _ => lifted os started H enc)
end Go.Proofs.Ytjgmkcmlkffjlaa.fnExactGridFault
namespace Go.Proofs.Ytjgmkcmlkffjlaa
theorem fnExactGridFault_proved : Rows.FnExactGridFaultSaid := fnExactGridFault.proved
end Go.Proofs.Ytjgmkcmlkffjlaa
