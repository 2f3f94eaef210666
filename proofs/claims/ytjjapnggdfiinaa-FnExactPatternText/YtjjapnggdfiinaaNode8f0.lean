/-
  Chapter 5: the program's text of a tree.
-/
import Derived.Test.YtjjapnggdfiinaaNode8d
namespace Go.Proofs.Ytjjapnggdfiinaa
open Go.RowKit
set_option linter.unusedVariables false
set_option linter.unusedSimpArgs false

theorem beq_dec (x y : Int) : (x == y) = decide (x = y) := by by_cases h : x = y <;> simp [h]

theorem wants_eq (up kind : Int) (l r : Int) (right : Bool) (h : up = 11 ∨ up = 12 → decide (l = r) = right) (hup : 8 ≤ up ∧ up ≤ 12) : wantsB up kind (decide (l = r)) = wantsB up kind right := by
  unfold wantsB
  by_cases h12 : up = 12
  · rw [if_pos h12, if_pos h12, h (.inr h12)]
  · rw [if_neg h12, if_neg h12]
    by_cases h11 : up = 11
    · rw [if_pos h11, if_pos h11, h (.inl h11)]
    · rw [if_neg h11, if_neg h11]

set_option maxHeartbeats 3200000 in
set_option maxRecDepth 20000 in
theorem textWithin_any (o : Nd) (a : Option Addr) (n ca : Nat) (cs : List Nd) (i : Nat) (x : Nd) (t : ByteArray) (right : Bool) (w : World) (ha : RdR ndE 5 w a n cs) (hx : cs[i]? = some x) (hi : i < n) (h1 : n ≤ 1048576)
    (hup : 8 ≤ o.k ∧ o.k ≤ 12) (hri : o.k = 11 ∨ o.k = 12 → decide ((i : Int) = o.r) = right) (ht : t.size ≤ 5000000000000)
    (hT : ∀ w', RdR ndE 5 w' a n cs → Calls Try.prog 42 #[.slice a n ca, .int .i64 i] w' fun e w'' => e = .returned (.string t) ∧ Below w'.heap.size w' w'') :
    Calls Try.prog 72 #[.agg #[.int .i64 o.k, .int .i64 o.c, .string o.s, .int .i64 o.l, .int .i64 o.r], .slice a n ca, .int .i64 i] w fun e w' => e = .returned (.string (wrapT o.k right (t, x.k))) ∧ Below w.heap.size w w' := by
  have hlt : (i : Int) < (n : Int) := by omega
  have HT : Hid _ := hT
  have HA : Hid (RdR ndE 5 w a n cs) := ha
  have HX : Hid _ := hx
  obtain ⟨R, hR⟩ : ∃ R, R = wrapT o.k right (t, x.k) := ⟨_, rfl⟩
  rw [← hR]
  unfold wrapT parT at hR
  simp only at hR
  rw [← wants_eq o.k x.k i o.r right hri hup] at hR
  obtain ⟨q, hq⟩ : ∃ q, q = decide ((i : Int) = o.r) := ⟨_, rfl⟩
  rw [← hq] at hR
  have CW : Hid _ := fun w' => wantsPar_any o x.k q w' hup
  obtain ⟨W, hW⟩ : ∃ W, W = wantsB o.k x.k q := ⟨_, rfl⟩
  rw [← hW] at CW hR
  have HR : Hid _ := hR
  have HQ : Hid _ := hq
  have B1 : ∀ o', Below w.heap.size w (w.alloc o') := fun o' => (Below.refl _ _).alloc (Nat.le_refl _) o'
  clear hR hT hx ha hri hup hW hq
  obtain ⟨k', c', s', l', r'⟩ := o
  simp only at CW HQ ⊢
  go_enter Try.func72, Try.ntmps72
  go_wp2_with fail
  refine Calls.mono (HT.out _ (by exact RdR.below HA.out (B1 _))) ?_
  rintro e w1 ⟨rfl, hb1⟩
  have d0 : w1.cell? ⟨w.heap.size, 0, none⟩ = some (.int .i64 k') := cell_later hb1 (by simp [go_sem])
  have d1 : w1.cell? ⟨w.heap.size, 1, none⟩ = some (.int .i64 c') := cell_later hb1 (by simp [go_sem])
  have d2 : w1.cell? ⟨w.heap.size, 2, none⟩ = some (.string s') := cell_later hb1 (by simp [go_sem])
  have d3 : w1.cell? ⟨w.heap.size, 3, none⟩ = some (.int .i64 l') := cell_later hb1 (by simp [go_sem])
  have d4 : w1.cell? ⟨w.heap.size, 4, none⟩ = some (.int .i64 r') := cell_later hb1 (by simp [go_sem])
  have hb01 := below_slot hb1
  have hz1 : w.heap.size < w1.heap.size := by have := hb1.size; simp at this; omega
  clear hb1
  obtain ⟨b, off, y, rfl, hy, hc⟩ := (RdR.below HA.out hb01).at hi
  obtain rfl : x = y := by have h := HX.out; rw [h] at hy; simpa using hy
  have k0 := (five hc).1
  clear hy hc
  obtain ⟨xk, xc, xs, xl, xr⟩ := x
  simp only at k0 CW
  go_wp2_with fail
  obtain ⟨lv, hlv⟩ : ∃ lv, lv = w1.heap.size := ⟨_, rfl⟩
  clear hlv lv
  refine wp_region_held_drew (S := fun w' => w'.cell? ⟨w.heap.size, 0, none⟩ = some (.int .i64 (k')) ∧ w'.cell? ⟨w.heap.size, 1, none⟩ = some (.int .i64 (c')) ∧ w'.cell? ⟨w.heap.size, 2, none⟩ = some (.string s') ∧ w'.cell? ⟨w.heap.size, 3, none⟩ = some (.int .i64 (l')) ∧ w'.cell? ⟨w.heap.size, 4, none⟩ = some (.int .i64 (r')) ∧ w'.cell? ⟨b, off + i * 5, none⟩ = some (.int .i64 xk) ∧ Below w1.heap.size w1 w') (by kernel_rfl) (by exact ⟨d0, d1, d2, d3, d4, k0, (Below.refl _ _).drew⟩) (fun hS => ?_)
  refine wpAnyH_take (i := 0) (v := (.agg #[.int .i64 k', .int .i64 c', .string s', .int .i64 l', .int .i64 r'])) rfl (by as_aux_lemma => kernel_rfl) (by as_aux_lemma => kernel_rfl) (by as_aux_lemma => kernel_rfl) (fun _ _ _ h => h) (Or.inl ⟨by kernel_rfl, ?_⟩) hS ?_
  · intro w hSw; (try dsimp only at hSw); go_simp; all_goals first | rfl | (rw [HQ.out]; exact beq_dec _ _)
  simp only [Act.put, List.getElem_toArray, List.getElem_cons_zero, List.getElem_cons_succ, List.setIfInBounds_toArray, List.set_cons_zero, List.set_cons_succ]
  refine wpAnyH_take (i := 1) (v := (.slice (some ⟨b, off, none⟩) n ca)) rfl (by as_aux_lemma => kernel_rfl) (by as_aux_lemma => kernel_rfl) (by as_aux_lemma => kernel_rfl) (fun _ _ _ h => h) (Or.inl ⟨by kernel_rfl, ?_⟩) hS ?_
  · intro w hSw; (try dsimp only at hSw); go_simp; all_goals first | rfl | (rw [HQ.out]; exact beq_dec _ _)
  simp only [Act.put, List.getElem_toArray, List.getElem_cons_zero, List.getElem_cons_succ, List.setIfInBounds_toArray, List.set_cons_zero, List.set_cons_succ]
  refine wpAnyH_take (i := 2) (v := (.int .i64 (i : Int))) rfl (by as_aux_lemma => kernel_rfl) (by as_aux_lemma => kernel_rfl) (by as_aux_lemma => kernel_rfl) (fun _ _ _ h => h) (Or.inl ⟨by kernel_rfl, ?_⟩) hS ?_
  · intro w hSw; (try dsimp only at hSw); go_simp; all_goals first | rfl | (rw [HQ.out]; exact beq_dec _ _)
  simp only [Act.put, List.getElem_toArray, List.getElem_cons_zero, List.getElem_cons_succ, List.setIfInBounds_toArray, List.set_cons_zero, List.set_cons_succ]
  refine wpAnyH_take (i := 3) (v := (.pointer (some ⟨b, off + i * 5, none⟩))) rfl (by as_aux_lemma => kernel_rfl) (by as_aux_lemma => kernel_rfl) (by as_aux_lemma => kernel_rfl) (fun _ _ _ h => h) (Or.inl ⟨by kernel_rfl, ?_⟩) hS ?_
  · intro w hSw; (try dsimp only at hSw); go_simp; all_goals first | rfl | (rw [HQ.out]; exact beq_dec _ _)
  simp only [Act.put, List.getElem_toArray, List.getElem_cons_zero, List.getElem_cons_succ, List.setIfInBounds_toArray, List.set_cons_zero, List.set_cons_succ]
  refine wpAnyH_take (i := 4) (v := (.pointer (some ⟨b, off + i * 5, none⟩))) rfl (by as_aux_lemma => kernel_rfl) (by as_aux_lemma => kernel_rfl) (by as_aux_lemma => kernel_rfl) (fun _ _ _ h => h) (Or.inl ⟨by kernel_rfl, ?_⟩) hS ?_
  · intro w hSw; (try dsimp only at hSw); go_simp; all_goals first | rfl | (rw [HQ.out]; exact beq_dec _ _)
  simp only [Act.put, List.getElem_toArray, List.getElem_cons_zero, List.getElem_cons_succ, List.setIfInBounds_toArray, List.set_cons_zero, List.set_cons_succ]
  refine wpAnyH_take (i := 5) (v := (.int .i64 xk)) rfl (by as_aux_lemma => kernel_rfl) (by as_aux_lemma => kernel_rfl) (by as_aux_lemma => kernel_rfl) (fun _ _ _ h => h) (Or.inl ⟨by kernel_rfl, ?_⟩) hS ?_
  · intro w hSw; (try dsimp only at hSw); go_simp; all_goals first | rfl | (rw [HQ.out]; exact beq_dec _ _)
  simp only [Act.put, List.getElem_toArray, List.getElem_cons_zero, List.getElem_cons_succ, List.setIfInBounds_toArray, List.set_cons_zero, List.set_cons_succ]
  refine wpAnyH_take (i := 6) (v := (.int .i64 (i : Int))) rfl (by as_aux_lemma => kernel_rfl) (by as_aux_lemma => kernel_rfl) (by as_aux_lemma => kernel_rfl) (fun _ _ _ h => h) (Or.inl ⟨by kernel_rfl, ?_⟩) hS ?_
  · intro w hSw; (try dsimp only at hSw); go_simp; all_goals first | rfl | (rw [HQ.out]; exact beq_dec _ _)
  simp only [Act.put, List.getElem_toArray, List.getElem_cons_zero, List.getElem_cons_succ, List.setIfInBounds_toArray, List.set_cons_zero, List.set_cons_succ]
  refine wpAnyH_take (i := 7) (v := (.pointer (some ⟨w.heap.size, 4, none⟩))) rfl (by as_aux_lemma => kernel_rfl) (by as_aux_lemma => kernel_rfl) (by as_aux_lemma => kernel_rfl) (fun _ _ _ h => h) (Or.inl ⟨by kernel_rfl, ?_⟩) hS ?_
  · intro w hSw; (try dsimp only at hSw); go_simp; all_goals first | rfl | (rw [HQ.out]; exact beq_dec _ _)
  simp only [Act.put, List.getElem_toArray, List.getElem_cons_zero, List.getElem_cons_succ, List.setIfInBounds_toArray, List.set_cons_zero, List.set_cons_succ]
  refine wpAnyH_take (i := 8) (v := (.int .i64 (r'))) rfl (by as_aux_lemma => kernel_rfl) (by as_aux_lemma => kernel_rfl) (by as_aux_lemma => kernel_rfl) (fun _ _ _ h => h) (Or.inl ⟨by kernel_rfl, ?_⟩) hS ?_
  · intro w hSw; (try dsimp only at hSw); go_simp; all_goals first | rfl | (rw [HQ.out]; exact beq_dec _ _)
  simp only [Act.put, List.getElem_toArray, List.getElem_cons_zero, List.getElem_cons_succ, List.setIfInBounds_toArray, List.set_cons_zero, List.set_cons_succ]
  refine wpAnyH_take (i := 9) (v := (.bool q)) rfl (by as_aux_lemma => kernel_rfl) (by as_aux_lemma => kernel_rfl) (by as_aux_lemma => kernel_rfl) (fun _ _ _ h => h) (Or.inl ⟨by kernel_rfl, ?_⟩) hS ?_
  · intro w hSw; (try dsimp only at hSw); go_simp; all_goals first | rfl | (rw [HQ.out]; exact beq_dec _ _)
  simp only [Act.put, List.getElem_toArray, List.getElem_cons_zero, List.getElem_cons_succ, List.setIfInBounds_toArray, List.set_cons_zero, List.set_cons_succ]
  refine wpAnyH_ready (rs := [10]) (by as_aux_lemma => kernel_rfl) (by simp) ?_
  refine AllReadyH.cons rfl (fun K hK => ?_) AllReadyH.nil
  go_simp
  refine Calls.mono (CW.out _) ?_
  rintro e v' ⟨rfl, hv'⟩
  refine hK.out _ _ ⟨cell_later hv' hS.1, cell_later hv' hS.2.1, cell_later hv' hS.2.2.1, cell_later hv' hS.2.2.2.1, cell_later hv' hS.2.2.2.2.1, cell_later hv' hS.2.2.2.2.2.1, hS.2.2.2.2.2.2.trans (hv'.mono hS.2.2.2.2.2.2.size)⟩ (fun hS => ?_)
  clear hK K hv'
  refine wpAnyH_done (by kernel_rfl) ?_ _
  have hfin := hS.2.2.2.2.2.2
  clear hS
  cases W
  · have hr2 : R = t := HR.out
    subst hr2
    go_wp2
    go_ret
    exact ⟨rfl, hb01.trans (hfin.mono hb01.size)⟩
  · have hr2 : R = (⟨#[40]⟩ : ByteArray) ++ t ++ (⟨#[41]⟩ : ByteArray) := HR.out
    subst hr2
    go_wp2
    go_ret
    exact ⟨rfl, hb01.trans (hfin.mono hb01.size)⟩
end Go.Proofs.Ytjjapnggdfiinaa
