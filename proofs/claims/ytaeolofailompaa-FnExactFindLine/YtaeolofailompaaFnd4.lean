/-
  Chapter 9's program: the lines that have a pattern, and FindLine.
-/
import Derived.Test.YtaeolofailompaaFnd3
import Derived.Test.YtaeolofailompaaHas1
import Derived.Test.YtaeolofailompaaLines4
namespace Go.Proofs.Ytaeolofailompaa
open Go.RowKit
set_option linter.unusedVariables false
set_option linter.unusedSimpArgs false

set_option maxRecDepth 10000 in
set_option maxHeartbeats 3200000 in
theorem hitOne_any (bp bf : Nat) (pa : Option Addr) (pn pc : Nat) (is : List In) (a : Option Addr) (n ca f z : Nat) (xs : List Int) (w : World) (hpr : RdR inE 8 w pa pn is) (hin : Inside is) (hp1 : 1 ≤ pn) (hp2 : pn ≤ 80)
    (cP0 : w.cell? ⟨bp, 0, none⟩ = some (.slice pa pn pc)) (cF0 : w.cell? ⟨bf, 0, none⟩ = some (.slice a n ca)) (ha : Rd .u8 w a n xs) (hB : Bytes xs) (h1 : n ≤ 400) (hca : n ≤ ca) (hcm : ca ≤ maxLen) (hfz : f + z ≤ n) :
    Calls Try.prog 145 #[.agg #[.int .i64 (f : Int), .int .i64 (z : Int)], .pointer (some ⟨bp, 0, none⟩), .pointer (some ⟨bf, 0, none⟩)] w fun e w' => e = .returned (.bool (hasV is (cutOf xs ((f : Int), (z : Int))))) ∧ Below w.heap.size w w' := by
  have hlen := ha.1
  have zP := World.block_lt_of_cell? _ _ cP0
  have zF := World.block_lt_of_cell? _ _ cF0
  simp only at zP zF
  have hcut : cutOf xs ((f : Int), (z : Int)) = (xs.drop f).take z := by simp [cutOf]
  have hsz : Bytes ((xs.drop f).take z) := by rw [← hcut]; exact cutOf_bytes9 hB _
  have D := fun A CA w' h h2 => isDoneIn_any pa pn pc is A z CA ((xs.drop f).take z) hin hp1 hp2 (by omega) hsz w' h h2
  rw [← hcut] at D
  generalize hq : hasV is (cutOf xs ((f : Int), (z : Int))) = q at *
  rw [hcut] at D
  have HD : Hid _ := D
  unfold maxLen at hcm
  have hf4 : f ≤ 400 := by omega
  have hz4 : z ≤ 400 := by omega
  have hfc : f + z ≤ ca := by omega
  have hwz : IntKind.i64.wrap ((f : Int) + (z : Int)) = (f : Int) + (z : Int) := by rw [IntKind.wrap_i64] <;> omega
  have hcA : 0 ≤ (f : Int) + (z : Int) := by omega
  have hcB : (f : Int) + (z : Int) ≤ (ca : Int) := by omega
  have hcC : ((f : Int) + (z : Int)).toNat = f + z := by omega
  have hcD : f ≤ f + z := by omega
  clear D hq hcut hsz hB
  by_cases hcf : ca = f
  · have hz0 : z = 0 := by omega
    subst hz0
    subst hcf
    have hwc : IntKind.i64.wrap (ca : Int) = (ca : Int) := by rw [IntKind.wrap_i64] <;> omega
    have HC := hid (show 0 < 0 → ∀ g off, a = some ⟨g, off, none⟩ → a = some ⟨g, off + ca, none⟩ from fun h => absurd h (by omega))
    have hb : Below w.heap.size w w := Below.refl _ _
    go_enter Try.func145, Try.ntmps145
    go_wp2_with fail
    have bp : ∀ o0, Below w.heap.size w (w.alloc o0) := fun o0 => (Below.refl _ _).alloc (Nat.le_refl _) o0
    have hbt : ∀ o0, Below w.heap.size w (w.alloc o0) := fun o0 => hb.trans ((bp o0).mono hb.size)
    obtain ⟨w1, hw1⟩ : ∃ x, (w.alloc (.cells #[.int .i64 (ca : Int), .int .i64 (0 : Int)] 202)) = x := ⟨_, rfl⟩
    have hc : Below ((w.alloc (.cells #[.int .i64 (ca : Int), .int .i64 (0 : Int)] 202))).heap.size ((w.alloc (.cells #[.int .i64 (ca : Int), .int .i64 (0 : Int)] 202))) w1 := hw1 ▸ Below.refl _ _
    have s1 : w.heap.size + 1 ≤ w1.heap.size := by have := hc.size; simp at this; omega
    have bq : Below w.heap.size w w1 := (bp _).trans (hc.mono (bp _).size)
    replace cP0 := cell_later bq cP0
    replace zP := Nat.lt_of_lt_of_le zP bq.size
    replace cF0 := cell_later bq cF0
    replace zF := Nat.lt_of_lt_of_le zF bq.size
    have cL0 : w1.cell? ⟨w.heap.size, 0, none⟩ = some (.int .i64 (ca : Int)) := cell_later hc (by simp [go_sem])
    have cL1 : w1.cell? ⟨w.heap.size, 1, none⟩ = some (.int .i64 (0 : Int)) := cell_later hc (by simp [go_sem])
    have zL : w.heap.size < w1.heap.size := by omega
    replace hb := hb.trans (bq.mono hb.size)
    clear hc bq bp hbt
    rw [hw1]
    clear hw1
    have bd : Below w1.heap.size w1 w1.drew := (Below.refl _ _).drew
    refine wp_region_held_drew (S := fun w' => Below w.heap.size w w' ∧ w'.cell? ⟨bf, 0, none⟩ = some (.slice a n ca) ∧ w'.cell? ⟨w.heap.size, 0, none⟩ = some (.int .i64 (ca : Int)) ∧ w'.cell? ⟨w.heap.size, 1, none⟩ = some (.int .i64 (0 : Int)) ∧ w'.cell? ⟨bp, 0, none⟩ = some (.slice pa pn pc)) (by kernel_rfl) ⟨(hb.trans (bd.mono hb.size)), cell_later bd cF0, cell_later bd cL0, cell_later bd cL1, cell_later bd cP0⟩ (fun hS => ?_)
    obtain ⟨D1, hD⟩ : ∃ D, w1.drew = D := ⟨_, rfl⟩
    rw [hD] at hS bd ⊢
    have hc := bd
    clear hD bd
    have s2 : w1.heap.size ≤ D1.heap.size := hc.size
    have bq := hc
    replace cP0 := cell_later bq cP0
    replace zP := Nat.lt_of_lt_of_le zP bq.size
    replace cF0 := cell_later bq cF0
    replace zF := Nat.lt_of_lt_of_le zF bq.size
    replace cL0 := cell_later bq cL0
    replace cL1 := cell_later bq cL1
    replace zL := Nat.lt_of_lt_of_le zL bq.size
    replace hb := hb.trans (bq.mono hb.size)
    clear hc bq
    refine wpAnyH_take (i := 0) (v := (.slice pa pn pc)) rfl (by as_aux_lemma => kernel_rfl) (by as_aux_lemma => kernel_rfl) (by as_aux_lemma => kernel_rfl) (fun _ _ _ h => h) (Or.inl ⟨by kernel_rfl, ?_⟩) hS ?_
    · intro w hSw; (try dsimp only at hSw); obtain ⟨hSb, hl0, hl1, hl2, hl3⟩ := hSw; go_simp
    (try simp only [Act.put, List.getElem_toArray, List.getElem_cons_zero, List.getElem_cons_succ, List.setIfInBounds_toArray, List.set_cons_zero, List.set_cons_succ])
    refine wpAnyH_take (i := 1) (v := (.pointer (some ⟨bf, 0, none⟩))) rfl (by as_aux_lemma => kernel_rfl) (by as_aux_lemma => kernel_rfl) (by as_aux_lemma => kernel_rfl) (fun _ _ _ h => h) (Or.inl ⟨by kernel_rfl, ?_⟩) hS ?_
    · intro w hSw; (try dsimp only at hSw); go_simp
    (try simp only [Act.put, List.getElem_toArray, List.getElem_cons_zero, List.getElem_cons_succ, List.setIfInBounds_toArray, List.set_cons_zero, List.set_cons_succ])
    refine wpAnyH_take (i := 2) (v := (.slice a n ca)) rfl (by as_aux_lemma => kernel_rfl) (by as_aux_lemma => kernel_rfl) (by as_aux_lemma => kernel_rfl) (fun _ _ _ h => h) (Or.inl ⟨by kernel_rfl, ?_⟩) hS ?_
    · intro w hSw; (try dsimp only at hSw); obtain ⟨hSb, hl0, hl1, hl2, hl3⟩ := hSw; go_simp
    (try simp only [Act.put, List.getElem_toArray, List.getElem_cons_zero, List.getElem_cons_succ, List.setIfInBounds_toArray, List.set_cons_zero, List.set_cons_succ])
    refine wpAnyH_take (i := 3) (v := (.pointer (some ⟨w.heap.size, 0, none⟩))) rfl (by as_aux_lemma => kernel_rfl) (by as_aux_lemma => kernel_rfl) (by as_aux_lemma => kernel_rfl) (fun _ _ _ h => h) (Or.inl ⟨by kernel_rfl, ?_⟩) hS ?_
    · intro w hSw; (try dsimp only at hSw); go_simp
    (try simp only [Act.put, List.getElem_toArray, List.getElem_cons_zero, List.getElem_cons_succ, List.setIfInBounds_toArray, List.set_cons_zero, List.set_cons_succ])
    refine wpAnyH_take (i := 4) (v := (.int .i64 (ca : Int))) rfl (by as_aux_lemma => kernel_rfl) (by as_aux_lemma => kernel_rfl) (by as_aux_lemma => kernel_rfl) (fun _ _ _ h => h) (Or.inl ⟨by kernel_rfl, ?_⟩) hS ?_
    · intro w hSw; (try dsimp only at hSw); obtain ⟨hSb, hl0, hl1, hl2, hl3⟩ := hSw; go_simp
    (try simp only [Act.put, List.getElem_toArray, List.getElem_cons_zero, List.getElem_cons_succ, List.setIfInBounds_toArray, List.set_cons_zero, List.set_cons_succ])
    refine wpAnyH_take (i := 5) (v := (.pointer (some ⟨w.heap.size, 0, none⟩))) rfl (by as_aux_lemma => kernel_rfl) (by as_aux_lemma => kernel_rfl) (by as_aux_lemma => kernel_rfl) (fun _ _ _ h => h) (Or.inl ⟨by kernel_rfl, ?_⟩) hS ?_
    · intro w hSw; (try dsimp only at hSw); go_simp
    (try simp only [Act.put, List.getElem_toArray, List.getElem_cons_zero, List.getElem_cons_succ, List.setIfInBounds_toArray, List.set_cons_zero, List.set_cons_succ])
    refine wpAnyH_take (i := 6) (v := (.int .i64 (ca : Int))) rfl (by as_aux_lemma => kernel_rfl) (by as_aux_lemma => kernel_rfl) (by as_aux_lemma => kernel_rfl) (fun _ _ _ h => h) (Or.inl ⟨by kernel_rfl, ?_⟩) hS ?_
    · intro w hSw; (try dsimp only at hSw); obtain ⟨hSb, hl0, hl1, hl2, hl3⟩ := hSw; go_simp
    (try simp only [Act.put, List.getElem_toArray, List.getElem_cons_zero, List.getElem_cons_succ, List.setIfInBounds_toArray, List.set_cons_zero, List.set_cons_succ])
    refine wpAnyH_take (i := 7) (v := (.pointer (some ⟨w.heap.size, 1, none⟩))) rfl (by as_aux_lemma => kernel_rfl) (by as_aux_lemma => kernel_rfl) (by as_aux_lemma => kernel_rfl) (fun _ _ _ h => h) (Or.inl ⟨by kernel_rfl, ?_⟩) hS ?_
    · intro w hSw; (try dsimp only at hSw); go_simp
    (try simp only [Act.put, List.getElem_toArray, List.getElem_cons_zero, List.getElem_cons_succ, List.setIfInBounds_toArray, List.set_cons_zero, List.set_cons_succ])
    refine wpAnyH_take (i := 8) (v := (.int .i64 (0 : Int))) rfl (by as_aux_lemma => kernel_rfl) (by as_aux_lemma => kernel_rfl) (by as_aux_lemma => kernel_rfl) (fun _ _ _ h => h) (Or.inl ⟨by kernel_rfl, ?_⟩) hS ?_
    · intro w hSw; (try dsimp only at hSw); obtain ⟨hSb, hl0, hl1, hl2, hl3⟩ := hSw; go_simp
    (try simp only [Act.put, List.getElem_toArray, List.getElem_cons_zero, List.getElem_cons_succ, List.setIfInBounds_toArray, List.set_cons_zero, List.set_cons_succ])
    refine wpAnyH_take (i := 9) (v := (.int .i64 ((ca : Int) + (0 : Int)))) rfl (by as_aux_lemma => kernel_rfl) (by as_aux_lemma => kernel_rfl) (by as_aux_lemma => kernel_rfl) (fun _ _ _ h => h) (Or.inl ⟨by kernel_rfl, ?_⟩) hS ?_
    · intro w hSw; (try dsimp only at hSw); go_simp
    (try simp only [Act.put, List.getElem_toArray, List.getElem_cons_zero, List.getElem_cons_succ, List.setIfInBounds_toArray, List.set_cons_zero, List.set_cons_succ])
    refine wpAnyH_take (i := 10) (v := (.slice a 0 0)) rfl (by as_aux_lemma => kernel_rfl) (by as_aux_lemma => kernel_rfl) (by as_aux_lemma => kernel_rfl) (fun _ _ _ h => h) (Or.inl ⟨by kernel_rfl, ?_⟩) hS ?_
    · intro w hSw; (try dsimp only at hSw); go_simp
    (try simp only [Act.put, List.getElem_toArray, List.getElem_cons_zero, List.getElem_cons_succ, List.setIfInBounds_toArray, List.set_cons_zero, List.set_cons_succ])
    refine wpAnyH_ready (rs := [11]) (by as_aux_lemma => kernel_rfl) (by simp) ?_
    refine AllReadyH.cons rfl (fun K hK => ?_) AllReadyH.nil
    go_simp
    refine Calls.mono (HD.out _ _ _ (hpr.below hb) ((ha.below hb).cut ca 0 hfz _ HC.out)) ?_
    rintro e w3 ⟨rfl, hc⟩
    have s3 : D1.heap.size ≤ w3.heap.size := hc.size
    have bq := hc
    replace cP0 := cell_later bq cP0
    replace zP := Nat.lt_of_lt_of_le zP bq.size
    replace cF0 := cell_later bq cF0
    replace zF := Nat.lt_of_lt_of_le zF bq.size
    replace cL0 := cell_later bq cL0
    replace cL1 := cell_later bq cL1
    replace zL := Nat.lt_of_lt_of_le zL bq.size
    replace hb := hb.trans (bq.mono hb.size)
    clear hc bq
    refine hK.out _ _ (⟨hb, cF0, cL0, cL1, cP0⟩) (fun hS => ?_)
    clear hK K
    (try simp only [Act.put, List.getElem_toArray, List.getElem_cons_zero, List.getElem_cons_succ, List.setIfInBounds_toArray, List.set_cons_zero, List.set_cons_succ])
    refine wpAnyH_take (i := 12) (v := (.bool q)) rfl (by as_aux_lemma => kernel_rfl) (by as_aux_lemma => kernel_rfl) (by as_aux_lemma => kernel_rfl) (fun _ _ _ h => h) (Or.inl ⟨by kernel_rfl, ?_⟩) hS ?_
    · intro w hSw; (try dsimp only at hSw); go_simp
    (try simp only [Act.put, List.getElem_toArray, List.getElem_cons_zero, List.getElem_cons_succ, List.setIfInBounds_toArray, List.set_cons_zero, List.set_cons_succ])
    refine wpAnyH_done (by kernel_rfl) ?_ _
    clear hS
    go_wp2
    go_ret
    exact ⟨rfl, hb⟩
  · have hcg : 0 < ca - f := by omega
    rcases a with _ | ⟨g, off, sub⟩
    · have hn0 : n = 0 := by
        rcases ha.2 with h | ⟨b1, o1, h, -⟩
        · exact h
        · cases h
      have HC := hid (show 0 < z → ∀ g off, (none : Option Addr) = some ⟨g, off, none⟩ → (none : Option Addr) = some ⟨g, off + f, none⟩ from fun h => absurd h (by omega))
      have hb : Below w.heap.size w w := Below.refl _ _
      go_enter Try.func145, Try.ntmps145
      go_wp2_with fail
      have bp : ∀ o0, Below w.heap.size w (w.alloc o0) := fun o0 => (Below.refl _ _).alloc (Nat.le_refl _) o0
      have hbt : ∀ o0, Below w.heap.size w (w.alloc o0) := fun o0 => hb.trans ((bp o0).mono hb.size)
      obtain ⟨w1, hw1⟩ : ∃ x, (w.alloc (.cells #[.int .i64 (f : Int), .int .i64 (z : Int)] 202)) = x := ⟨_, rfl⟩
      have hc : Below ((w.alloc (.cells #[.int .i64 (f : Int), .int .i64 (z : Int)] 202))).heap.size ((w.alloc (.cells #[.int .i64 (f : Int), .int .i64 (z : Int)] 202))) w1 := hw1 ▸ Below.refl _ _
      have s1 : w.heap.size + 1 ≤ w1.heap.size := by have := hc.size; simp at this; omega
      have bq : Below w.heap.size w w1 := (bp _).trans (hc.mono (bp _).size)
      replace cP0 := cell_later bq cP0
      replace zP := Nat.lt_of_lt_of_le zP bq.size
      replace cF0 := cell_later bq cF0
      replace zF := Nat.lt_of_lt_of_le zF bq.size
      have cL0 : w1.cell? ⟨w.heap.size, 0, none⟩ = some (.int .i64 (f : Int)) := cell_later hc (by simp [go_sem])
      have cL1 : w1.cell? ⟨w.heap.size, 1, none⟩ = some (.int .i64 (z : Int)) := cell_later hc (by simp [go_sem])
      have zL : w.heap.size < w1.heap.size := by omega
      replace hb := hb.trans (bq.mono hb.size)
      clear hc bq bp hbt
      rw [hw1]
      clear hw1
      have bd : Below w1.heap.size w1 w1.drew := (Below.refl _ _).drew
      refine wp_region_held_drew (S := fun w' => Below w.heap.size w w' ∧ w'.cell? ⟨bf, 0, none⟩ = some (.slice none n ca) ∧ w'.cell? ⟨w.heap.size, 0, none⟩ = some (.int .i64 (f : Int)) ∧ w'.cell? ⟨w.heap.size, 1, none⟩ = some (.int .i64 (z : Int)) ∧ w'.cell? ⟨bp, 0, none⟩ = some (.slice pa pn pc)) (by kernel_rfl) ⟨(hb.trans (bd.mono hb.size)), cell_later bd cF0, cell_later bd cL0, cell_later bd cL1, cell_later bd cP0⟩ (fun hS => ?_)
      obtain ⟨D1, hD⟩ : ∃ D, w1.drew = D := ⟨_, rfl⟩
      rw [hD] at hS bd ⊢
      have hc := bd
      clear hD bd
      have s2 : w1.heap.size ≤ D1.heap.size := hc.size
      have bq := hc
      replace cP0 := cell_later bq cP0
      replace zP := Nat.lt_of_lt_of_le zP bq.size
      replace cF0 := cell_later bq cF0
      replace zF := Nat.lt_of_lt_of_le zF bq.size
      replace cL0 := cell_later bq cL0
      replace cL1 := cell_later bq cL1
      replace zL := Nat.lt_of_lt_of_le zL bq.size
      replace hb := hb.trans (bq.mono hb.size)
      clear hc bq
      refine wpAnyH_take (i := 0) (v := (.slice pa pn pc)) rfl (by as_aux_lemma => kernel_rfl) (by as_aux_lemma => kernel_rfl) (by as_aux_lemma => kernel_rfl) (fun _ _ _ h => h) (Or.inl ⟨by kernel_rfl, ?_⟩) hS ?_
      · intro w hSw; (try dsimp only at hSw); obtain ⟨hSb, hl0, hl1, hl2, hl3⟩ := hSw; go_simp
      (try simp only [Act.put, List.getElem_toArray, List.getElem_cons_zero, List.getElem_cons_succ, List.setIfInBounds_toArray, List.set_cons_zero, List.set_cons_succ])
      refine wpAnyH_take (i := 1) (v := (.pointer (some ⟨bf, 0, none⟩))) rfl (by as_aux_lemma => kernel_rfl) (by as_aux_lemma => kernel_rfl) (by as_aux_lemma => kernel_rfl) (fun _ _ _ h => h) (Or.inl ⟨by kernel_rfl, ?_⟩) hS ?_
      · intro w hSw; (try dsimp only at hSw); go_simp
      (try simp only [Act.put, List.getElem_toArray, List.getElem_cons_zero, List.getElem_cons_succ, List.setIfInBounds_toArray, List.set_cons_zero, List.set_cons_succ])
      refine wpAnyH_take (i := 2) (v := (.slice none n ca)) rfl (by as_aux_lemma => kernel_rfl) (by as_aux_lemma => kernel_rfl) (by as_aux_lemma => kernel_rfl) (fun _ _ _ h => h) (Or.inl ⟨by kernel_rfl, ?_⟩) hS ?_
      · intro w hSw; (try dsimp only at hSw); obtain ⟨hSb, hl0, hl1, hl2, hl3⟩ := hSw; go_simp
      (try simp only [Act.put, List.getElem_toArray, List.getElem_cons_zero, List.getElem_cons_succ, List.setIfInBounds_toArray, List.set_cons_zero, List.set_cons_succ])
      refine wpAnyH_take (i := 3) (v := (.pointer (some ⟨w.heap.size, 0, none⟩))) rfl (by as_aux_lemma => kernel_rfl) (by as_aux_lemma => kernel_rfl) (by as_aux_lemma => kernel_rfl) (fun _ _ _ h => h) (Or.inl ⟨by kernel_rfl, ?_⟩) hS ?_
      · intro w hSw; (try dsimp only at hSw); go_simp
      (try simp only [Act.put, List.getElem_toArray, List.getElem_cons_zero, List.getElem_cons_succ, List.setIfInBounds_toArray, List.set_cons_zero, List.set_cons_succ])
      refine wpAnyH_take (i := 4) (v := (.int .i64 (f : Int))) rfl (by as_aux_lemma => kernel_rfl) (by as_aux_lemma => kernel_rfl) (by as_aux_lemma => kernel_rfl) (fun _ _ _ h => h) (Or.inl ⟨by kernel_rfl, ?_⟩) hS ?_
      · intro w hSw; (try dsimp only at hSw); obtain ⟨hSb, hl0, hl1, hl2, hl3⟩ := hSw; go_simp
      (try simp only [Act.put, List.getElem_toArray, List.getElem_cons_zero, List.getElem_cons_succ, List.setIfInBounds_toArray, List.set_cons_zero, List.set_cons_succ])
      refine wpAnyH_take (i := 5) (v := (.pointer (some ⟨w.heap.size, 0, none⟩))) rfl (by as_aux_lemma => kernel_rfl) (by as_aux_lemma => kernel_rfl) (by as_aux_lemma => kernel_rfl) (fun _ _ _ h => h) (Or.inl ⟨by kernel_rfl, ?_⟩) hS ?_
      · intro w hSw; (try dsimp only at hSw); go_simp
      (try simp only [Act.put, List.getElem_toArray, List.getElem_cons_zero, List.getElem_cons_succ, List.setIfInBounds_toArray, List.set_cons_zero, List.set_cons_succ])
      refine wpAnyH_take (i := 6) (v := (.int .i64 (f : Int))) rfl (by as_aux_lemma => kernel_rfl) (by as_aux_lemma => kernel_rfl) (by as_aux_lemma => kernel_rfl) (fun _ _ _ h => h) (Or.inl ⟨by kernel_rfl, ?_⟩) hS ?_
      · intro w hSw; (try dsimp only at hSw); obtain ⟨hSb, hl0, hl1, hl2, hl3⟩ := hSw; go_simp
      (try simp only [Act.put, List.getElem_toArray, List.getElem_cons_zero, List.getElem_cons_succ, List.setIfInBounds_toArray, List.set_cons_zero, List.set_cons_succ])
      refine wpAnyH_take (i := 7) (v := (.pointer (some ⟨w.heap.size, 1, none⟩))) rfl (by as_aux_lemma => kernel_rfl) (by as_aux_lemma => kernel_rfl) (by as_aux_lemma => kernel_rfl) (fun _ _ _ h => h) (Or.inl ⟨by kernel_rfl, ?_⟩) hS ?_
      · intro w hSw; (try dsimp only at hSw); go_simp
      (try simp only [Act.put, List.getElem_toArray, List.getElem_cons_zero, List.getElem_cons_succ, List.setIfInBounds_toArray, List.set_cons_zero, List.set_cons_succ])
      refine wpAnyH_take (i := 8) (v := (.int .i64 (z : Int))) rfl (by as_aux_lemma => kernel_rfl) (by as_aux_lemma => kernel_rfl) (by as_aux_lemma => kernel_rfl) (fun _ _ _ h => h) (Or.inl ⟨by kernel_rfl, ?_⟩) hS ?_
      · intro w hSw; (try dsimp only at hSw); obtain ⟨hSb, hl0, hl1, hl2, hl3⟩ := hSw; go_simp
      (try simp only [Act.put, List.getElem_toArray, List.getElem_cons_zero, List.getElem_cons_succ, List.setIfInBounds_toArray, List.set_cons_zero, List.set_cons_succ])
      refine wpAnyH_take (i := 9) (v := (.int .i64 ((f : Int) + (z : Int)))) rfl (by as_aux_lemma => kernel_rfl) (by as_aux_lemma => kernel_rfl) (by as_aux_lemma => kernel_rfl) (fun _ _ _ h => h) (Or.inl ⟨by kernel_rfl, ?_⟩) hS ?_
      · intro w hSw; (try dsimp only at hSw); go_simp
      (try simp only [Act.put, List.getElem_toArray, List.getElem_cons_zero, List.getElem_cons_succ, List.setIfInBounds_toArray, List.set_cons_zero, List.set_cons_succ])
      refine wpAnyH_take (i := 10) (v := (.slice none z (ca - f))) rfl (by as_aux_lemma => kernel_rfl) (by as_aux_lemma => kernel_rfl) (by as_aux_lemma => kernel_rfl) (fun _ _ _ h => h) (Or.inl ⟨by kernel_rfl, ?_⟩) hS ?_
      · intro w hSw; (try dsimp only at hSw); go_simp
      (try simp only [Act.put, List.getElem_toArray, List.getElem_cons_zero, List.getElem_cons_succ, List.setIfInBounds_toArray, List.set_cons_zero, List.set_cons_succ])
      refine wpAnyH_ready (rs := [11]) (by as_aux_lemma => kernel_rfl) (by simp) ?_
      refine AllReadyH.cons rfl (fun K hK => ?_) AllReadyH.nil
      go_simp
      refine Calls.mono (HD.out _ _ _ (hpr.below hb) ((ha.below hb).cut f z hfz _ HC.out)) ?_
      rintro e w3 ⟨rfl, hc⟩
      have s3 : D1.heap.size ≤ w3.heap.size := hc.size
      have bq := hc
      replace cP0 := cell_later bq cP0
      replace zP := Nat.lt_of_lt_of_le zP bq.size
      replace cF0 := cell_later bq cF0
      replace zF := Nat.lt_of_lt_of_le zF bq.size
      replace cL0 := cell_later bq cL0
      replace cL1 := cell_later bq cL1
      replace zL := Nat.lt_of_lt_of_le zL bq.size
      replace hb := hb.trans (bq.mono hb.size)
      clear hc bq
      refine hK.out _ _ (⟨hb, cF0, cL0, cL1, cP0⟩) (fun hS => ?_)
      clear hK K
      (try simp only [Act.put, List.getElem_toArray, List.getElem_cons_zero, List.getElem_cons_succ, List.setIfInBounds_toArray, List.set_cons_zero, List.set_cons_succ])
      refine wpAnyH_take (i := 12) (v := (.bool q)) rfl (by as_aux_lemma => kernel_rfl) (by as_aux_lemma => kernel_rfl) (by as_aux_lemma => kernel_rfl) (fun _ _ _ h => h) (Or.inl ⟨by kernel_rfl, ?_⟩) hS ?_
      · intro w hSw; (try dsimp only at hSw); go_simp
      (try simp only [Act.put, List.getElem_toArray, List.getElem_cons_zero, List.getElem_cons_succ, List.setIfInBounds_toArray, List.set_cons_zero, List.set_cons_succ])
      refine wpAnyH_done (by kernel_rfl) ?_ _
      clear hS
      go_wp2
      go_ret
      exact ⟨rfl, hb⟩
    · have HC := hid (show 0 < z → ∀ g' off', some (⟨g, off, sub⟩ : Addr) = some ⟨g', off', none⟩ → some ((⟨g, off, sub⟩ : Addr).add f) = some ⟨g', off' + f, none⟩ from fun _ g' off' h => by cases h; simp [Addr.add])
      have hb : Below w.heap.size w w := Below.refl _ _
      go_enter Try.func145, Try.ntmps145
      go_wp2_with fail
      have bp : ∀ o0, Below w.heap.size w (w.alloc o0) := fun o0 => (Below.refl _ _).alloc (Nat.le_refl _) o0
      have hbt : ∀ o0, Below w.heap.size w (w.alloc o0) := fun o0 => hb.trans ((bp o0).mono hb.size)
      obtain ⟨w1, hw1⟩ : ∃ x, (w.alloc (.cells #[.int .i64 (f : Int), .int .i64 (z : Int)] 202)) = x := ⟨_, rfl⟩
      have hc : Below ((w.alloc (.cells #[.int .i64 (f : Int), .int .i64 (z : Int)] 202))).heap.size ((w.alloc (.cells #[.int .i64 (f : Int), .int .i64 (z : Int)] 202))) w1 := hw1 ▸ Below.refl _ _
      have s1 : w.heap.size + 1 ≤ w1.heap.size := by have := hc.size; simp at this; omega
      have bq : Below w.heap.size w w1 := (bp _).trans (hc.mono (bp _).size)
      replace cP0 := cell_later bq cP0
      replace zP := Nat.lt_of_lt_of_le zP bq.size
      replace cF0 := cell_later bq cF0
      replace zF := Nat.lt_of_lt_of_le zF bq.size
      have cL0 : w1.cell? ⟨w.heap.size, 0, none⟩ = some (.int .i64 (f : Int)) := cell_later hc (by simp [go_sem])
      have cL1 : w1.cell? ⟨w.heap.size, 1, none⟩ = some (.int .i64 (z : Int)) := cell_later hc (by simp [go_sem])
      have zL : w.heap.size < w1.heap.size := by omega
      replace hb := hb.trans (bq.mono hb.size)
      clear hc bq bp hbt
      rw [hw1]
      clear hw1
      have bd : Below w1.heap.size w1 w1.drew := (Below.refl _ _).drew
      refine wp_region_held_drew (S := fun w' => Below w.heap.size w w' ∧ w'.cell? ⟨bf, 0, none⟩ = some (.slice (some ⟨g, off, sub⟩) n ca) ∧ w'.cell? ⟨w.heap.size, 0, none⟩ = some (.int .i64 (f : Int)) ∧ w'.cell? ⟨w.heap.size, 1, none⟩ = some (.int .i64 (z : Int)) ∧ w'.cell? ⟨bp, 0, none⟩ = some (.slice pa pn pc)) (by kernel_rfl) ⟨(hb.trans (bd.mono hb.size)), cell_later bd cF0, cell_later bd cL0, cell_later bd cL1, cell_later bd cP0⟩ (fun hS => ?_)
      obtain ⟨D1, hD⟩ : ∃ D, w1.drew = D := ⟨_, rfl⟩
      rw [hD] at hS bd ⊢
      have hc := bd
      clear hD bd
      have s2 : w1.heap.size ≤ D1.heap.size := hc.size
      have bq := hc
      replace cP0 := cell_later bq cP0
      replace zP := Nat.lt_of_lt_of_le zP bq.size
      replace cF0 := cell_later bq cF0
      replace zF := Nat.lt_of_lt_of_le zF bq.size
      replace cL0 := cell_later bq cL0
      replace cL1 := cell_later bq cL1
      replace zL := Nat.lt_of_lt_of_le zL bq.size
      replace hb := hb.trans (bq.mono hb.size)
      clear hc bq
      refine wpAnyH_take (i := 0) (v := (.slice pa pn pc)) rfl (by as_aux_lemma => kernel_rfl) (by as_aux_lemma => kernel_rfl) (by as_aux_lemma => kernel_rfl) (fun _ _ _ h => h) (Or.inl ⟨by kernel_rfl, ?_⟩) hS ?_
      · intro w hSw; (try dsimp only at hSw); obtain ⟨hSb, hl0, hl1, hl2, hl3⟩ := hSw; go_simp
      (try simp only [Act.put, List.getElem_toArray, List.getElem_cons_zero, List.getElem_cons_succ, List.setIfInBounds_toArray, List.set_cons_zero, List.set_cons_succ])
      refine wpAnyH_take (i := 1) (v := (.pointer (some ⟨bf, 0, none⟩))) rfl (by as_aux_lemma => kernel_rfl) (by as_aux_lemma => kernel_rfl) (by as_aux_lemma => kernel_rfl) (fun _ _ _ h => h) (Or.inl ⟨by kernel_rfl, ?_⟩) hS ?_
      · intro w hSw; (try dsimp only at hSw); go_simp
      (try simp only [Act.put, List.getElem_toArray, List.getElem_cons_zero, List.getElem_cons_succ, List.setIfInBounds_toArray, List.set_cons_zero, List.set_cons_succ])
      refine wpAnyH_take (i := 2) (v := (.slice (some ⟨g, off, sub⟩) n ca)) rfl (by as_aux_lemma => kernel_rfl) (by as_aux_lemma => kernel_rfl) (by as_aux_lemma => kernel_rfl) (fun _ _ _ h => h) (Or.inl ⟨by kernel_rfl, ?_⟩) hS ?_
      · intro w hSw; (try dsimp only at hSw); obtain ⟨hSb, hl0, hl1, hl2, hl3⟩ := hSw; go_simp
      (try simp only [Act.put, List.getElem_toArray, List.getElem_cons_zero, List.getElem_cons_succ, List.setIfInBounds_toArray, List.set_cons_zero, List.set_cons_succ])
      refine wpAnyH_take (i := 3) (v := (.pointer (some ⟨w.heap.size, 0, none⟩))) rfl (by as_aux_lemma => kernel_rfl) (by as_aux_lemma => kernel_rfl) (by as_aux_lemma => kernel_rfl) (fun _ _ _ h => h) (Or.inl ⟨by kernel_rfl, ?_⟩) hS ?_
      · intro w hSw; (try dsimp only at hSw); go_simp
      (try simp only [Act.put, List.getElem_toArray, List.getElem_cons_zero, List.getElem_cons_succ, List.setIfInBounds_toArray, List.set_cons_zero, List.set_cons_succ])
      refine wpAnyH_take (i := 4) (v := (.int .i64 (f : Int))) rfl (by as_aux_lemma => kernel_rfl) (by as_aux_lemma => kernel_rfl) (by as_aux_lemma => kernel_rfl) (fun _ _ _ h => h) (Or.inl ⟨by kernel_rfl, ?_⟩) hS ?_
      · intro w hSw; (try dsimp only at hSw); obtain ⟨hSb, hl0, hl1, hl2, hl3⟩ := hSw; go_simp
      (try simp only [Act.put, List.getElem_toArray, List.getElem_cons_zero, List.getElem_cons_succ, List.setIfInBounds_toArray, List.set_cons_zero, List.set_cons_succ])
      refine wpAnyH_take (i := 5) (v := (.pointer (some ⟨w.heap.size, 0, none⟩))) rfl (by as_aux_lemma => kernel_rfl) (by as_aux_lemma => kernel_rfl) (by as_aux_lemma => kernel_rfl) (fun _ _ _ h => h) (Or.inl ⟨by kernel_rfl, ?_⟩) hS ?_
      · intro w hSw; (try dsimp only at hSw); go_simp
      (try simp only [Act.put, List.getElem_toArray, List.getElem_cons_zero, List.getElem_cons_succ, List.setIfInBounds_toArray, List.set_cons_zero, List.set_cons_succ])
      refine wpAnyH_take (i := 6) (v := (.int .i64 (f : Int))) rfl (by as_aux_lemma => kernel_rfl) (by as_aux_lemma => kernel_rfl) (by as_aux_lemma => kernel_rfl) (fun _ _ _ h => h) (Or.inl ⟨by kernel_rfl, ?_⟩) hS ?_
      · intro w hSw; (try dsimp only at hSw); obtain ⟨hSb, hl0, hl1, hl2, hl3⟩ := hSw; go_simp
      (try simp only [Act.put, List.getElem_toArray, List.getElem_cons_zero, List.getElem_cons_succ, List.setIfInBounds_toArray, List.set_cons_zero, List.set_cons_succ])
      refine wpAnyH_take (i := 7) (v := (.pointer (some ⟨w.heap.size, 1, none⟩))) rfl (by as_aux_lemma => kernel_rfl) (by as_aux_lemma => kernel_rfl) (by as_aux_lemma => kernel_rfl) (fun _ _ _ h => h) (Or.inl ⟨by kernel_rfl, ?_⟩) hS ?_
      · intro w hSw; (try dsimp only at hSw); go_simp
      (try simp only [Act.put, List.getElem_toArray, List.getElem_cons_zero, List.getElem_cons_succ, List.setIfInBounds_toArray, List.set_cons_zero, List.set_cons_succ])
      refine wpAnyH_take (i := 8) (v := (.int .i64 (z : Int))) rfl (by as_aux_lemma => kernel_rfl) (by as_aux_lemma => kernel_rfl) (by as_aux_lemma => kernel_rfl) (fun _ _ _ h => h) (Or.inl ⟨by kernel_rfl, ?_⟩) hS ?_
      · intro w hSw; (try dsimp only at hSw); obtain ⟨hSb, hl0, hl1, hl2, hl3⟩ := hSw; go_simp
      (try simp only [Act.put, List.getElem_toArray, List.getElem_cons_zero, List.getElem_cons_succ, List.setIfInBounds_toArray, List.set_cons_zero, List.set_cons_succ])
      refine wpAnyH_take (i := 9) (v := (.int .i64 ((f : Int) + (z : Int)))) rfl (by as_aux_lemma => kernel_rfl) (by as_aux_lemma => kernel_rfl) (by as_aux_lemma => kernel_rfl) (fun _ _ _ h => h) (Or.inl ⟨by kernel_rfl, ?_⟩) hS ?_
      · intro w hSw; (try dsimp only at hSw); go_simp
      (try simp only [Act.put, List.getElem_toArray, List.getElem_cons_zero, List.getElem_cons_succ, List.setIfInBounds_toArray, List.set_cons_zero, List.set_cons_succ])
      refine wpAnyH_take (i := 10) (v := (.slice (some ((⟨g, off, sub⟩ : Addr).add f)) z (ca - f))) rfl (by as_aux_lemma => kernel_rfl) (by as_aux_lemma => kernel_rfl) (by as_aux_lemma => kernel_rfl) (fun _ _ _ h => h) (Or.inl ⟨by kernel_rfl, ?_⟩) hS ?_
      · intro w hSw; (try dsimp only at hSw); go_simp
      (try simp only [Act.put, List.getElem_toArray, List.getElem_cons_zero, List.getElem_cons_succ, List.setIfInBounds_toArray, List.set_cons_zero, List.set_cons_succ])
      refine wpAnyH_ready (rs := [11]) (by as_aux_lemma => kernel_rfl) (by simp) ?_
      refine AllReadyH.cons rfl (fun K hK => ?_) AllReadyH.nil
      go_simp
      refine Calls.mono (HD.out _ _ _ (hpr.below hb) ((ha.below hb).cut f z hfz _ HC.out)) ?_
      rintro e w3 ⟨rfl, hc⟩
      have s3 : D1.heap.size ≤ w3.heap.size := hc.size
      have bq := hc
      replace cP0 := cell_later bq cP0
      replace zP := Nat.lt_of_lt_of_le zP bq.size
      replace cF0 := cell_later bq cF0
      replace zF := Nat.lt_of_lt_of_le zF bq.size
      replace cL0 := cell_later bq cL0
      replace cL1 := cell_later bq cL1
      replace zL := Nat.lt_of_lt_of_le zL bq.size
      replace hb := hb.trans (bq.mono hb.size)
      clear hc bq
      refine hK.out _ _ (⟨hb, cF0, cL0, cL1, cP0⟩) (fun hS => ?_)
      clear hK K
      (try simp only [Act.put, List.getElem_toArray, List.getElem_cons_zero, List.getElem_cons_succ, List.setIfInBounds_toArray, List.set_cons_zero, List.set_cons_succ])
      refine wpAnyH_take (i := 12) (v := (.bool q)) rfl (by as_aux_lemma => kernel_rfl) (by as_aux_lemma => kernel_rfl) (by as_aux_lemma => kernel_rfl) (fun _ _ _ h => h) (Or.inl ⟨by kernel_rfl, ?_⟩) hS ?_
      · intro w hSw; (try dsimp only at hSw); go_simp
      (try simp only [Act.put, List.getElem_toArray, List.getElem_cons_zero, List.getElem_cons_succ, List.setIfInBounds_toArray, List.set_cons_zero, List.set_cons_succ])
      refine wpAnyH_done (by kernel_rfl) ?_ _
      clear hS
      go_wp2
      go_ret
      exact ⟨rfl, hb⟩

set_option maxRecDepth 10000 in
set_option maxHeartbeats 3200000 in
theorem hitsAmong_any (al : Option Addr) (cl bp bf : Nat) (pa : Option Addr) (pn pc : Nat) (is : List In) (a : Option Addr) (n ca : Nat) (xs : List Int) (w : World) (hpr : RdR inE 8 w pa pn is) (hin : Inside is) (hp1 : 1 ≤ pn) (hp2 : pn ≤ 80)
    (cP0 : w.cell? ⟨bp, 0, none⟩ = some (.slice pa pn pc)) (cF0 : w.cell? ⟨bf, 0, none⟩ = some (.slice a n ca)) (ha : Rd .u8 w a n xs) (hB : Bytes xs) (h1 : n ≤ 400) (hca : n ≤ ca) (hcm : ca ≤ maxLen) (hl : RdR lineE 2 w al (lns xs).length (lns xs)) :
    Calls Try.prog 144 #[.slice al (lns xs).length cl, .func (.func 145) #[] #[.pointer (some ⟨bp, 0, none⟩), .pointer (some ⟨bf, 0, none⟩)]] w fun e w' => ∃ v, e = .returned v ∧ RowI .i64 2 w' w.heap.size w'.heap.size v (hits is xs).length (hits is xs) ∧ Below w.heap.size w w' := by
  obtain ⟨i0, hi, hz0, hz1, hz2⟩ := info_parts info64f
  have hlen := ha.1
  have hll := lns_len xs
  have HM : Hid _ := hcm
  have HWa : Hid (Rd .u8 w a n xs ∧ w.cell? ⟨bp, 0, none⟩ = some (.slice pa pn pc) ∧ w.cell? ⟨bf, 0, none⟩ = some (.slice a n ca) ∧ RdR inE 8 w pa pn is ∧ RdR lineE 2 w al (lns xs).length (lns xs)) := ⟨ha, cP0, cF0, hpr, hl⟩
  have hE1 : Own .i64 2 w w.heap.size (.slice none 0 0) 0 [] := Own.nil _ _
  clear hcm cP0 cF0 hpr hl ha
  go_enter Try.func144, Try.ntmps144
  go_wp2
  go_loopw [5, 10] (fun v i wr => ∃ k : Nat, k ≤ (lns xs).length ∧ i = .int .i64 k ∧ Own .i64 2 wr w.heap.size v (hitsN is xs k).length (hitsN is xs k) ∧ Below w.heap.size w wr) (fun _ i _ => (lns xs).length - (intOf i).toNat)
  case atStart => exact ⟨0, Nat.zero_le _, rfl, hE1, Below.refl _ _⟩
  case round =>
    obtain ⟨k, hk, rfl, hO, hbr⟩ := hrel
    by_cases hlt : k < (lns xs).length
    · have hlk : (lns xs)[k]? = some (lns xs)[k] := List.getElem?_eq_getElem hlt
      have hgd : (lns xs).getD k (0, 0) = (lns xs)[k] := by rw [List.getD_eq_getElem?_getD, hlk]; rfl
      have hin2 := lns_in xs _ (List.mem_of_getElem? hlk)
      have hst : hitsN is xs (k + 1) = hitsN is xs k ++ (if hasV is (cutOf xs (lns xs)[k]) then [(k : Int)] else []) := by rw [hitsN, hgd]
      obtain ⟨⟨f', z'⟩, hl⟩ : ∃ l, l = (lns xs)[k] := ⟨_, rfl⟩
      rw [← hl] at hlk hin2 hst
      simp only at hin2
      obtain ⟨f, rfl⟩ : ∃ f : Nat, f' = (f : Int) := ⟨f'.toNat, by omega⟩
      obtain ⟨z, rfl⟩ : ∃ z : Nat, z' = (z : Int) := ⟨z'.toNat, by omega⟩
      clear hl hgd
      have hfz : f + z ≤ n := by omega
      obtain ⟨B, o, x, hax, hx, hcx⟩ := (HWa.out.2.2.2.2.below hbr).at hlt
      rw [hlk] at hx
      obtain rfl := Option.some.inj hx
      subst hax
      have l0 := hcx 0 _ rfl
      have l1 := hcx 1 _ rfl
      simp only [Nat.add_zero] at l0
      clear hcx hx hin2
      have hlt' : (k : Int) < ((lns xs).length : Int) := by omega
      have QC := fun w' h0 h1' h2 h3 => hitOne_any bp bf pa pn pc is a n ca f z xs w' h0 hin hp1 hp2 h1' h2 h3 hB h1 hca HM.out hfz
      have HO := hid hO
      have hkl := hitsN_len (is := is) (xs := xs) k
      clear hO hlk
      have hwB : w.heap.size ≤ wr.heap.size := hbr.size
      have bq : ∀ o, Below wr.heap.size wr (wr.alloc o) := fun o => (Below.refl _ _).alloc (Nat.le_refl _) o
      generalize hLn : (lns xs).length = L at *
      generalize hHL : (hitsN is xs k).length = HL at *
      by_cases hhit : hasV is (cutOf xs ((f : Int), (z : Int))) = true
      · rw [hhit] at QC
        rw [if_pos hhit] at hst
        have HQC : Hid _ := QC
        have HST := hid hst
        clear QC hst hhit
        go_wp2_with fail
        have hbb : ∀ o, Below w.heap.size w (wr.alloc o) := fun o => hbr.trans ((bq o).mono hwB)
        refine Calls.mono (HQC.out _ (HWa.out.2.2.2.1.below (hbb _)) (cell_later (hbb _) HWa.out.2.1) (cell_later (hbb _) HWa.out.2.2.1) (HWa.out.1.below (hbb _))) ?_
        rintro e w3 ⟨rfl, hc⟩
        have hO3 := (HO.out.below (bq _)).below hc
        have hb3 := (hbb _).trans (hc.mono (hbb _).size)
        clear hc
        have ba : Below w3.heap.size w3 (w3.alloc (.cells #[.int .i64 (k : Int)] 2)) := (Below.refl _ _).alloc (Nat.le_refl _) _
        have hO4 := hO3.below ba
        have hb4 := hb3.trans (ba.mono hb3.size)
        go_wp2_with (at_builtin; refine wpList_append_rd rfl _ _ 60 rfl .i64 w.heap.size 2 i0 8 Try.underlying60 hi hz0 hz1 hz2 _ HL _ rfl hO4 (some ⟨w3.heap.size, 0, none⟩) 1 1 [(k : Int)] rfl (rd_one9 w3 k 2) (by unfold maxLen; omega) (by omega) hb4.size ?_)
        intro v5 w5 hO5 hg5
        have hb5 := hb4.grown hg5 hb4.size (fun j hj => (hO4.lt j hj).1)
        rw [← HST.out] at hO5
        have hHS : (hitsN is xs (k + 1)).length = HL + 1 := by rw [HST.out, List.length_append, hHL]; rfl
        rw [← hHS] at hO5
        have HO5 := hid hO5
        clear hO3 hb3 ba hO4 hb4 hg5 hO5 hHS
        go_wp2
        go_roundw
        case rel => exact ⟨k + 1, by omega, by go_num, HO5.out, hb5⟩
        case measure => simp [intOf]; omega
      · have hhf : hasV is (cutOf xs ((f : Int), (z : Int))) = false := by simpa using hhit
        rw [hhf] at QC
        rw [if_neg hhit, List.append_nil] at hst
        have HQC : Hid _ := QC
        have HST := hid hst
        clear QC hst hhit hhf
        go_wp2_with fail
        have hbb : ∀ o, Below w.heap.size w (wr.alloc o) := fun o => hbr.trans ((bq o).mono hwB)
        refine Calls.mono (HQC.out _ (HWa.out.2.2.2.1.below (hbb _)) (cell_later (hbb _) HWa.out.2.1) (cell_later (hbb _) HWa.out.2.2.1) (HWa.out.1.below (hbb _))) ?_
        rintro e w3 ⟨rfl, hc⟩
        have hO3 := (HO.out.below (bq _)).below hc
        have hb3 := (hbb _).trans (hc.mono (hbb _).size)
        clear hc
        rw [← hHL, ← HST.out] at hO3
        have HO5 := hid hO3
        clear hO3
        go_wp2
        go_roundw
        case rel => exact ⟨k + 1, by omega, by go_num, HO5.out, hb3⟩
        case measure => simp [intOf]; omega
    · obtain rfl : k = (lns xs).length := by omega
      have hlt' : ¬ ((lns xs).length : Int) < ((lns xs).length : Int) := by omega
      go_wp2
      go_ret
      exact ⟨_, rfl, RowI.of hO, hbr⟩

set_option maxRecDepth 10000 in
set_option maxHeartbeats 3200000 in
theorem implFindLine_any (pa : Option Addr) (pn pc : Nat) (is : List In) (a : Option Addr) (n ca : Nat) (xs : List Int) (F N : Int) (B : Bool) (w : World) (hpr : RdR inE 8 w pa pn is) (hs : inSum is ≤ 1048576) (hpn : pn ≤ 1048576)
    (ha : Rd .u8 w a n xs) (hB : Bytes xs) (h1 : n ≤ 1073741824) (hca : n ≤ ca) (hcm : ca ≤ maxLen) :
    Calls Try.prog 59 #[.slice pa pn pc, .agg #[.slice a n ca], .int .i64 F, .int .i64 N, .bool B] w fun e w' => e = .returned (.agg #[.int .i64 (fdC is xs F N), .int .i64 (fdV is xs F N B)]) ∧ Below w.heap.size w w' := by
  have hlen := ha.1
  have PF := fun w' h' => implProgFault_any pa pn pc is w' h' hs hpn
  by_cases hP : progFault is = 0
  case neg =>
    have e1 : fdC is xs F N = progFault is := by unfold fdC; rw [if_pos hP]
    have e2 : fdV is xs F N B = 0 := by unfold fdV; rw [if_neg (by rw [e1]; exact hP)]
    rw [e1, e2]
    generalize progFault is = P at *
    have HPF : Hid _ := PF
    clear PF e1 e2
    go_enter Try.func59, Try.ntmps59
    have hb : Below w.heap.size w w := Below.refl _ _
    go_wp2_with fail
    have bp : ∀ o0 o1 o2, Below w.heap.size w (((w.alloc o0).alloc o1).alloc o2) := fun o0 o1 o2 => (((Below.refl _ _).alloc (Nat.le_refl _) o0).alloc (by simp) o1).alloc (by simp; omega) o2
    have hbt : ∀ o0 o1 o2, Below w.heap.size w (((w.alloc o0).alloc o1).alloc o2) := fun o0 o1 o2 => hb.trans ((bp o0 o1 o2).mono hb.size)
    refine Calls.mono (HPF.out _ (hpr.below (hbt _ _ _))) ?_
    rintro e w1 ⟨rfl, hc⟩
    have s1 : w.heap.size + 3 ≤ w1.heap.size := by have := hc.size; simp at this; omega
    have bq : Below w.heap.size w w1 := (bp _ _ _).trans (hc.mono (bp _ _ _).size)
    have cp0 : w1.cell? ⟨w.heap.size, 0, none⟩ = some (.slice pa pn pc) := cell_later hc (by simp [go_sem])
    have zp : w.heap.size < w1.heap.size := by omega
    have cf0 : w1.cell? ⟨w.heap.size + 1, 0, none⟩ = some (.slice a n ca) := cell_later hc (by simp [go_sem])
    have zf : w.heap.size + 1 < w1.heap.size := by omega
    have cR0 : w1.cell? ⟨w.heap.size + 1 + 1, 0, none⟩ = some (.int .i64 0) := cell_later hc (by simp [go_sem])
    have fR0 : w1.frozen? ⟨w.heap.size + 1 + 1, 0, none⟩ = false := (hc.frozen (p := ⟨w.heap.size + 1 + 1, 0, none⟩) (by first | (simp; done) | (simp; omega))).trans (by simp [go_sem])
    have cR1 : w1.cell? ⟨w.heap.size + 1 + 1, 1, none⟩ = some (.int .i64 0) := cell_later hc (by simp [go_sem])
    have fR1 : w1.frozen? ⟨w.heap.size + 1 + 1, 1, none⟩ = false := (hc.frozen (p := ⟨w.heap.size + 1 + 1, 1, none⟩) (by first | (simp; done) | (simp; omega))).trans (by simp [go_sem])
    have zR : w.heap.size + 1 + 1 < w1.heap.size := by omega
    replace hb := hb.trans (bq.mono hb.size)
    clear hc bq bp hbt
    go_wp2
    exact bodyPost_ret (v := .agg #[.int .i64 P, .int .i64 0]) (by simp [results, Try.results59, go_sem, cR0, cR1]) rfl ⟨rfl, ((hb.setCell (by first | omega | (simp; omega) | simp) _).setCell (by first | omega | (simp; omega) | simp) _)⟩
  have hpo := progFault_ok hP
  have hin := inside_of hP
  have hpl := hpr.1
  rw [hP] at PF
  have HPF : Hid _ := PF
  have LI := fun w' h' => implLinesIn_any a n ca xs w' h' hB h1 hca (by unfold maxLen at hcm; omega)
  unfold linCode linRes at LI
  by_cases hn : 400 < n
  · have e1 : fdC is xs F N = 2 := by unfold fdC; rw [if_neg (by omega), if_pos (by omega)]
    have e2 : fdV is xs F N B = 0 := by unfold fdV; rw [if_neg (by omega)]
    rw [e1, e2]
    rw [if_pos (by omega), if_pos (by omega)] at LI
    have HLI : Hid _ := LI
    clear PF LI e1 e2 hpo hin hP
    go_enter Try.func59, Try.ntmps59
    have hb : Below w.heap.size w w := Below.refl _ _
    go_wp2_with fail
    have bp : ∀ o0 o1 o2, Below w.heap.size w (((w.alloc o0).alloc o1).alloc o2) := fun o0 o1 o2 => (((Below.refl _ _).alloc (Nat.le_refl _) o0).alloc (by simp) o1).alloc (by simp; omega) o2
    have hbt : ∀ o0 o1 o2, Below w.heap.size w (((w.alloc o0).alloc o1).alloc o2) := fun o0 o1 o2 => hb.trans ((bp o0 o1 o2).mono hb.size)
    refine Calls.mono (HPF.out _ (hpr.below (hbt _ _ _))) ?_
    rintro e w1 ⟨rfl, hc⟩
    have s1 : w.heap.size + 3 ≤ w1.heap.size := by have := hc.size; simp at this; omega
    have bq : Below w.heap.size w w1 := (bp _ _ _).trans (hc.mono (bp _ _ _).size)
    have cp0 : w1.cell? ⟨w.heap.size, 0, none⟩ = some (.slice pa pn pc) := cell_later hc (by simp [go_sem])
    have zp : w.heap.size < w1.heap.size := by omega
    have cf0 : w1.cell? ⟨w.heap.size + 1, 0, none⟩ = some (.slice a n ca) := cell_later hc (by simp [go_sem])
    have zf : w.heap.size + 1 < w1.heap.size := by omega
    have cR0 : w1.cell? ⟨w.heap.size + 1 + 1, 0, none⟩ = some (.int .i64 0) := cell_later hc (by simp [go_sem])
    have fR0 : w1.frozen? ⟨w.heap.size + 1 + 1, 0, none⟩ = false := (hc.frozen (p := ⟨w.heap.size + 1 + 1, 0, none⟩) (by first | (simp; done) | (simp; omega))).trans (by simp [go_sem])
    have cR1 : w1.cell? ⟨w.heap.size + 1 + 1, 1, none⟩ = some (.int .i64 0) := cell_later hc (by simp [go_sem])
    have fR1 : w1.frozen? ⟨w.heap.size + 1 + 1, 1, none⟩ = false := (hc.frozen (p := ⟨w.heap.size + 1 + 1, 1, none⟩) (by first | (simp; done) | (simp; omega))).trans (by simp [go_sem])
    have zR : w.heap.size + 1 + 1 < w1.heap.size := by omega
    replace hb := hb.trans (bq.mono hb.size)
    clear hc bq bp hbt
    go_wp2_with fail
    refine Calls.mono (HLI.out _ (ha.below hb)) ?_
    rintro e w2 ⟨vl, rfl, rl, hc⟩
    obtain ⟨al, cl, rfl, -, -⟩ := RowS.shape lineE_len rl
    have s2 : w1.heap.size ≤ w2.heap.size := hc.size
    have bq := hc
    replace cp0 := cell_later bq cp0
    replace zp := Nat.lt_of_lt_of_le zp bq.size
    replace cf0 := cell_later bq cf0
    replace zf := Nat.lt_of_lt_of_le zf bq.size
    replace cR0 := cell_later bq cR0
    replace fR0 := (bq.frozen (p := ⟨w.heap.size + 1 + 1, 0, none⟩) zR).trans fR0
    replace cR1 := cell_later bq cR1
    replace fR1 := (bq.frozen (p := ⟨w.heap.size + 1 + 1, 1, none⟩) zR).trans fR1
    replace zR := Nat.lt_of_lt_of_le zR bq.size
    replace hb := hb.trans (bq.mono hb.size)
    clear hc bq
    go_wp2
    exact bodyPost_ret (v := .agg #[.int .i64 2, .int .i64 0]) (by simp [results, Try.results59, go_sem, cR0, cR1, zR]) rfl ⟨rfl, (((hb.setCell (by first | omega | (simp; omega) | simp) _).setCell (by first | omega | (simp; omega) | simp) _).alloc (by have := hb.size; simp; omega) _)⟩
  rw [if_neg (by omega), if_neg (by omega)] at LI
  have hll := lns_len xs
  have HA := fun al cl w' h0 c0 c1 h hl => hitsAmong_any al cl w.heap.size (w.heap.size + 1) pa pn pc is a n ca xs w' h0 hin (by omega) (by omega) c0 c1 h hB (by omega) hca hcm hl
  have hhl := hits_le is xs
  have hpw : (hits is xs).Pairwise (· < ·) := hitsN_pw _
  have FI := fun A CA w' h h5 h6 h7 => hitFrom_any A (hits is xs).length CA (hits is xs) F N B w' h h5 (by omega) hpw h6 h7
  generalize hLn : (lns xs).length = L at *
  have HLI : Hid _ := LI
  clear PF LI hpo hcm hca
  by_cases hF1 : F < -1
  · skip
    have e1 : fdC is xs F N = 3 := by unfold fdC; rw [if_neg (by omega), if_neg (by omega), if_pos (by omega)]
    have e2 : fdV is xs F N B = 0 := by unfold fdV; rw [if_neg (by omega)]
    rw [e1, e2]
    clear e1 e2 HA FI hin
    go_enter Try.func59, Try.ntmps59
    have hb : Below w.heap.size w w := Below.refl _ _
    go_wp2_with fail
    have bp : ∀ o0 o1 o2, Below w.heap.size w (((w.alloc o0).alloc o1).alloc o2) := fun o0 o1 o2 => (((Below.refl _ _).alloc (Nat.le_refl _) o0).alloc (by simp) o1).alloc (by simp; omega) o2
    have hbt : ∀ o0 o1 o2, Below w.heap.size w (((w.alloc o0).alloc o1).alloc o2) := fun o0 o1 o2 => hb.trans ((bp o0 o1 o2).mono hb.size)
    refine Calls.mono (HPF.out _ (hpr.below (hbt _ _ _))) ?_
    rintro e w1 ⟨rfl, hc⟩
    have s1 : w.heap.size + 3 ≤ w1.heap.size := by have := hc.size; simp at this; omega
    have bq : Below w.heap.size w w1 := (bp _ _ _).trans (hc.mono (bp _ _ _).size)
    have cp0 : w1.cell? ⟨w.heap.size, 0, none⟩ = some (.slice pa pn pc) := cell_later hc (by simp [go_sem])
    have zp : w.heap.size < w1.heap.size := by omega
    have cf0 : w1.cell? ⟨w.heap.size + 1, 0, none⟩ = some (.slice a n ca) := cell_later hc (by simp [go_sem])
    have zf : w.heap.size + 1 < w1.heap.size := by omega
    have cR0 : w1.cell? ⟨w.heap.size + 1 + 1, 0, none⟩ = some (.int .i64 0) := cell_later hc (by simp [go_sem])
    have fR0 : w1.frozen? ⟨w.heap.size + 1 + 1, 0, none⟩ = false := (hc.frozen (p := ⟨w.heap.size + 1 + 1, 0, none⟩) (by first | (simp; done) | (simp; omega))).trans (by simp [go_sem])
    have cR1 : w1.cell? ⟨w.heap.size + 1 + 1, 1, none⟩ = some (.int .i64 0) := cell_later hc (by simp [go_sem])
    have fR1 : w1.frozen? ⟨w.heap.size + 1 + 1, 1, none⟩ = false := (hc.frozen (p := ⟨w.heap.size + 1 + 1, 1, none⟩) (by first | (simp; done) | (simp; omega))).trans (by simp [go_sem])
    have zR : w.heap.size + 1 + 1 < w1.heap.size := by omega
    replace hb := hb.trans (bq.mono hb.size)
    clear hc bq bp hbt
    go_wp2_with fail
    refine Calls.mono (HLI.out _ (ha.below hb)) ?_
    rintro e w2 ⟨vl, rfl, rl, hc⟩
    obtain ⟨al, cl, rfl, -, -⟩ := RowS.shape lineE_len rl
    have s2 : w1.heap.size ≤ w2.heap.size := hc.size
    have bq := hc
    replace cp0 := cell_later bq cp0
    replace zp := Nat.lt_of_lt_of_le zp bq.size
    replace cf0 := cell_later bq cf0
    replace zf := Nat.lt_of_lt_of_le zf bq.size
    replace cR0 := cell_later bq cR0
    replace fR0 := (bq.frozen (p := ⟨w.heap.size + 1 + 1, 0, none⟩) zR).trans fR0
    replace cR1 := cell_later bq cR1
    replace fR1 := (bq.frozen (p := ⟨w.heap.size + 1 + 1, 1, none⟩) zR).trans fR1
    replace zR := Nat.lt_of_lt_of_le zR bq.size
    replace hb := hb.trans (bq.mono hb.size)
    clear hc bq
    go_wp2
    exact bodyPost_ret (v := .agg #[.int .i64 3, .int .i64 0]) (by simp [results, Try.results59, go_sem, cR0, cR1, zR]) rfl ⟨rfl, (((hb.setCell (by first | omega | (simp; omega) | simp) _).setCell (by first | omega | (simp; omega) | simp) _).alloc (by have := hb.size; simp; omega) _)⟩
  by_cases hF2 : (L : Int) < F
  · skip
    have e1 : fdC is xs F N = 3 := by unfold fdC; rw [if_neg (by omega), if_neg (by omega), if_pos (by omega)]
    have e2 : fdV is xs F N B = 0 := by unfold fdV; rw [if_neg (by omega)]
    rw [e1, e2]
    clear e1 e2 HA FI hin
    go_enter Try.func59, Try.ntmps59
    have hb : Below w.heap.size w w := Below.refl _ _
    go_wp2_with fail
    have bp : ∀ o0 o1 o2, Below w.heap.size w (((w.alloc o0).alloc o1).alloc o2) := fun o0 o1 o2 => (((Below.refl _ _).alloc (Nat.le_refl _) o0).alloc (by simp) o1).alloc (by simp; omega) o2
    have hbt : ∀ o0 o1 o2, Below w.heap.size w (((w.alloc o0).alloc o1).alloc o2) := fun o0 o1 o2 => hb.trans ((bp o0 o1 o2).mono hb.size)
    refine Calls.mono (HPF.out _ (hpr.below (hbt _ _ _))) ?_
    rintro e w1 ⟨rfl, hc⟩
    have s1 : w.heap.size + 3 ≤ w1.heap.size := by have := hc.size; simp at this; omega
    have bq : Below w.heap.size w w1 := (bp _ _ _).trans (hc.mono (bp _ _ _).size)
    have cp0 : w1.cell? ⟨w.heap.size, 0, none⟩ = some (.slice pa pn pc) := cell_later hc (by simp [go_sem])
    have zp : w.heap.size < w1.heap.size := by omega
    have cf0 : w1.cell? ⟨w.heap.size + 1, 0, none⟩ = some (.slice a n ca) := cell_later hc (by simp [go_sem])
    have zf : w.heap.size + 1 < w1.heap.size := by omega
    have cR0 : w1.cell? ⟨w.heap.size + 1 + 1, 0, none⟩ = some (.int .i64 0) := cell_later hc (by simp [go_sem])
    have fR0 : w1.frozen? ⟨w.heap.size + 1 + 1, 0, none⟩ = false := (hc.frozen (p := ⟨w.heap.size + 1 + 1, 0, none⟩) (by first | (simp; done) | (simp; omega))).trans (by simp [go_sem])
    have cR1 : w1.cell? ⟨w.heap.size + 1 + 1, 1, none⟩ = some (.int .i64 0) := cell_later hc (by simp [go_sem])
    have fR1 : w1.frozen? ⟨w.heap.size + 1 + 1, 1, none⟩ = false := (hc.frozen (p := ⟨w.heap.size + 1 + 1, 1, none⟩) (by first | (simp; done) | (simp; omega))).trans (by simp [go_sem])
    have zR : w.heap.size + 1 + 1 < w1.heap.size := by omega
    replace hb := hb.trans (bq.mono hb.size)
    clear hc bq bp hbt
    go_wp2_with fail
    refine Calls.mono (HLI.out _ (ha.below hb)) ?_
    rintro e w2 ⟨vl, rfl, rl, hc⟩
    obtain ⟨al, cl, rfl, -, -⟩ := RowS.shape lineE_len rl
    have s2 : w1.heap.size ≤ w2.heap.size := hc.size
    have bq := hc
    replace cp0 := cell_later bq cp0
    replace zp := Nat.lt_of_lt_of_le zp bq.size
    replace cf0 := cell_later bq cf0
    replace zf := Nat.lt_of_lt_of_le zf bq.size
    replace cR0 := cell_later bq cR0
    replace fR0 := (bq.frozen (p := ⟨w.heap.size + 1 + 1, 0, none⟩) zR).trans fR0
    replace cR1 := cell_later bq cR1
    replace fR1 := (bq.frozen (p := ⟨w.heap.size + 1 + 1, 1, none⟩) zR).trans fR1
    replace zR := Nat.lt_of_lt_of_le zR bq.size
    replace hb := hb.trans (bq.mono hb.size)
    clear hc bq
    go_wp2
    exact bodyPost_ret (v := .agg #[.int .i64 3, .int .i64 0]) (by simp [results, Try.results59, go_sem, cR0, cR1, zR]) rfl ⟨rfl, (((hb.setCell (by first | omega | (simp; omega) | simp) _).setCell (by first | omega | (simp; omega) | simp) _).alloc (by have := hb.size; simp; omega) _)⟩
  by_cases hN1 : N < 1
  · skip
    have e1 : fdC is xs F N = 3 := by unfold fdC; rw [if_neg (by omega), if_neg (by omega), if_pos (by omega)]
    have e2 : fdV is xs F N B = 0 := by unfold fdV; rw [if_neg (by omega)]
    rw [e1, e2]
    clear e1 e2 HA FI hin
    go_enter Try.func59, Try.ntmps59
    have hb : Below w.heap.size w w := Below.refl _ _
    go_wp2_with fail
    have bp : ∀ o0 o1 o2, Below w.heap.size w (((w.alloc o0).alloc o1).alloc o2) := fun o0 o1 o2 => (((Below.refl _ _).alloc (Nat.le_refl _) o0).alloc (by simp) o1).alloc (by simp; omega) o2
    have hbt : ∀ o0 o1 o2, Below w.heap.size w (((w.alloc o0).alloc o1).alloc o2) := fun o0 o1 o2 => hb.trans ((bp o0 o1 o2).mono hb.size)
    refine Calls.mono (HPF.out _ (hpr.below (hbt _ _ _))) ?_
    rintro e w1 ⟨rfl, hc⟩
    have s1 : w.heap.size + 3 ≤ w1.heap.size := by have := hc.size; simp at this; omega
    have bq : Below w.heap.size w w1 := (bp _ _ _).trans (hc.mono (bp _ _ _).size)
    have cp0 : w1.cell? ⟨w.heap.size, 0, none⟩ = some (.slice pa pn pc) := cell_later hc (by simp [go_sem])
    have zp : w.heap.size < w1.heap.size := by omega
    have cf0 : w1.cell? ⟨w.heap.size + 1, 0, none⟩ = some (.slice a n ca) := cell_later hc (by simp [go_sem])
    have zf : w.heap.size + 1 < w1.heap.size := by omega
    have cR0 : w1.cell? ⟨w.heap.size + 1 + 1, 0, none⟩ = some (.int .i64 0) := cell_later hc (by simp [go_sem])
    have fR0 : w1.frozen? ⟨w.heap.size + 1 + 1, 0, none⟩ = false := (hc.frozen (p := ⟨w.heap.size + 1 + 1, 0, none⟩) (by first | (simp; done) | (simp; omega))).trans (by simp [go_sem])
    have cR1 : w1.cell? ⟨w.heap.size + 1 + 1, 1, none⟩ = some (.int .i64 0) := cell_later hc (by simp [go_sem])
    have fR1 : w1.frozen? ⟨w.heap.size + 1 + 1, 1, none⟩ = false := (hc.frozen (p := ⟨w.heap.size + 1 + 1, 1, none⟩) (by first | (simp; done) | (simp; omega))).trans (by simp [go_sem])
    have zR : w.heap.size + 1 + 1 < w1.heap.size := by omega
    replace hb := hb.trans (bq.mono hb.size)
    clear hc bq bp hbt
    go_wp2_with fail
    refine Calls.mono (HLI.out _ (ha.below hb)) ?_
    rintro e w2 ⟨vl, rfl, rl, hc⟩
    obtain ⟨al, cl, rfl, -, -⟩ := RowS.shape lineE_len rl
    have s2 : w1.heap.size ≤ w2.heap.size := hc.size
    have bq := hc
    replace cp0 := cell_later bq cp0
    replace zp := Nat.lt_of_lt_of_le zp bq.size
    replace cf0 := cell_later bq cf0
    replace zf := Nat.lt_of_lt_of_le zf bq.size
    replace cR0 := cell_later bq cR0
    replace fR0 := (bq.frozen (p := ⟨w.heap.size + 1 + 1, 0, none⟩) zR).trans fR0
    replace cR1 := cell_later bq cR1
    replace fR1 := (bq.frozen (p := ⟨w.heap.size + 1 + 1, 1, none⟩) zR).trans fR1
    replace zR := Nat.lt_of_lt_of_le zR bq.size
    replace hb := hb.trans (bq.mono hb.size)
    clear hc bq
    go_wp2
    exact bodyPost_ret (v := .agg #[.int .i64 3, .int .i64 0]) (by simp [results, Try.results59, go_sem, cR0, cR1, zR]) rfl ⟨rfl, (((hb.setCell (by first | omega | (simp; omega) | simp) _).setCell (by first | omega | (simp; omega) | simp) _).alloc (by have := hb.size; simp; omega) _)⟩
  by_cases hN2 : 999 < N
  · skip
    have e1 : fdC is xs F N = 3 := by unfold fdC; rw [if_neg (by omega), if_neg (by omega), if_pos (by omega)]
    have e2 : fdV is xs F N B = 0 := by unfold fdV; rw [if_neg (by omega)]
    rw [e1, e2]
    clear e1 e2 HA FI hin
    go_enter Try.func59, Try.ntmps59
    have hb : Below w.heap.size w w := Below.refl _ _
    go_wp2_with fail
    have bp : ∀ o0 o1 o2, Below w.heap.size w (((w.alloc o0).alloc o1).alloc o2) := fun o0 o1 o2 => (((Below.refl _ _).alloc (Nat.le_refl _) o0).alloc (by simp) o1).alloc (by simp; omega) o2
    have hbt : ∀ o0 o1 o2, Below w.heap.size w (((w.alloc o0).alloc o1).alloc o2) := fun o0 o1 o2 => hb.trans ((bp o0 o1 o2).mono hb.size)
    refine Calls.mono (HPF.out _ (hpr.below (hbt _ _ _))) ?_
    rintro e w1 ⟨rfl, hc⟩
    have s1 : w.heap.size + 3 ≤ w1.heap.size := by have := hc.size; simp at this; omega
    have bq : Below w.heap.size w w1 := (bp _ _ _).trans (hc.mono (bp _ _ _).size)
    have cp0 : w1.cell? ⟨w.heap.size, 0, none⟩ = some (.slice pa pn pc) := cell_later hc (by simp [go_sem])
    have zp : w.heap.size < w1.heap.size := by omega
    have cf0 : w1.cell? ⟨w.heap.size + 1, 0, none⟩ = some (.slice a n ca) := cell_later hc (by simp [go_sem])
    have zf : w.heap.size + 1 < w1.heap.size := by omega
    have cR0 : w1.cell? ⟨w.heap.size + 1 + 1, 0, none⟩ = some (.int .i64 0) := cell_later hc (by simp [go_sem])
    have fR0 : w1.frozen? ⟨w.heap.size + 1 + 1, 0, none⟩ = false := (hc.frozen (p := ⟨w.heap.size + 1 + 1, 0, none⟩) (by first | (simp; done) | (simp; omega))).trans (by simp [go_sem])
    have cR1 : w1.cell? ⟨w.heap.size + 1 + 1, 1, none⟩ = some (.int .i64 0) := cell_later hc (by simp [go_sem])
    have fR1 : w1.frozen? ⟨w.heap.size + 1 + 1, 1, none⟩ = false := (hc.frozen (p := ⟨w.heap.size + 1 + 1, 1, none⟩) (by first | (simp; done) | (simp; omega))).trans (by simp [go_sem])
    have zR : w.heap.size + 1 + 1 < w1.heap.size := by omega
    replace hb := hb.trans (bq.mono hb.size)
    clear hc bq bp hbt
    go_wp2_with fail
    refine Calls.mono (HLI.out _ (ha.below hb)) ?_
    rintro e w2 ⟨vl, rfl, rl, hc⟩
    obtain ⟨al, cl, rfl, -, -⟩ := RowS.shape lineE_len rl
    have s2 : w1.heap.size ≤ w2.heap.size := hc.size
    have bq := hc
    replace cp0 := cell_later bq cp0
    replace zp := Nat.lt_of_lt_of_le zp bq.size
    replace cf0 := cell_later bq cf0
    replace zf := Nat.lt_of_lt_of_le zf bq.size
    replace cR0 := cell_later bq cR0
    replace fR0 := (bq.frozen (p := ⟨w.heap.size + 1 + 1, 0, none⟩) zR).trans fR0
    replace cR1 := cell_later bq cR1
    replace fR1 := (bq.frozen (p := ⟨w.heap.size + 1 + 1, 1, none⟩) zR).trans fR1
    replace zR := Nat.lt_of_lt_of_le zR bq.size
    replace hb := hb.trans (bq.mono hb.size)
    clear hc bq
    go_wp2
    exact bodyPost_ret (v := .agg #[.int .i64 3, .int .i64 0]) (by simp [results, Try.results59, go_sem, cR0, cR1, zR]) rfl ⟨rfl, (((hb.setCell (by first | omega | (simp; omega) | simp) _).setCell (by first | omega | (simp; omega) | simp) _).alloc (by have := hb.size; simp; omega) _)⟩
  by_cases hE : hits is xs = []
  · have e1 : fdC is xs F N = 4 := by unfold fdC; rw [if_neg (by omega), if_neg (by omega), if_neg (by omega), if_pos hE]
    have e2 : fdV is xs F N B = 0 := by unfold fdV; rw [if_neg (by omega)]
    rw [e1, e2]
    have hm0 : (hits is xs).length = 0 := by rw [hE]; rfl
    rw [hm0] at HA
    have HHA : Hid _ := HA
    clear e1 e2 HA FI hE hin hm0 hpw
    go_enter Try.func59, Try.ntmps59
    have hb : Below w.heap.size w w := Below.refl _ _
    go_wp2_with fail
    have bp : ∀ o0 o1 o2, Below w.heap.size w (((w.alloc o0).alloc o1).alloc o2) := fun o0 o1 o2 => (((Below.refl _ _).alloc (Nat.le_refl _) o0).alloc (by simp) o1).alloc (by simp; omega) o2
    have hbt : ∀ o0 o1 o2, Below w.heap.size w (((w.alloc o0).alloc o1).alloc o2) := fun o0 o1 o2 => hb.trans ((bp o0 o1 o2).mono hb.size)
    refine Calls.mono (HPF.out _ (hpr.below (hbt _ _ _))) ?_
    rintro e w1 ⟨rfl, hc⟩
    have s1 : w.heap.size + 3 ≤ w1.heap.size := by have := hc.size; simp at this; omega
    have bq : Below w.heap.size w w1 := (bp _ _ _).trans (hc.mono (bp _ _ _).size)
    have cp0 : w1.cell? ⟨w.heap.size, 0, none⟩ = some (.slice pa pn pc) := cell_later hc (by simp [go_sem])
    have zp : w.heap.size < w1.heap.size := by omega
    have cf0 : w1.cell? ⟨w.heap.size + 1, 0, none⟩ = some (.slice a n ca) := cell_later hc (by simp [go_sem])
    have zf : w.heap.size + 1 < w1.heap.size := by omega
    have cR0 : w1.cell? ⟨w.heap.size + 1 + 1, 0, none⟩ = some (.int .i64 0) := cell_later hc (by simp [go_sem])
    have fR0 : w1.frozen? ⟨w.heap.size + 1 + 1, 0, none⟩ = false := (hc.frozen (p := ⟨w.heap.size + 1 + 1, 0, none⟩) (by first | (simp; done) | (simp; omega))).trans (by simp [go_sem])
    have cR1 : w1.cell? ⟨w.heap.size + 1 + 1, 1, none⟩ = some (.int .i64 0) := cell_later hc (by simp [go_sem])
    have fR1 : w1.frozen? ⟨w.heap.size + 1 + 1, 1, none⟩ = false := (hc.frozen (p := ⟨w.heap.size + 1 + 1, 1, none⟩) (by first | (simp; done) | (simp; omega))).trans (by simp [go_sem])
    have zR : w.heap.size + 1 + 1 < w1.heap.size := by omega
    replace hb := hb.trans (bq.mono hb.size)
    clear hc bq bp hbt
    go_wp2_with fail
    refine Calls.mono (HLI.out _ (ha.below hb)) ?_
    rintro e w2 ⟨vl, rfl, rl, hc⟩
    obtain ⟨al, cl, rfl, -, -⟩ := RowS.shape lineE_len rl
    have s2 : w1.heap.size ≤ w2.heap.size := hc.size
    have bq := hc
    replace cp0 := cell_later bq cp0
    replace zp := Nat.lt_of_lt_of_le zp bq.size
    replace cf0 := cell_later bq cf0
    replace zf := Nat.lt_of_lt_of_le zf bq.size
    replace cR0 := cell_later bq cR0
    replace fR0 := (bq.frozen (p := ⟨w.heap.size + 1 + 1, 0, none⟩) zR).trans fR0
    replace cR1 := cell_later bq cR1
    replace fR1 := (bq.frozen (p := ⟨w.heap.size + 1 + 1, 1, none⟩) zR).trans fR1
    replace zR := Nat.lt_of_lt_of_le zR bq.size
    replace hb := hb.trans (bq.mono hb.size)
    clear hc bq
    go_wp2_with fail
    have bp : ∀ o0, Below w2.heap.size w2 (w2.alloc o0) := fun o0 => (Below.refl _ _).alloc (Nat.le_refl _) o0
    have hbt : ∀ o0, Below w.heap.size w (w2.alloc o0) := fun o0 => hb.trans ((bp o0).mono hb.size)
    refine Calls.mono (HHA.out al cl _ (hpr.below (hbt _)) (cell_later (bp _) cp0) (cell_later (bp _) cf0) (ha.below (hbt _)) (RowS.read lineE_len (rl.below (bp _)))) ?_
    rintro e w3 ⟨vh, rfl, rh, hc⟩
    obtain ⟨ah, kh, rfl, -⟩ := rh.shape
    replace rh := rh.read
    have s3 : w2.heap.size + 1 ≤ w3.heap.size := by have := hc.size; simp at this; omega
    have bq : Below w2.heap.size w2 w3 := (bp _).trans (hc.mono (bp _).size)
    replace cp0 := cell_later bq cp0
    replace zp := Nat.lt_of_lt_of_le zp bq.size
    replace cf0 := cell_later bq cf0
    replace zf := Nat.lt_of_lt_of_le zf bq.size
    replace cR0 := cell_later bq cR0
    replace fR0 := (bq.frozen (p := ⟨w.heap.size + 1 + 1, 0, none⟩) zR).trans fR0
    replace cR1 := cell_later bq cR1
    replace fR1 := (bq.frozen (p := ⟨w.heap.size + 1 + 1, 1, none⟩) zR).trans fR1
    replace zR := Nat.lt_of_lt_of_le zR bq.size
    have cL0 : w3.cell? ⟨w2.heap.size, 0, none⟩ = some (.int .i64 0) := cell_later hc (by simp [go_sem])
    have cL1 : w3.cell? ⟨w2.heap.size, 1, none⟩ = some (.slice al L cl) := cell_later hc (by simp [go_sem])
    have zL : w2.heap.size < w3.heap.size := by omega
    replace rl := rl.below bq
    replace hb := hb.trans (bq.mono hb.size)
    clear hc bq bp hbt
    go_wp2
    exact bodyPost_ret (v := .agg #[.int .i64 4, .int .i64 0]) (by simp [results, Try.results59, go_sem, cR0, cR1]) rfl ⟨rfl, ((hb.setCell (by first | omega | (simp; omega) | simp) _).setCell (by first | omega | (simp; omega) | simp) _)⟩
  · have e1 : fdC is xs F N = 0 := by unfold fdC; rw [if_neg (by omega), if_neg (by omega), if_neg (by omega), if_neg hE]
    have e2 : fdV is xs F N B = (hits is xs).getD (fndAt (hits is xs) F N B).toNat 0 := by unfold fdV; rw [if_pos e1]
    rw [e1, e2]
    have hmp : 0 < (hits is xs).length := List.length_pos_iff.2 hE
    have FI2 := fun A CA w' h => (FI A CA w' h (by omega) (by omega) (by omega)).mono (fun e w'' h => (⟨h.1, h.2 ▸ Below.refl _ _⟩ : _ ∧ Below w'.heap.size w' w''))
    generalize (hits is xs).getD (fndAt (hits is xs) F N B).toNat 0 = V at *
    generalize hits is xs = hs2 at *
    generalize hm : hs2.length = m at *
    have hm0 : ¬ (m : Int) = 0 := by omega
    have hm1 : ((m : Int) == 0) = false := by simp; omega
    have HFI : Hid _ := FI2
    have HHA : Hid _ := HA
    clear e1 e2 HA FI FI2 hE hin hpw
    go_enter Try.func59, Try.ntmps59
    have hb : Below w.heap.size w w := Below.refl _ _
    go_wp2_with fail
    have bp : ∀ o0 o1 o2, Below w.heap.size w (((w.alloc o0).alloc o1).alloc o2) := fun o0 o1 o2 => (((Below.refl _ _).alloc (Nat.le_refl _) o0).alloc (by simp) o1).alloc (by simp; omega) o2
    have hbt : ∀ o0 o1 o2, Below w.heap.size w (((w.alloc o0).alloc o1).alloc o2) := fun o0 o1 o2 => hb.trans ((bp o0 o1 o2).mono hb.size)
    refine Calls.mono (HPF.out _ (hpr.below (hbt _ _ _))) ?_
    rintro e w1 ⟨rfl, hc⟩
    have s1 : w.heap.size + 3 ≤ w1.heap.size := by have := hc.size; simp at this; omega
    have bq : Below w.heap.size w w1 := (bp _ _ _).trans (hc.mono (bp _ _ _).size)
    have cp0 : w1.cell? ⟨w.heap.size, 0, none⟩ = some (.slice pa pn pc) := cell_later hc (by simp [go_sem])
    have zp : w.heap.size < w1.heap.size := by omega
    have cf0 : w1.cell? ⟨w.heap.size + 1, 0, none⟩ = some (.slice a n ca) := cell_later hc (by simp [go_sem])
    have zf : w.heap.size + 1 < w1.heap.size := by omega
    have cR0 : w1.cell? ⟨w.heap.size + 1 + 1, 0, none⟩ = some (.int .i64 0) := cell_later hc (by simp [go_sem])
    have fR0 : w1.frozen? ⟨w.heap.size + 1 + 1, 0, none⟩ = false := (hc.frozen (p := ⟨w.heap.size + 1 + 1, 0, none⟩) (by first | (simp; done) | (simp; omega))).trans (by simp [go_sem])
    have cR1 : w1.cell? ⟨w.heap.size + 1 + 1, 1, none⟩ = some (.int .i64 0) := cell_later hc (by simp [go_sem])
    have fR1 : w1.frozen? ⟨w.heap.size + 1 + 1, 1, none⟩ = false := (hc.frozen (p := ⟨w.heap.size + 1 + 1, 1, none⟩) (by first | (simp; done) | (simp; omega))).trans (by simp [go_sem])
    have zR : w.heap.size + 1 + 1 < w1.heap.size := by omega
    replace hb := hb.trans (bq.mono hb.size)
    clear hc bq bp hbt
    go_wp2_with fail
    refine Calls.mono (HLI.out _ (ha.below hb)) ?_
    rintro e w2 ⟨vl, rfl, rl, hc⟩
    obtain ⟨al, cl, rfl, -, -⟩ := RowS.shape lineE_len rl
    have s2 : w1.heap.size ≤ w2.heap.size := hc.size
    have bq := hc
    replace cp0 := cell_later bq cp0
    replace zp := Nat.lt_of_lt_of_le zp bq.size
    replace cf0 := cell_later bq cf0
    replace zf := Nat.lt_of_lt_of_le zf bq.size
    replace cR0 := cell_later bq cR0
    replace fR0 := (bq.frozen (p := ⟨w.heap.size + 1 + 1, 0, none⟩) zR).trans fR0
    replace cR1 := cell_later bq cR1
    replace fR1 := (bq.frozen (p := ⟨w.heap.size + 1 + 1, 1, none⟩) zR).trans fR1
    replace zR := Nat.lt_of_lt_of_le zR bq.size
    replace hb := hb.trans (bq.mono hb.size)
    clear hc bq
    go_wp2_with fail
    have bp : ∀ o0, Below w2.heap.size w2 (w2.alloc o0) := fun o0 => (Below.refl _ _).alloc (Nat.le_refl _) o0
    have hbt : ∀ o0, Below w.heap.size w (w2.alloc o0) := fun o0 => hb.trans ((bp o0).mono hb.size)
    refine Calls.mono (HHA.out al cl _ (hpr.below (hbt _)) (cell_later (bp _) cp0) (cell_later (bp _) cf0) (ha.below (hbt _)) (RowS.read lineE_len (rl.below (bp _)))) ?_
    rintro e w3 ⟨vh, rfl, rh, hc⟩
    obtain ⟨ah, kh, rfl, -⟩ := rh.shape
    replace rh := rh.read
    have s3 : w2.heap.size + 1 ≤ w3.heap.size := by have := hc.size; simp at this; omega
    have bq : Below w2.heap.size w2 w3 := (bp _).trans (hc.mono (bp _).size)
    replace cp0 := cell_later bq cp0
    replace zp := Nat.lt_of_lt_of_le zp bq.size
    replace cf0 := cell_later bq cf0
    replace zf := Nat.lt_of_lt_of_le zf bq.size
    replace cR0 := cell_later bq cR0
    replace fR0 := (bq.frozen (p := ⟨w.heap.size + 1 + 1, 0, none⟩) zR).trans fR0
    replace cR1 := cell_later bq cR1
    replace fR1 := (bq.frozen (p := ⟨w.heap.size + 1 + 1, 1, none⟩) zR).trans fR1
    replace zR := Nat.lt_of_lt_of_le zR bq.size
    have cL0 : w3.cell? ⟨w2.heap.size, 0, none⟩ = some (.int .i64 0) := cell_later hc (by simp [go_sem])
    have cL1 : w3.cell? ⟨w2.heap.size, 1, none⟩ = some (.slice al L cl) := cell_later hc (by simp [go_sem])
    have zL : w2.heap.size < w3.heap.size := by omega
    replace rl := rl.below bq
    replace hb := hb.trans (bq.mono hb.size)
    clear hc bq bp hbt
    go_wp2_with fail
    refine Calls.mono (HFI.out ah kh _ rh) ?_
    rintro e w4 ⟨rfl, hc⟩
    have s4 : w3.heap.size ≤ w4.heap.size := hc.size
    have bq := hc
    replace cp0 := cell_later bq cp0
    replace zp := Nat.lt_of_lt_of_le zp bq.size
    replace cf0 := cell_later bq cf0
    replace zf := Nat.lt_of_lt_of_le zf bq.size
    replace cR0 := cell_later bq cR0
    replace fR0 := (bq.frozen (p := ⟨w.heap.size + 1 + 1, 0, none⟩) zR).trans fR0
    replace cR1 := cell_later bq cR1
    replace fR1 := (bq.frozen (p := ⟨w.heap.size + 1 + 1, 1, none⟩) zR).trans fR1
    replace zR := Nat.lt_of_lt_of_le zR bq.size
    replace cL0 := cell_later bq cL0
    replace cL1 := cell_later bq cL1
    replace zL := Nat.lt_of_lt_of_le zL bq.size
    replace hb := hb.trans (bq.mono hb.size)
    clear hc bq
    go_wp2
    exact bodyPost_ret (v := .agg #[.int .i64 0, .int .i64 V]) (by simp [results, Try.results59, go_sem, cR0, cR1]) rfl ⟨rfl, ((hb.setCell (by first | omega | (simp; omega) | simp) _).setCell (by first | omega | (simp; omega) | simp) _)⟩

theorem eqIntRes9_yes (c v : Int) (w : World) :
    Calls Try.prog 71 #[.agg #[.int .i64 c, .int .i64 v], .agg #[.int .i64 c, .int .i64 v]] w fun e w' => e = .returned (.bool true) ∧ Below w.heap.size w w' := by
  go_enter Try.func71, Try.ntmps71
  go_wp2
  go_ret
  exact ⟨rfl, ((Below.refl _ _).alloc (Nat.le_refl _) _).alloc (by simp) _⟩
end Go.Proofs.Ytaeolofailompaa
