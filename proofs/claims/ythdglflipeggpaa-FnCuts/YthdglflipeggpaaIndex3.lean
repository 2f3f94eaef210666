/-
  What is asked of an index and a file first; an index of its own; what is heard besides.
-/
import Derived.Test.YthdglflipeggpaaHear
import Derived.Test.YthdglflipeggpaaIndex2
import Derived.Test.YthdglflipeggpaaMakeW
namespace Go.Proofs.Ythdglflipeggpaa
open Go.RowKit
set_option linter.unusedVariables false
set_option linter.unusedSimpArgs false

def heardF (E : Int) (ms : List Int) (L Z : Int) (n : Nat) : Int :=
  if indexFault E ms L Z ≠ 0 then indexFault E ms L Z else if fFault n ≠ 0 then fFault n else if (n : Int) < Z then 6 else 0

theorem heardF_bad {E L Z : Int} {ms : List Int} {n : Nat} (h : indexFault E ms L Z ≠ 0) : heardF E ms L Z n = indexFault E ms L Z := by
  unfold heardF; rw [if_pos h]

theorem heardF_file {E L Z : Int} {ms : List Int} {n : Nat} (h : indexFault E ms L Z = 0) (h2 : fFault n ≠ 0) : heardF E ms L Z n = fFault n := by
  unfold heardF; rw [if_neg (by simpa using h), if_pos h2]

theorem heardF_few {E L Z : Int} {ms : List Int} {n : Nat} (h : indexFault E ms L Z = 0) (h2 : fFault n = 0) (h3 : (n : Int) < Z) : heardF E ms L Z n = 6 := by
  unfold heardF; rw [if_neg (by simpa using h), if_neg (by simpa using h2), if_pos h3]

theorem heardF_good {E L Z : Int} {ms : List Int} {n : Nat} (h : indexFault E ms L Z = 0) (h2 : fFault n = 0) (h3 : ¬ (n : Int) < Z) : heardF E ms L Z n = 0 := by
  unfold heardF; rw [if_neg (by simpa using h), if_neg (by simpa using h2), if_neg h3]

theorem fFault_zero {n : Nat} (h : fFault n = 0) : n ≤ 400 := by
  unfold fFault at h
  split at h <;> omega

theorem index_ok {E L Z : Int} {ms : List Int} (h : indexFault E ms L Z = 0) : 1 ≤ E ∧ E ≤ 9 ∧ 0 ≤ Z ∧ Z ≤ 400 ∧ 0 ≤ L ∧ L ≤ Z ∧ (ms.length : Int) = Int.tdiv L E ∧ marksF E Z E 0 ms = 0 ∧ ms.length ≤ 400 := by
  by_cases h1 : E < 1 ∨ 9 < E ∨ Z < 0 ∨ 400 < Z ∨ L < 0 ∨ Z < L
  · rw [indexFault_range h1] at h; simp at h
  · by_cases h2 : (ms.length : Int) = Int.tdiv L E
    · rw [indexFault_marks h1 h2] at h
      have := tdiv_small (L := L) (E := E) (by omega) (by omega) (by omega)
      exact ⟨by omega, by omega, by omega, by omega, by omega, by omega, h2, h, by omega⟩
    · rw [indexFault_form h1 h2] at h; simp at h

theorem heardF_zero {E L Z : Int} {ms : List Int} {n : Nat} (h : heardF E ms L Z n = 0) : indexFault E ms L Z = 0 ∧ n ≤ 400 ∧ Z ≤ (n : Int) := by
  by_cases h1 : indexFault E ms L Z = 0
  · by_cases h2 : fFault n = 0
    · by_cases h3 : (n : Int) < Z
      · rw [heardF_few h1 h2 h3] at h; simp at h
      · exact ⟨h1, fFault_zero h2, by omega⟩
    · rw [heardF_file h1 h2] at h; exact absurd h h2
  · rw [heardF_bad h1] at h; exact absurd h h1

set_option maxHeartbeats 800000 in
theorem l4Asked_any (b fb : Nat) (E : Int) (a : Option Addr) (n ca : Nat) (ms : List Int) (L Z : Int) (p : Option Addr) (m cp : Nat) (w : World) (c0 : w.cell? ⟨b, 0, none⟩ = some (.int .i64 E)) (c1 : w.cell? ⟨b, 1, none⟩ = some (.slice a n ca)) (c2 : w.cell? ⟨b, 2, none⟩ = some (.int .i64 L)) (c3 : w.cell? ⟨b, 3, none⟩ = some (.int .i64 Z)) (cf : w.cell? ⟨fb, 0, none⟩ = some (.slice p m cp)) (ha : Rd .i64 w a n ms) (h1 : n ≤ 1073741824) (hm : m ≤ 1073741824) :
    Calls Try.prog 47 #[.pointer (some ⟨b, 0, none⟩), .pointer (some ⟨fb, 0, none⟩)] w fun e w' => e = .returned (.int .i64 (heardF E ms L Z m)) ∧ Below w.heap.size w w' := by
  obtain ⟨R, hR⟩ : ∃ R, R = heardF E ms L Z m := ⟨_, rfl⟩
  rw [← hR]
  go_enter Try.func47, Try.ntmps47
  go_wp2_with fail
  refine (l4Fault_any b E a n ca ms L Z _ c0 c1 c2 c3 ha h1).mono ?_
  rintro e w1 ⟨rfl, hb1⟩
  by_cases hf : indexFault E ms L Z = 0
  · rw [hf]
    have cf1 := cell_later hb1 cf
    have d3 := cell_later hb1 c3
    go_wp2_with fail
    refine (l2Fault_any fb p m cp _ cf1 hm).mono ?_
    rintro e w2 ⟨rfl, rfl⟩
    by_cases h2 : fFault m = 0
    · rw [h2]
      by_cases h3 : (m : Int) < Z
      · rw [heardF_few hf h2 h3] at hR
        subst hR
        go_wp2
        go_region
        all_goals
          go_wp2
          go_ret
          exact ⟨rfl, hb1.drew⟩
      · rw [heardF_good hf h2 h3] at hR
        subst hR
        go_wp2
        go_region
        all_goals
          go_wp2
          go_ret
          exact ⟨rfl, hb1.drew⟩
    · rw [heardF_file hf h2] at hR
      generalize fFault m = cd at *
      go_wp2
      go_ret
      exact ⟨ret_int hR.symm, hb1⟩
  · rw [heardF_bad hf] at hR
    generalize indexFault E ms L Z = cd at *
    go_wp2
    go_ret
    exact ⟨ret_int hR.symm, hb1⟩

set_option maxHeartbeats 800000 in
theorem heardFault_any (E : Int) (a : Option Addr) (n ca : Nat) (ms : List Int) (L Z : Int) (p : Option Addr) (m cp : Nat) (w : World) (ha : Rd .i64 w a n ms) (h1 : n ≤ 1073741824) (hm : m ≤ 1073741824) :
    Calls Try.prog 44 #[.agg #[.int .i64 E, .slice a n ca, .int .i64 L, .int .i64 Z], .agg #[.slice p m cp]] w fun e w' => e = .returned (.int .i64 (heardF E ms L Z m)) ∧ Below w.heap.size w w' := by
  have B2 : ∀ o1 o2, Below w.heap.size w ((w.alloc o1).alloc o2) := fun o1 o2 => ((Below.refl _ _).alloc (Nat.le_refl _) o1).alloc (by simp) o2
  obtain ⟨R, hR⟩ : ∃ R, R = heardF E ms L Z m := ⟨_, rfl⟩
  rw [← hR]
  go_enter Try.func44, Try.ntmps44
  go_wp2_with fail
  refine (implIndexFault_any E a n ca ms L Z _ (ha.below (B2 _ _)) h1).mono ?_
  rintro e w1 ⟨rfl, hb1⟩
  have hb01 := (B2 _ _).trans (hb1.mono (by simp; omega))
  have d0 : w1.cell? ⟨w.heap.size + 1, 0, none⟩ = some (.slice p m cp) := cell_later hb1 (by simp [go_sem])
  have d3 : w1.cell? ⟨w.heap.size, 3, none⟩ = some (.int .i64 Z) := cell_later hb1 (by simp [go_sem])
  by_cases hf : indexFault E ms L Z = 0
  · rw [hf]
    go_wp2_with fail
    refine (implFileFault_any p m cp _ hm).mono ?_
    rintro e w2 ⟨rfl, hb2⟩
    have d0' := cell_later hb2 d0
    have d3' := cell_later hb2 d3
    have hb02 := hb01.trans (hb2.mono hb01.size)
    by_cases h2 : fFault m = 0
    · rw [h2]
      by_cases h3 : (m : Int) < Z
      · rw [heardF_few hf h2 h3] at hR
        subst hR
        go_wp2
        go_ret
        exact ⟨rfl, hb02⟩
      · rw [heardF_good hf h2 h3] at hR
        subst hR
        go_wp2
        go_ret
        exact ⟨rfl, hb02⟩
    · rw [heardF_file hf h2] at hR
      generalize fFault m = cd at *
      go_wp2
      go_ret
      exact ⟨ret_int hR.symm, hb02⟩
  · rw [heardF_bad hf] at hR
    generalize indexFault E ms L Z = cd at *
    go_wp2
    go_ret
    exact ⟨ret_int hR.symm, hb01⟩

set_option maxRecDepth 20000 in
set_option maxHeartbeats 1600000 in
theorem ownIndex_any (E : Int) (a : Option Addr) (n ca : Nat) (ms : List Int) (L Z : Int) (w : World) (ha : Rd .i64 w a n ms) (h1 : n ≤ 1048576) :
    Calls Try.prog 39 #[.agg #[.int .i64 E, .slice a n ca, .int .i64 L, .int .i64 Z]] w fun e w' => ∃ p v, e = .returned (.pointer (some ⟨p, 0, none⟩)) ∧ Blk w' p #[.int .i64 E, v, .int .i64 L, .int .i64 Z] 26 ∧ Own .i64 2 w' w.heap.size v n ms ∧ Below w.heap.size w w' ∧ w.heap.size ≤ p := by
  obtain ⟨i0, hi, hz0, hz1, hz2⟩ := info_parts info64
  have hb0 := (Below.refl w.heap.size w).alloc (Nat.le_refl _) (.cells #[.int .i64 E, .slice a n ca, .int .i64 L, .int .i64 Z] 26)
  go_enter Try.func39, Try.ntmps39
  go_wp2
  refine wp_region_held_drew (S := fun w' => w'.cell? ⟨w.heap.size, 0, none⟩ = some (.int .i64 E) ∧ w'.cell? ⟨w.heap.size, 1, none⟩ = some (.slice a n ca) ∧ w'.cell? ⟨w.heap.size, 2, none⟩ = some (.int .i64 L) ∧ w'.cell? ⟨w.heap.size, 3, none⟩ = some (.int .i64 Z)) (by kernel_rfl) (by simp [go_sem]) (fun hS => ?_)
  refine wpAnyH_take (i := 0) (v := (.pointer (some ⟨w.heap.size, 0, none⟩))) rfl (by as_aux_lemma => kernel_rfl) (by as_aux_lemma => kernel_rfl) (by as_aux_lemma => kernel_rfl) (fun _ _ _ h => h) (Or.inl ⟨by kernel_rfl, ?_⟩) hS ?_
  · intro w hSw; (try dsimp only at hSw); go_simp
  simp only [Act.put, List.getElem_toArray, List.getElem_cons_zero, List.getElem_cons_succ, List.setIfInBounds_toArray, List.set_cons_zero, List.set_cons_succ]
  refine wpAnyH_take (i := 1) (v := (.int .i64 E)) rfl (by as_aux_lemma => kernel_rfl) (by as_aux_lemma => kernel_rfl) (by as_aux_lemma => kernel_rfl) (fun _ _ _ h => h) (Or.inl ⟨by kernel_rfl, ?_⟩) hS ?_
  · intro w hSw; (try dsimp only at hSw); go_simp
  simp only [Act.put, List.getElem_toArray, List.getElem_cons_zero, List.getElem_cons_succ, List.setIfInBounds_toArray, List.set_cons_zero, List.set_cons_succ]
  refine wpAnyH_take (i := 2) (v := (.pointer (some ⟨w.heap.size, 1, none⟩))) rfl (by as_aux_lemma => kernel_rfl) (by as_aux_lemma => kernel_rfl) (by as_aux_lemma => kernel_rfl) (fun _ _ _ h => h) (Or.inl ⟨by kernel_rfl, ?_⟩) hS ?_
  · intro w hSw; (try dsimp only at hSw); go_simp
  simp only [Act.put, List.getElem_toArray, List.getElem_cons_zero, List.getElem_cons_succ, List.setIfInBounds_toArray, List.set_cons_zero, List.set_cons_succ]
  refine wpAnyH_take (i := 3) (v := (.slice a n ca)) rfl (by as_aux_lemma => kernel_rfl) (by as_aux_lemma => kernel_rfl) (by as_aux_lemma => kernel_rfl) (fun _ _ _ h => h) (Or.inl ⟨by kernel_rfl, ?_⟩) hS ?_
  · intro w hSw; (try dsimp only at hSw); go_simp
  simp only [Act.put, List.getElem_toArray, List.getElem_cons_zero, List.getElem_cons_succ, List.setIfInBounds_toArray, List.set_cons_zero, List.set_cons_succ]
  refine wpAnyH_take (i := 4) (v := (.int .i64 (n : Int))) rfl (by as_aux_lemma => kernel_rfl) (by as_aux_lemma => kernel_rfl) (by as_aux_lemma => kernel_rfl) (fun _ _ _ h => h) (Or.inl ⟨by kernel_rfl, ?_⟩) hS ?_
  · intro w hSw; (try dsimp only at hSw); go_simp
  simp only [Act.put, List.getElem_toArray, List.getElem_cons_zero, List.getElem_cons_succ, List.setIfInBounds_toArray, List.set_cons_zero, List.set_cons_succ]
  refine wpAnyH_take (i := 6) (v := (.pointer (some ⟨w.heap.size, 2, none⟩))) rfl (by as_aux_lemma => kernel_rfl) (by as_aux_lemma => kernel_rfl) (by as_aux_lemma => kernel_rfl) (fun _ _ _ h => h) (Or.inl ⟨by kernel_rfl, ?_⟩) hS ?_
  · intro w hSw; (try dsimp only at hSw); go_simp
  simp only [Act.put, List.getElem_toArray, List.getElem_cons_zero, List.getElem_cons_succ, List.setIfInBounds_toArray, List.set_cons_zero, List.set_cons_succ]
  refine wpAnyH_take (i := 7) (v := (.int .i64 L)) rfl (by as_aux_lemma => kernel_rfl) (by as_aux_lemma => kernel_rfl) (by as_aux_lemma => kernel_rfl) (fun _ _ _ h => h) (Or.inl ⟨by kernel_rfl, ?_⟩) hS ?_
  · intro w hSw; (try dsimp only at hSw); go_simp
  simp only [Act.put, List.getElem_toArray, List.getElem_cons_zero, List.getElem_cons_succ, List.setIfInBounds_toArray, List.set_cons_zero, List.set_cons_succ]
  refine wpAnyH_take (i := 8) (v := (.pointer (some ⟨w.heap.size, 3, none⟩))) rfl (by as_aux_lemma => kernel_rfl) (by as_aux_lemma => kernel_rfl) (by as_aux_lemma => kernel_rfl) (fun _ _ _ h => h) (Or.inl ⟨by kernel_rfl, ?_⟩) hS ?_
  · intro w hSw; (try dsimp only at hSw); go_simp
  simp only [Act.put, List.getElem_toArray, List.getElem_cons_zero, List.getElem_cons_succ, List.setIfInBounds_toArray, List.set_cons_zero, List.set_cons_succ]
  refine wpAnyH_take (i := 9) (v := (.int .i64 Z)) rfl (by as_aux_lemma => kernel_rfl) (by as_aux_lemma => kernel_rfl) (by as_aux_lemma => kernel_rfl) (fun _ _ _ h => h) (Or.inl ⟨by kernel_rfl, ?_⟩) hS ?_
  · intro w hSw; (try dsimp only at hSw); go_simp
  simp only [Act.put, List.getElem_toArray, List.getElem_cons_zero, List.getElem_cons_succ, List.setIfInBounds_toArray, List.set_cons_zero, List.set_cons_succ]
  refine wpAnyH_ready (rs := [5]) (by as_aux_lemma => kernel_rfl) (by simp) ?_
  refine AllReadyH.cons rfl (fun K hK => ?_) AllReadyH.nil
  rw [if_pos (by rfl)]
  refine wp_make_rd _ _ 24 rfl .i64 (w.heap.size + 1) 2 i0 Try.underlying24 hi hz0 hz1 n rfl rfl (by rw [hz2]; omega) (by unfold maxLen; omega) (by simp [World.drew]) ?_
  intro w1 ho1 hg1 hs1
  have hw1 : Below (w.heap.size + 1) (w.alloc (.cells #[.int .i64 E, .slice a n ca, .int .i64 L, .int .i64 Z] 26)).drew w1 := (Below.refl _ _).grown hg1 (by simp [World.drew]) (by simp)
  have hsz : (w.alloc (.cells #[.int .i64 E, .slice a n ca, .int .i64 L, .int .i64 Z] 26)).drew.heap.size = w.heap.size + 1 := by simp [World.drew]
  rw [hsz] at ho1 hs1 ⊢
  have hq : ∀ {i : Nat} {u : Value}, (w.alloc (.cells #[.int .i64 E, .slice a n ca, .int .i64 L, .int .i64 Z] 26)).drew.cell? ⟨w.heap.size, i, none⟩ = some u → w1.cell? ⟨w.heap.size, i, none⟩ = some u := fun h => grown_cell hg1 h (by simp)
  have hne1 : w1.heap.size ≠ w.heap.size + 1 := by omega
  clear hs1 hsz
  refine hK.out _ _ ⟨hq hS.1, hq hS.2.1, hq hS.2.2.1, hq hS.2.2.2⟩ (fun hS => ?_)
  clear hK K
  (try simp only [Act.put, List.getElem_toArray, List.getElem_cons_zero, List.getElem_cons_succ, List.setIfInBounds_toArray, List.set_cons_zero, List.set_cons_succ])
  refine wpAnyH_take (i := 10) (v := (.agg #[.int .i64 E, .slice (some ⟨w.heap.size + 1, 0, none⟩) n n, .int .i64 L, .int .i64 Z])) rfl (by as_aux_lemma => kernel_rfl) (by as_aux_lemma => kernel_rfl) (by as_aux_lemma => kernel_rfl) (fun _ _ _ h => h) (Or.inl ⟨by kernel_rfl, ?_⟩) hS ?_
  · intro w hSw; (try dsimp only at hSw); go_simp
  simp only [Act.put, List.getElem_toArray, List.getElem_cons_zero, List.getElem_cons_succ, List.setIfInBounds_toArray, List.set_cons_zero, List.set_cons_succ]
  refine wpAnyH_ready (rs := [11]) (by as_aux_lemma => kernel_rfl) (by simp) ?_
  refine AllReadyH.cons rfl (fun K hK => ?_) AllReadyH.nil
  go_simp
  have NB : ∀ o, Below w1.heap.size w1 (w1.alloc o) := fun o => (Below.refl _ _).alloc (Nat.le_refl _) o
  refine hK.out _ _ ⟨cell_later (NB _) hS.1, cell_later (NB _) hS.2.1, cell_later (NB _) hS.2.2.1, cell_later (NB _) hS.2.2.2⟩ (fun hS => ?_)
  clear hK K
  (try simp only [Act.put, List.getElem_toArray, List.getElem_cons_zero, List.getElem_cons_succ, List.setIfInBounds_toArray, List.set_cons_zero, List.set_cons_succ])
  refine wpAnyH_take (i := 12) (v := (.pointer (some ⟨w1.heap.size, 0, none⟩))) rfl (by as_aux_lemma => kernel_rfl) (by as_aux_lemma => kernel_rfl) (by as_aux_lemma => kernel_rfl) (fun _ _ _ h => h) (Or.inl ⟨by kernel_rfl, ?_⟩) hS ?_
  · intro w hSw; (try dsimp only at hSw); go_simp
  simp only [Act.put, List.getElem_toArray, List.getElem_cons_zero, List.getElem_cons_succ, List.setIfInBounds_toArray, List.set_cons_zero, List.set_cons_succ]
  refine wpAnyH_done (by kernel_rfl) ?_ _
  have hbl := Blk.new w1 #[.int .i64 E, .slice (some ⟨w.heap.size + 1, 0, none⟩) n n, .int .i64 L, .int .i64 Z] 26
  have ho2 := World.ownsRow.alloc ho1 (.cells #[.int .i64 E, .slice (some ⟨w.heap.size + 1, 0, none⟩) n n, .int .i64 L, .int .i64 Z] 26)
  have hb1 : Below w.heap.size w w1 := hb0.drew.trans (hw1.mono (by omega))
  have hb2 := hb1.alloc hb1.size (.cells #[.int .i64 E, .slice (some ⟨w.heap.size + 1, 0, none⟩) n n, .int .i64 L, .int .i64 Z] 26)
  have x1 : (w1.alloc (.cells #[.int .i64 E, .slice (some ⟨w.heap.size + 1, 0, none⟩) n n, .int .i64 L, .int .i64 Z] 26)).cell? ⟨w1.heap.size, 1, none⟩ = some (.slice (some ⟨w.heap.size + 1, 0, none⟩) n n) := hbl.cell 1
  have hsp : w.heap.size ≤ w1.heap.size := hb1.size
  have hS2 := hS.2.1
  have HBL := hid hbl
  have HO := hid ho2
  clear hbl ho2 ho1 hg1 hw1 hq
  go_wp2
  refine wp_region_held_drew (S := fun w' => w'.cell? ⟨w1.heap.size, 1, none⟩ = some (.slice (some ⟨w.heap.size + 1, 0, none⟩) n n) ∧ w'.cell? ⟨w.heap.size, 1, none⟩ = some (.slice a n ca)) (by kernel_rfl) (by exact ⟨x1, hS2⟩) (fun hS => ?_)
  refine wpAnyH_take (i := 0) (v := (.pointer (some ⟨w1.heap.size, 0, none⟩))) rfl (by as_aux_lemma => kernel_rfl) (by as_aux_lemma => kernel_rfl) (by as_aux_lemma => kernel_rfl) (fun _ _ _ h => h) (Or.inl ⟨by kernel_rfl, ?_⟩) hS ?_
  · intro w hSw; (try dsimp only at hSw); go_simp
  simp only [Act.put, List.getElem_toArray, List.getElem_cons_zero, List.getElem_cons_succ, List.setIfInBounds_toArray, List.set_cons_zero, List.set_cons_succ]
  refine wpAnyH_take (i := 1) (v := (.pointer (some ⟨w1.heap.size, 0, none⟩))) rfl (by as_aux_lemma => kernel_rfl) (by as_aux_lemma => kernel_rfl) (by as_aux_lemma => kernel_rfl) (fun _ _ _ h => h) (Or.inl ⟨by kernel_rfl, ?_⟩) hS ?_
  · intro w hSw; (try dsimp only at hSw); go_simp
  simp only [Act.put, List.getElem_toArray, List.getElem_cons_zero, List.getElem_cons_succ, List.setIfInBounds_toArray, List.set_cons_zero, List.set_cons_succ]
  refine wpAnyH_take (i := 2) (v := (.pointer (some ⟨w1.heap.size, 1, none⟩))) rfl (by as_aux_lemma => kernel_rfl) (by as_aux_lemma => kernel_rfl) (by as_aux_lemma => kernel_rfl) (fun _ _ _ h => h) (Or.inl ⟨by kernel_rfl, ?_⟩) hS ?_
  · intro w hSw; (try dsimp only at hSw); go_simp
  simp only [Act.put, List.getElem_toArray, List.getElem_cons_zero, List.getElem_cons_succ, List.setIfInBounds_toArray, List.set_cons_zero, List.set_cons_succ]
  refine wpAnyH_take (i := 3) (v := (.slice (some ⟨w.heap.size + 1, 0, none⟩) n n)) rfl (by as_aux_lemma => kernel_rfl) (by as_aux_lemma => kernel_rfl) (by as_aux_lemma => kernel_rfl) (fun _ _ _ h => h) (Or.inl ⟨by kernel_rfl, ?_⟩) hS ?_
  · intro w hSw; (try dsimp only at hSw); go_simp
  simp only [Act.put, List.getElem_toArray, List.getElem_cons_zero, List.getElem_cons_succ, List.setIfInBounds_toArray, List.set_cons_zero, List.set_cons_succ]
  refine wpAnyH_take (i := 4) (v := (.pointer (some ⟨w.heap.size, 1, none⟩))) rfl (by as_aux_lemma => kernel_rfl) (by as_aux_lemma => kernel_rfl) (by as_aux_lemma => kernel_rfl) (fun _ _ _ h => h) (Or.inl ⟨by kernel_rfl, ?_⟩) hS ?_
  · intro w hSw; (try dsimp only at hSw); go_simp
  simp only [Act.put, List.getElem_toArray, List.getElem_cons_zero, List.getElem_cons_succ, List.setIfInBounds_toArray, List.set_cons_zero, List.set_cons_succ]
  refine wpAnyH_take (i := 5) (v := (.slice a n ca)) rfl (by as_aux_lemma => kernel_rfl) (by as_aux_lemma => kernel_rfl) (by as_aux_lemma => kernel_rfl) (fun _ _ _ h => h) (Or.inl ⟨by kernel_rfl, ?_⟩) hS ?_
  · intro w hSw; (try dsimp only at hSw); go_simp
  simp only [Act.put, List.getElem_toArray, List.getElem_cons_zero, List.getElem_cons_succ, List.setIfInBounds_toArray, List.set_cons_zero, List.set_cons_succ]
  refine wpAnyH_ready (rs := [6]) (by as_aux_lemma => kernel_rfl) (by simp) ?_
  refine AllReadyH.cons rfl (fun K hK => ?_) AllReadyH.nil
  rw [if_pos (by rfl)]
  refine wp_copy_rd _ _ 24 24 rfl .i64 2 Try.underlying24 (by rw [hi]; simp [hz1]) a n ca (w.heap.size + 1) (w.heap.size + 1) n rfl rfl _ ms HO.out (ha.below hb2.drew) ?_
  intro w3 ho3 hg3
  have hk3 : ∀ {b i : Nat} {u : Value}, b ≠ w.heap.size + 1 → World.cell? _ ⟨b, i, none⟩ = some u → w3.cell? ⟨b, i, none⟩ = some u := fun hb h => grown_cell hg3 h (fun j hj => by cases hj; exact hb)
  have hbl3 := (show Blk (w1.alloc (.cells #[.int .i64 E, .slice (some ⟨w.heap.size + 1, 0, none⟩) n n, .int .i64 L, .int .i64 Z] 26)).drew w1.heap.size #[.int .i64 E, .slice (some ⟨w.heap.size + 1, 0, none⟩) n n, .int .i64 L, .int .i64 Z] 26 from HBL.out).kept hg3 (by simp; omega)
  refine hK.out _ _ ⟨hk3 (by omega) hS.1, hk3 (by omega) hS.2⟩ (fun hS => ?_)
  clear hK K
  refine wpAnyH_done (by kernel_rfl) ?_ _
  clear hS
  have hb3 := below_chg (lo := w.heap.size + 1) (hi := w.heap.size + 2) hb2.drew (Chg.of_grown hg3 (fun j hj => by cases hj; omega)) hb2.drew.size (by omega)
  have HB3 := hid hbl3
  have HO3 := hid ho3
  clear hbl3 ho3 hg3 hk3
  go_wp2
  go_ret
  exact ⟨_, _, rfl, HB3.out, Own.up HO3.out (by omega), hb3, hsp⟩

/-- Cut off ahead of a place. -/
theorem cut_from {w : World} {a : Option Addr} {n ca z : Nat} {xs : List Int} (h : Rd .u8 w a n xs) (hz : z ≤ n) (hca : n ≤ ca) : Rd .u8 w (if ca = z then a else a.map (fun x => x.add z)) (n - z) (xs.drop z) := by
  refine ⟨by rw [List.length_drop, h.1], ?_⟩
  by_cases h0 : n - z = 0
  · exact .inl h0
  · right
    obtain ⟨b, off, rfl, hc⟩ := h.at (show 0 < n by omega)
    refine ⟨b, off + z, ?_, fun j hj => ?_⟩
    · rw [if_neg (by omega)]
      simp [Addr.add_lit]
    · have := hc (z + j) (by omega)
      rw [Nat.add_assoc, this]
      simp [List.getD_eq_getElem?_getD, List.getElem?_drop]

set_option maxHeartbeats 800000 in
theorem extended_any (E : Int) (a : Option Addr) (n ca : Nat) (ms : List Int) (L Z : Int) (p : Option Addr) (m cp : Nat) (xs : List Int) (w : World) (ha : Rd .i64 w a n ms) (hp : Rd .u8 w p m xs) (h1 : n ≤ 1048576) (hmc : m ≤ cp) (hcm : cp ≤ maxLen) (hok : heardF E ms L Z m = 0) :
    Calls Try.prog 61 #[.agg #[.int .i64 E, .slice a n ca, .int .i64 L, .int .i64 Z], .agg #[.slice p m cp]] w fun e w' => ∃ q v, e = .returned (.pointer (some ⟨q, 0, none⟩)) ∧ Blk w' q #[.int .i64 E, v, .int .i64 (hearN L (xs.drop Z.toNat)), .int .i64 m] 26 ∧ Own .i64 2 w' w.heap.size v (ms ++ hearM E L Z (xs.drop Z.toNat)).length (ms ++ hearM E L Z (xs.drop Z.toNat)) ∧ Below w.heap.size w w' ∧ w.heap.size ≤ q := by
  obtain ⟨hif, hm, hZm⟩ := heardF_zero hok
  obtain ⟨hE1, hE2, hZ1, hZ2, hL1, hL2, -, -, hms⟩ := index_ok hif
  obtain ⟨z, rfl⟩ := Int.eq_ofNat_of_zero_le hZ1
  have hzm : z ≤ m := by omega
  have hlen := ha.1
  subst hlen
  have hcut := cut_from hp hzm hmc
  have hzz : (z : Int) + ((m - z : Nat) : Int) = (m : Int) := by omega
  have hzc : z ≤ cp := by omega
  have HCM := hid hcm
  clear hcm
  have B2 : ∀ o1 o2, Below w.heap.size w ((w.alloc o1).alloc o2) := fun o1 o2 => ((Below.refl _ _).alloc (Nat.le_refl _) o1).alloc (by simp) o2
  rw [Int.toNat_natCast]
  obtain ⟨r, hr⟩ : ∃ r, r = if cp = z then p else p.map (fun x => x.add z) := ⟨_, rfl⟩
  rw [← hr] at hcut
  have HCUT := hid hcut
  clear hcut
  by_cases hcz : cp = z
  · rw [if_pos hcz] at hr
    rw [hr] at HCUT
    clear hr r
    obtain rfl : z = cp := hcz.symm
    go_enter Try.func61, Try.ntmps61
    go_wp2_with fail
    refine (ownIndex_any E a ms.length ca ms L z _ (ha.below (B2 _ _)) h1).mono ?_
    rintro e w1 ⟨q, v, rfl, hbl, ho, hb1, hq⟩
    have hb01 := (B2 _ _).trans (hb1.mono (by simp; omega))
    have d0 : w1.cell? ⟨w.heap.size + 1, 0, none⟩ = some (.slice p m z) := cell_later hb1 (by simp [go_sem])
    have d3 : w1.cell? ⟨w.heap.size, 3, none⟩ = some (.int .i64 z) := cell_later hb1 (by simp [go_sem])
    simp at hq
    have hu := Own.up (base' := w.heap.size) ho (by simp; omega)
    have HBL := hid hbl
    have HO := hid hu
    clear hbl ho hu
    go_wp2_with fail
    have hmz : m - z = 0 := by omega
    rw [hmz] at HCUT hzz
    refine (hear_any q w.heap.size E L z ms v p 0 0 (xs.drop z) w w1 HBL.out HO.out HCUT.out hb01 (by omega) (Nat.le_refl _) hb01.size hE1 hE2 hL1 (by omega) hZ1 hZ2 (by omega) hms).mono ?_
    rintro e w2 ⟨r, v', rfl, hbl2, ho2, hb2, -⟩
    rw [hzz] at hbl2
    have HBL2 := hid hbl2
    have HO2 := hid ho2
    clear hbl2 ho2
    go_wp2
    go_ret
    exact ⟨_, _, rfl, HBL2.out, HO2.out, hb2, by omega⟩
  · rw [if_neg hcz] at hr
    rw [hr] at HCUT
    clear hr r
    go_enter Try.func61, Try.ntmps61
    go_wp2_with fail
    refine (ownIndex_any E a ms.length ca ms L z _ (ha.below (B2 _ _)) h1).mono ?_
    rintro e w1 ⟨q, v, rfl, hbl, ho, hb1, hq⟩
    have hb01 := (B2 _ _).trans (hb1.mono (by simp; omega))
    have d0 : w1.cell? ⟨w.heap.size + 1, 0, none⟩ = some (.slice p m cp) := cell_later hb1 (by simp [go_sem])
    have d3 : w1.cell? ⟨w.heap.size, 3, none⟩ = some (.int .i64 z) := cell_later hb1 (by simp [go_sem])
    simp at hq
    have hu := Own.up (base' := w.heap.size) ho (by simp; omega)
    have HBL := hid hbl
    have HO := hid hu
    clear hbl ho hu
    go_wp2_with fail
    refine (hear_any q w.heap.size E L z ms v _ (m - z) _ (xs.drop z) w w1 HBL.out HO.out HCUT.out hb01 (by omega) (Nat.le_refl _) hb01.size hE1 hE2 hL1 (by omega) hZ1 hZ2 (by omega) hms).mono ?_
    rintro e w2 ⟨r, v', rfl, hbl2, ho2, hb2, -⟩
    rw [hzz] at hbl2
    have HBL2 := hid hbl2
    have HO2 := hid ho2
    clear hbl2 ho2
    go_wp2
    go_ret
    exact ⟨_, _, rfl, HBL2.out, HO2.out, hb2, by omega⟩
end Go.Proofs.Ythdglflipeggpaa
