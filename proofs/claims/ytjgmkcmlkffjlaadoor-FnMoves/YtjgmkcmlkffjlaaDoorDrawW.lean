/-
  Draws of files with layouts and spots.
-/
import Derived.Test.YtjgmkcmlkffjlaaDoorDrawL
import Derived.Test.YtjgmkcmlkffjlaaDoorRow9
import Derived.Test.YtjgmkcmlkffjlaaDoorLater
namespace Go.Proofs.YtjgmkcmlkffjlaaDoor
open Go.RowKit
set_option linter.unusedVariables false
set_option linter.unusedSimpArgs false

theorem sp_zero {cs : List Nat} (hpos : ∀ c ∈ cs, 1 ≤ c) : SpAt cs 0 (0, 0) := by
  by_cases he : cs = []
  · subst he
    exact ⟨0, 0, 1, by simp, by simp [cs1], by omega, by simp [baseN]⟩
  · have hl : 0 < cs.length := List.length_pos_iff.2 he
    have hc : cs1 cs = cs := by simp [cs1, he]
    have hp := hpos _ (List.getElem_mem hl)
    exact ⟨0, 0, cs[0], by simp, by rw [hc]; exact List.getElem?_eq_getElem hl, by omega, by simp [baseN]⟩
theorem sp_i64 {C : Bool} {W : Int} {xs : List Int} (hB : Bytes xs) (hn : xs.length ≤ 400) (hW : 1 ≤ W) (r : Int) : i64Sp (spMove (cnt C W xs) (0, 0) r) := by
  have h := spMove_at (cnt_pos hW) (sp_zero (cnt_pos (C := C) (xs := xs) hW)) r
  have h2 := spAll_small hB hn hW _ (List.mem_of_getElem? h.get)
  obtain ⟨⟨h3, h4⟩, h5, h6⟩ := h2
  exact ⟨⟨by omega, by omega⟩, by omega, by omega⟩
theorem l10BaseB (b b2 : Nat) (a : Option Addr) (n ca : Nat) (W S : Int) (C : Bool) (q : Int) (hq : spBase n W C S = q) (w : World) (hc : w.cell? ⟨b, 0, none⟩ = some (.slice a n ca)) (hn : n ≤ 1073741824)
    (c0 : w.cell? ⟨b2, 0, none⟩ = some (.int .i64 W)) (c1 : w.cell? ⟨b2, 1, none⟩ = some (.bool C)) (c2 : w.cell? ⟨b2, 2, none⟩ = some (.int .i64 S)) :
    Calls Tryd.prog 32 #[.pointer (some ⟨b, 0, none⟩), .pointer (some ⟨b2, 0, none⟩)] w fun e w' => e = .returned (.int .i64 q) ∧ Below w.heap.size w w' :=
  (l10Base_any b b2 a n ca W S C w hc hn c0 c1 c2).mono (fun e w'' h => ⟨hq ▸ h.1, h.2 ▸ Below.refl _ _⟩)

set_option maxRecDepth 10000 in
set_option maxHeartbeats 6400000 in
theorem l10With_any (a : Option Addr) (n ca : Nat) (xs : List Int) (w : World) (ha : Rd .u8 w a n xs) (hB : Bytes xs) (hn : n ≤ 1048576) :
    Calls Tryd.prog 14 #[.slice a n ca] w fun e w' => ∃ v ys W Q S L R, e = .returned (.tuple #[.agg #[v], .agg #[.int .i64 W, .bool Q, .int .i64 S], .agg #[.int .i64 L, .int .i64 R]]) ∧ RowI .u8 5 w' w.heap.size w'.heap.size v ys.length ys ∧ ys.length ≤ 401 ∧ Bytes ys ∧ i64Sp (L, R) ∧ Below w.heap.size w w' := by
  go_enter Tryd.func14, Tryd.ntmps14
  have hb : Below w.heap.size w w := Below.refl _ _
  go_wp2_with fail
  have bp : ∀ o0 o1 o2, Below w.heap.size w (((w.alloc o0).alloc o1).alloc o2) := fun o0 o1 o2 => (((Below.refl _ _).alloc (Nat.le_refl _) o0).alloc (by simp) o1).alloc (by simp; omega) o2
  have hbt : ∀ o0 o1 o2, Below w.heap.size w (((w.alloc o0).alloc o1).alloc o2) := fun o0 o1 o2 => hb.trans ((bp o0 o1 o2).mono hb.size)
  refine Calls.mono (l1Source_any a n ca xs w.heap.size _ (ha.below (hbt _ _ _)) hB hn (src_below ha) (by simp; omega)) ?_
  rintro e w1 ⟨rfl, hs, hc⟩
  (try simp only [World.size_alloc] at hs)
  have s1 : w.heap.size + 3 ≤ w1.heap.size := by have := hc.size; simp at this; omega
  have bq : Below w.heap.size w w1 := (bp _ _ _).trans (hc.mono (bp _ _ _).size)
  have cA0 : w1.cell? ⟨w.heap.size, 0, none⟩ = some (.slice none 0 0) := cell_later hc (by simp [go_sem])
  have fA0 : w1.frozen? ⟨w.heap.size, 0, none⟩ = false := (hc.frozen (p := ⟨w.heap.size, 0, none⟩) (by first | (simp; done) | (simp; omega))).trans (by simp [go_sem])
  have zA : w.heap.size < w1.heap.size := by omega
  have cB0 : w1.cell? ⟨w.heap.size + 1, 0, none⟩ = some (.int .i64 0) := cell_later hc (by simp [go_sem])
  have fB0 : w1.frozen? ⟨w.heap.size + 1, 0, none⟩ = false := (hc.frozen (p := ⟨w.heap.size + 1, 0, none⟩) (by first | (simp; done) | (simp; omega))).trans (by simp [go_sem])
  have cB1 : w1.cell? ⟨w.heap.size + 1, 1, none⟩ = some (.bool false) := cell_later hc (by simp [go_sem])
  have fB1 : w1.frozen? ⟨w.heap.size + 1, 1, none⟩ = false := (hc.frozen (p := ⟨w.heap.size + 1, 1, none⟩) (by first | (simp; done) | (simp; omega))).trans (by simp [go_sem])
  have cB2 : w1.cell? ⟨w.heap.size + 1, 2, none⟩ = some (.int .i64 0) := cell_later hc (by simp [go_sem])
  have fB2 : w1.frozen? ⟨w.heap.size + 1, 2, none⟩ = false := (hc.frozen (p := ⟨w.heap.size + 1, 2, none⟩) (by first | (simp; done) | (simp; omega))).trans (by simp [go_sem])
  have zB : w.heap.size + 1 < w1.heap.size := by omega
  have cC0 : w1.cell? ⟨w.heap.size + 1 + 1, 0, none⟩ = some (.int .i64 0) := cell_later hc (by simp [go_sem])
  have fC0 : w1.frozen? ⟨w.heap.size + 1 + 1, 0, none⟩ = false := (hc.frozen (p := ⟨w.heap.size + 1 + 1, 0, none⟩) (by first | (simp; done) | (simp; omega))).trans (by simp [go_sem])
  have cC1 : w1.cell? ⟨w.heap.size + 1 + 1, 1, none⟩ = some (.int .i64 0) := cell_later hc (by simp [go_sem])
  have fC1 : w1.frozen? ⟨w.heap.size + 1 + 1, 1, none⟩ = false := (hc.frozen (p := ⟨w.heap.size + 1 + 1, 1, none⟩) (by first | (simp; done) | (simp; omega))).trans (by simp [go_sem])
  have zC : w.heap.size + 1 + 1 < w1.heap.size := by omega
  replace hb := hb.trans (bq.mono hb.size)
  clear hc bq bp hbt
  have zsrc := hs.lt
  have zsrc0 := zsrc
  go_wp2_with fail
  refine Calls.mono (l2Bent_any w.heap.size (w.heap.size + 1 + 1 + 1) 0 _ hs (by omega)) ?_
  clear hs
  rintro e w2 ⟨v, ys, rfl, rv, hyl, hyb, hs, hc⟩
  obtain ⟨av, kv, rfl, hkv1, hkv2⟩ := rv.shape
  have s2 : w1.heap.size ≤ w2.heap.size := hc.size
  have gq : w1.grownBy w2 (some (w.heap.size + 1 + 1 + 1)) := hc
  replace cA0 := (Chg.one gq).at cA0 zA (by omega)
  replace fA0 := (Chg.one gq).fr fA0 zA (by omega)
  replace zA := Nat.lt_of_lt_of_le zA gq.size
  replace cB0 := (Chg.one gq).at cB0 zB (by omega)
  replace fB0 := (Chg.one gq).fr fB0 zB (by omega)
  replace cB1 := (Chg.one gq).at cB1 zB (by omega)
  replace fB1 := (Chg.one gq).fr fB1 zB (by omega)
  replace cB2 := (Chg.one gq).at cB2 zB (by omega)
  replace fB2 := (Chg.one gq).fr fB2 zB (by omega)
  replace zB := Nat.lt_of_lt_of_le zB gq.size
  replace cC0 := (Chg.one gq).at cC0 zC (by omega)
  replace fC0 := (Chg.one gq).fr fC0 zC (by omega)
  replace cC1 := (Chg.one gq).at cC1 zC (by omega)
  replace fC1 := (Chg.one gq).fr fC1 zC (by omega)
  replace zC := Nat.lt_of_lt_of_le zC gq.size
  replace hb := below_src hb gq (by omega)
  clear hc gq
  replace zsrc := hs.lt
  go_wp2_with fail
  refine Calls.mono (l10Bent_any w.heap.size (w.heap.size + 1 + 1 + 1) _ _ (hs.alloc _) (by omega) (by have := hb.size; simp; omega)) ?_
  clear hs
  rintro e w3 ⟨W, Q, S, rfl, hs, hc⟩
  have s3 : w2.heap.size + 1 ≤ w3.heap.size := by have := hc.size; simp at this; omega
  have gq : w2.grownBy w3 (some (w.heap.size + 1 + 1 + 1)) := (grownBy_alloc_trans hc)
  replace cA0 := (Chg.one gq).at cA0 zA (by omega)
  replace fA0 := (Chg.one gq).fr fA0 zA (by omega)
  replace zA := Nat.lt_of_lt_of_le zA gq.size
  replace cB0 := (Chg.one gq).at cB0 zB (by omega)
  replace fB0 := (Chg.one gq).fr fB0 zB (by omega)
  replace cB1 := (Chg.one gq).at cB1 zB (by omega)
  replace fB1 := (Chg.one gq).fr fB1 zB (by omega)
  replace cB2 := (Chg.one gq).at cB2 zB (by omega)
  replace fB2 := (Chg.one gq).fr fB2 zB (by omega)
  replace zB := Nat.lt_of_lt_of_le zB gq.size
  replace cC0 := (Chg.one gq).at cC0 zC (by omega)
  replace fC0 := (Chg.one gq).fr fC0 zC (by omega)
  replace cC1 := (Chg.one gq).at cC1 zC (by omega)
  replace fC1 := (Chg.one gq).fr fC1 zC (by omega)
  replace zC := Nat.lt_of_lt_of_le zC gq.size
  have cF0 : w3.cell? ⟨w2.heap.size, 0, none⟩ = some (.slice av ys.length kv) := (Chg.one hc).at (by simp [go_sem]) (by first | (simp; done) | (simp; omega)) (by omega)
  have zF : w2.heap.size < w3.heap.size := by omega
  replace rv := rv.chg (Chg.one gq) (by omega)
  replace hb := below_src hb gq (by omega)
  clear hc gq
  replace zsrc := hs.lt
  by_cases hq : spBase ys.length W Q S = 0
  · skip
    clear ha hB hn
    go_wp2_with fail
    refine Calls.mono (l10BaseB (w2.heap.size) (w3.heap.size) av ys.length kv W S Q 0 hq _ (cell_later ((Below.refl _ _).alloc (Nat.le_refl _) _) cF0) (by omega) (by simp [go_sem]) (by simp [go_sem]) (by simp [go_sem])) ?_
    rintro e w4 ⟨rfl, hc⟩
    have hs2 := (hs.alloc _).kept (grownBy_of_below hc) (by simp)
    clear hs
    have hs := hs2
    clear hs2
    replace hc := grown_none (row := some (w.heap.size + 1 + 1 + 1)) (grownBy_of_below hc)
    have s4 : w3.heap.size + 1 ≤ w4.heap.size := by have := hc.size; simp at this; omega
    have gq : w3.grownBy w4 (some (w.heap.size + 1 + 1 + 1)) := (grownBy_alloc_trans hc)
    replace cA0 := (Chg.one gq).at cA0 zA (by omega)
    replace fA0 := (Chg.one gq).fr fA0 zA (by omega)
    replace zA := Nat.lt_of_lt_of_le zA gq.size
    replace cB0 := (Chg.one gq).at cB0 zB (by omega)
    replace fB0 := (Chg.one gq).fr fB0 zB (by omega)
    replace cB1 := (Chg.one gq).at cB1 zB (by omega)
    replace fB1 := (Chg.one gq).fr fB1 zB (by omega)
    replace cB2 := (Chg.one gq).at cB2 zB (by omega)
    replace fB2 := (Chg.one gq).fr fB2 zB (by omega)
    replace zB := Nat.lt_of_lt_of_le zB gq.size
    replace cC0 := (Chg.one gq).at cC0 zC (by omega)
    replace fC0 := (Chg.one gq).fr fC0 zC (by omega)
    replace cC1 := (Chg.one gq).at cC1 zC (by omega)
    replace fC1 := (Chg.one gq).fr fC1 zC (by omega)
    replace zC := Nat.lt_of_lt_of_le zC gq.size
    replace cF0 := (Chg.one gq).at cF0 zF (by omega)
    replace zF := Nat.lt_of_lt_of_le zF gq.size
    have cL0 : w4.cell? ⟨w3.heap.size, 0, none⟩ = some (.int .i64 W) := (Chg.one hc).at (by simp [go_sem]) (by first | (simp; done) | (simp; omega)) (by omega)
    have cL1 : w4.cell? ⟨w3.heap.size, 1, none⟩ = some (.bool Q) := (Chg.one hc).at (by simp [go_sem]) (by first | (simp; done) | (simp; omega)) (by omega)
    have cL2 : w4.cell? ⟨w3.heap.size, 2, none⟩ = some (.int .i64 S) := (Chg.one hc).at (by simp [go_sem]) (by first | (simp; done) | (simp; omega)) (by omega)
    have zL : w3.heap.size < w4.heap.size := by omega
    replace rv := rv.chg (Chg.one gq) (by omega)
    replace hb := below_src hb gq (by omega)
    clear hc gq
    replace zsrc := hs.lt
    go_wp2_with fail
    refine Calls.mono (l1Chance_any w.heap.size (w.heap.size + 1 + 1 + 1) _ 10 _ hs (by omega) (by omega)) ?_
    clear hs
    rintro e w5 ⟨c, rfl, hs, hc⟩
    have s5 : w4.heap.size ≤ w5.heap.size := hc.size
    have gq : w4.grownBy w5 (some (w.heap.size + 1 + 1 + 1)) := hc
    replace cA0 := (Chg.one gq).at cA0 zA (by omega)
    replace fA0 := (Chg.one gq).fr fA0 zA (by omega)
    replace zA := Nat.lt_of_lt_of_le zA gq.size
    replace cB0 := (Chg.one gq).at cB0 zB (by omega)
    replace fB0 := (Chg.one gq).fr fB0 zB (by omega)
    replace cB1 := (Chg.one gq).at cB1 zB (by omega)
    replace fB1 := (Chg.one gq).fr fB1 zB (by omega)
    replace cB2 := (Chg.one gq).at cB2 zB (by omega)
    replace fB2 := (Chg.one gq).fr fB2 zB (by omega)
    replace zB := Nat.lt_of_lt_of_le zB gq.size
    replace cC0 := (Chg.one gq).at cC0 zC (by omega)
    replace fC0 := (Chg.one gq).fr fC0 zC (by omega)
    replace cC1 := (Chg.one gq).at cC1 zC (by omega)
    replace fC1 := (Chg.one gq).fr fC1 zC (by omega)
    replace zC := Nat.lt_of_lt_of_le zC gq.size
    replace cF0 := (Chg.one gq).at cF0 zF (by omega)
    replace zF := Nat.lt_of_lt_of_le zF gq.size
    replace cL0 := (Chg.one gq).at cL0 zL (by omega)
    replace cL1 := (Chg.one gq).at cL1 zL (by omega)
    replace cL2 := (Chg.one gq).at cL2 zL (by omega)
    replace zL := Nat.lt_of_lt_of_le zL gq.size
    replace rv := rv.chg (Chg.one gq) (by omega)
    replace hb := below_src hb gq (by omega)
    clear hc gq
    replace zsrc := hs.lt
    cases c
    case true =>
      go_wp2_with fail
      have bd : Below w5.heap.size w5 w5.drew := (Below.refl _ _).drew
      refine wp_region_held_drew (S := fun w' => Below w.heap.size w w' ∧ w'.cell? ⟨w2.heap.size, 0, none⟩ = some (.slice av ys.length kv) ∧ w'.cell? ⟨w3.heap.size, 0, none⟩ = some (.int .i64 W) ∧ w'.cell? ⟨w3.heap.size, 1, none⟩ = some (.bool Q) ∧ w'.cell? ⟨w3.heap.size, 2, none⟩ = some (.int .i64 S)) (by kernel_rfl) ⟨(hb.trans (bd.mono hb.size)), cell_later bd cF0, cell_later bd cL0, cell_later bd cL1, cell_later bd cL2⟩ (fun hS => ?_)
      obtain ⟨D5, hD⟩ : ∃ D, w5.drew = D := ⟨_, rfl⟩
      rw [hD] at hS bd ⊢
      have hc := bd
      clear hD bd
      have hs2 := hs.kept (grownBy_of_below hc) (by simp)
      clear hs
      have hs := hs2
      clear hs2
      replace hc := grown_none (row := some (w.heap.size + 1 + 1 + 1)) (grownBy_of_below hc)
      have s6 : w5.heap.size ≤ D5.heap.size := hc.size
      have gq : w5.grownBy D5 (some (w.heap.size + 1 + 1 + 1)) := hc
      replace cA0 := (Chg.one gq).at cA0 zA (by omega)
      replace fA0 := (Chg.one gq).fr fA0 zA (by omega)
      replace zA := Nat.lt_of_lt_of_le zA gq.size
      replace cB0 := (Chg.one gq).at cB0 zB (by omega)
      replace fB0 := (Chg.one gq).fr fB0 zB (by omega)
      replace cB1 := (Chg.one gq).at cB1 zB (by omega)
      replace fB1 := (Chg.one gq).fr fB1 zB (by omega)
      replace cB2 := (Chg.one gq).at cB2 zB (by omega)
      replace fB2 := (Chg.one gq).fr fB2 zB (by omega)
      replace zB := Nat.lt_of_lt_of_le zB gq.size
      replace cC0 := (Chg.one gq).at cC0 zC (by omega)
      replace fC0 := (Chg.one gq).fr fC0 zC (by omega)
      replace cC1 := (Chg.one gq).at cC1 zC (by omega)
      replace fC1 := (Chg.one gq).fr fC1 zC (by omega)
      replace zC := Nat.lt_of_lt_of_le zC gq.size
      replace cF0 := (Chg.one gq).at cF0 zF (by omega)
      replace zF := Nat.lt_of_lt_of_le zF gq.size
      replace cL0 := (Chg.one gq).at cL0 zL (by omega)
      replace cL1 := (Chg.one gq).at cL1 zL (by omega)
      replace cL2 := (Chg.one gq).at cL2 zL (by omega)
      replace zL := Nat.lt_of_lt_of_le zL gq.size
      replace rv := rv.chg (Chg.one gq) (by omega)
      replace hb := below_src hb gq (by omega)
      clear hc gq
      replace zsrc := hs.lt
      refine wpAnyH_take (i := 0) (v := (.agg #[.slice av ys.length kv])) rfl (by as_aux_lemma => kernel_rfl) (by as_aux_lemma => kernel_rfl) (by as_aux_lemma => kernel_rfl) (fun _ _ _ h => h) (Or.inl ⟨by kernel_rfl, ?_⟩) hS ?_
      · intro w hSw; (try dsimp only at hSw); obtain ⟨hSb, hl0, hl1, hl2, hl3⟩ := hSw; go_simp
      (try simp only [Act.put, List.getElem_toArray, List.getElem_cons_zero, List.getElem_cons_succ, List.setIfInBounds_toArray, List.set_cons_zero, List.set_cons_succ])
      refine wpAnyH_take (i := 1) (v := (.agg #[.int .i64 W, .bool Q, .int .i64 S])) rfl (by as_aux_lemma => kernel_rfl) (by as_aux_lemma => kernel_rfl) (by as_aux_lemma => kernel_rfl) (fun _ _ _ h => h) (Or.inl ⟨by kernel_rfl, ?_⟩) hS ?_
      · intro w hSw; (try dsimp only at hSw); obtain ⟨hSb, hl0, hl1, hl2, hl3⟩ := hSw; go_simp
      (try simp only [Act.put, List.getElem_toArray, List.getElem_cons_zero, List.getElem_cons_succ, List.setIfInBounds_toArray, List.set_cons_zero, List.set_cons_succ])
      refine wpAnyH_take (i := 2) (v := (.pointer (some ⟨w.heap.size + 1 + 1 + 1, 0, none⟩))) rfl (by as_aux_lemma => kernel_rfl) (by as_aux_lemma => kernel_rfl) (by as_aux_lemma => kernel_rfl) (fun _ _ _ h => h) (Or.inl ⟨by kernel_rfl, ?_⟩) hS ?_
      · intro w hSw; (try dsimp only at hSw); go_simp
      (try simp only [Act.put, List.getElem_toArray, List.getElem_cons_zero, List.getElem_cons_succ, List.setIfInBounds_toArray, List.set_cons_zero, List.set_cons_succ])
      refine wpAnyH_take (i := 5) (v := (.pointer (some ⟨w.heap.size + 1 + 1 + 1, 0, none⟩))) rfl (by as_aux_lemma => kernel_rfl) (by as_aux_lemma => kernel_rfl) (by as_aux_lemma => kernel_rfl) (fun _ _ _ h => h) (Or.inl ⟨by kernel_rfl, ?_⟩) hS ?_
      · intro w hSw; (try dsimp only at hSw); go_simp
      (try simp only [Act.put, List.getElem_toArray, List.getElem_cons_zero, List.getElem_cons_succ, List.setIfInBounds_toArray, List.set_cons_zero, List.set_cons_succ])
      refine wpAnyH_ready (rs := [3]) (by as_aux_lemma => kernel_rfl) (by simp) ?_
      refine AllReadyH.cons rfl (fun K hK => ?_) AllReadyH.nil
      go_simp
      refine Calls.mono (l1Next_any w.heap.size (w.heap.size + 1 + 1 + 1) _ 4 _ hs (by omega) (by omega)) ?_
      clear hs
      rintro e w7 ⟨p, rfl, hp, hs, hc⟩
      obtain ⟨hp1, hp2⟩ := hp.2 (by omega)
      have hwp : IntKind.i64.wrap (p - 1) = p - 1 := by rw [IntKind.wrap_i64] <;> omega
      have s7 : D5.heap.size ≤ w7.heap.size := hc.size
      have gq : D5.grownBy w7 (some (w.heap.size + 1 + 1 + 1)) := hc
      replace cA0 := (Chg.one gq).at cA0 zA (by omega)
      replace fA0 := (Chg.one gq).fr fA0 zA (by omega)
      replace zA := Nat.lt_of_lt_of_le zA gq.size
      replace cB0 := (Chg.one gq).at cB0 zB (by omega)
      replace fB0 := (Chg.one gq).fr fB0 zB (by omega)
      replace cB1 := (Chg.one gq).at cB1 zB (by omega)
      replace fB1 := (Chg.one gq).fr fB1 zB (by omega)
      replace cB2 := (Chg.one gq).at cB2 zB (by omega)
      replace fB2 := (Chg.one gq).fr fB2 zB (by omega)
      replace zB := Nat.lt_of_lt_of_le zB gq.size
      replace cC0 := (Chg.one gq).at cC0 zC (by omega)
      replace fC0 := (Chg.one gq).fr fC0 zC (by omega)
      replace cC1 := (Chg.one gq).at cC1 zC (by omega)
      replace fC1 := (Chg.one gq).fr fC1 zC (by omega)
      replace zC := Nat.lt_of_lt_of_le zC gq.size
      replace cF0 := (Chg.one gq).at cF0 zF (by omega)
      replace zF := Nat.lt_of_lt_of_le zF gq.size
      replace cL0 := (Chg.one gq).at cL0 zL (by omega)
      replace cL1 := (Chg.one gq).at cL1 zL (by omega)
      replace cL2 := (Chg.one gq).at cL2 zL (by omega)
      replace zL := Nat.lt_of_lt_of_le zL gq.size
      replace rv := rv.chg (Chg.one gq) (by omega)
      replace hb := below_src hb gq (by omega)
      clear hc gq
      replace zsrc := hs.lt
      refine hK.out _ _ (⟨hb, cF0, cL0, cL1, cL2⟩) (fun hS => ?_)
      clear hK K
      (try simp only [Act.put, List.getElem_toArray, List.getElem_cons_zero, List.getElem_cons_succ, List.setIfInBounds_toArray, List.set_cons_zero, List.set_cons_succ])
      refine wpAnyH_take (i := 4) (v := (.int .i64 (p - 1))) rfl (by as_aux_lemma => kernel_rfl) (by as_aux_lemma => kernel_rfl) (by as_aux_lemma => kernel_rfl) (fun _ _ _ h => h) (Or.inl ⟨by kernel_rfl, ?_⟩) hS ?_
      · intro w hSw; (try dsimp only at hSw); go_simp
      (try simp only [Act.put, List.getElem_toArray, List.getElem_cons_zero, List.getElem_cons_succ, List.setIfInBounds_toArray, List.set_cons_zero, List.set_cons_succ])
      refine wpAnyH_ready (rs := [6]) (by as_aux_lemma => kernel_rfl) (by simp) ?_
      refine AllReadyH.cons rfl (fun K hK => ?_) AllReadyH.nil
      go_simp
      refine Calls.mono (l1Next_any w.heap.size (w.heap.size + 1 + 1 + 1) _ 3 _ hs (by omega) (by omega)) ?_
      clear hs
      rintro e w8 ⟨q, rfl, hq3, hs, hc⟩
      obtain ⟨hq1, hq2⟩ := hq3.2 (by omega)
      have hwq : IntKind.i64.wrap (q - 1) = q - 1 := by rw [IntKind.wrap_i64] <;> omega
      have s8 : w7.heap.size ≤ w8.heap.size := hc.size
      have gq : w7.grownBy w8 (some (w.heap.size + 1 + 1 + 1)) := hc
      replace cA0 := (Chg.one gq).at cA0 zA (by omega)
      replace fA0 := (Chg.one gq).fr fA0 zA (by omega)
      replace zA := Nat.lt_of_lt_of_le zA gq.size
      replace cB0 := (Chg.one gq).at cB0 zB (by omega)
      replace fB0 := (Chg.one gq).fr fB0 zB (by omega)
      replace cB1 := (Chg.one gq).at cB1 zB (by omega)
      replace fB1 := (Chg.one gq).fr fB1 zB (by omega)
      replace cB2 := (Chg.one gq).at cB2 zB (by omega)
      replace fB2 := (Chg.one gq).fr fB2 zB (by omega)
      replace zB := Nat.lt_of_lt_of_le zB gq.size
      replace cC0 := (Chg.one gq).at cC0 zC (by omega)
      replace fC0 := (Chg.one gq).fr fC0 zC (by omega)
      replace cC1 := (Chg.one gq).at cC1 zC (by omega)
      replace fC1 := (Chg.one gq).fr fC1 zC (by omega)
      replace zC := Nat.lt_of_lt_of_le zC gq.size
      replace cF0 := (Chg.one gq).at cF0 zF (by omega)
      replace zF := Nat.lt_of_lt_of_le zF gq.size
      replace cL0 := (Chg.one gq).at cL0 zL (by omega)
      replace cL1 := (Chg.one gq).at cL1 zL (by omega)
      replace cL2 := (Chg.one gq).at cL2 zL (by omega)
      replace zL := Nat.lt_of_lt_of_le zL gq.size
      replace rv := rv.chg (Chg.one gq) (by omega)
      replace hb := below_src hb gq (by omega)
      clear hc gq
      replace zsrc := hs.lt
      refine hK.out _ _ (⟨hb, cF0, cL0, cL1, cL2⟩) (fun hS => ?_)
      clear hK K
      (try simp only [Act.put, List.getElem_toArray, List.getElem_cons_zero, List.getElem_cons_succ, List.setIfInBounds_toArray, List.set_cons_zero, List.set_cons_succ])
      refine wpAnyH_take (i := 7) (v := (.int .i64 (q - 1))) rfl (by as_aux_lemma => kernel_rfl) (by as_aux_lemma => kernel_rfl) (by as_aux_lemma => kernel_rfl) (fun _ _ _ h => h) (Or.inl ⟨by kernel_rfl, ?_⟩) hS ?_
      · intro w hSw; (try dsimp only at hSw); go_simp
      (try simp only [Act.put, List.getElem_toArray, List.getElem_cons_zero, List.getElem_cons_succ, List.setIfInBounds_toArray, List.set_cons_zero, List.set_cons_succ])
      refine wpAnyH_take (i := 8) (v := (.agg #[.int .i64 (p - 1), .int .i64 (q - 1)])) rfl (by as_aux_lemma => kernel_rfl) (by as_aux_lemma => kernel_rfl) (by as_aux_lemma => kernel_rfl) (fun _ _ _ h => h) (Or.inl ⟨by kernel_rfl, ?_⟩) hS ?_
      · intro w hSw; (try dsimp only at hSw); go_simp
      (try simp only [Act.put, List.getElem_toArray, List.getElem_cons_zero, List.getElem_cons_succ, List.setIfInBounds_toArray, List.set_cons_zero, List.set_cons_succ])
      refine wpAnyH_ready (rs := [9]) (by as_aux_lemma => kernel_rfl) (by simp) ?_
      refine AllReadyH.cons rfl (fun K hK => ?_) AllReadyH.nil
      go_simp
      refine hK.out _ _ (⟨(hb.setCell (by first | omega | (simp; omega) | simp) _), (cell_set1 cF0 (by omega)), (cell_set1 cL0 (by omega)), (cell_set1 cL1 (by omega)), (cell_set1 cL2 (by omega))⟩) (fun hS => ?_)
      clear hK K
      (try simp only [Act.put, List.getElem_toArray, List.getElem_cons_zero, List.getElem_cons_succ, List.setIfInBounds_toArray, List.set_cons_zero, List.set_cons_succ])
      have hc : w8.grownBy (w8.setCell ⟨w.heap.size, 0, none⟩ (.slice av ys.length kv)) (some (w.heap.size)) := (setCell_grown w8 (w.heap.size) 0 (.slice av ys.length kv))
      have hs2 := hs.kept hc (fun j hj => by cases hj; exact ⟨by omega, by omega⟩)
      clear hs
      have hs := hs2
      clear hs2
      have e0 : (w8.setCell ⟨w.heap.size, 0, none⟩ (.slice av ys.length kv)).cell? ⟨w.heap.size, 0, none⟩ = some (.slice av ys.length kv) := by simp [go_sem, cA0]
      generalize (w8.setCell ⟨w.heap.size, 0, none⟩ (.slice av ys.length kv)) = w9 at *
      clear cA0 fA0
      have cA0 := e0
      clear e0
      replace zA : w.heap.size < w9.heap.size := Nat.lt_of_lt_of_le zA hc.size
      have s9 : w8.heap.size ≤ w9.heap.size := hc.size
      have gq : w8.grownBy w9 (some (w.heap.size)) := hc
      replace cB0 := (Chg.one gq).at cB0 zB (by omega)
      replace fB0 := (Chg.one gq).fr fB0 zB (by omega)
      replace cB1 := (Chg.one gq).at cB1 zB (by omega)
      replace fB1 := (Chg.one gq).fr fB1 zB (by omega)
      replace cB2 := (Chg.one gq).at cB2 zB (by omega)
      replace fB2 := (Chg.one gq).fr fB2 zB (by omega)
      replace zB := Nat.lt_of_lt_of_le zB gq.size
      replace cC0 := (Chg.one gq).at cC0 zC (by omega)
      replace fC0 := (Chg.one gq).fr fC0 zC (by omega)
      replace cC1 := (Chg.one gq).at cC1 zC (by omega)
      replace fC1 := (Chg.one gq).fr fC1 zC (by omega)
      replace zC := Nat.lt_of_lt_of_le zC gq.size
      replace cF0 := (Chg.one gq).at cF0 zF (by omega)
      replace zF := Nat.lt_of_lt_of_le zF gq.size
      replace cL0 := (Chg.one gq).at cL0 zL (by omega)
      replace cL1 := (Chg.one gq).at cL1 zL (by omega)
      replace cL2 := (Chg.one gq).at cL2 zL (by omega)
      replace zL := Nat.lt_of_lt_of_le zL gq.size
      replace rv := rv.chg (Chg.one gq) (by omega)
      replace hb := below_src hb gq (by omega)
      clear hc gq
      replace zsrc := hs.lt
      refine wpAnyH_ready (rs := [10]) (by as_aux_lemma => kernel_rfl) (by simp) ?_
      refine AllReadyH.cons rfl (fun K hK => ?_) AllReadyH.nil
      go_simp
      refine hK.out _ _ (⟨(((hb.setCell (by first | omega | (simp; omega) | simp) _).setCell (by first | omega | (simp; omega) | simp) _).setCell (by first | omega | (simp; omega) | simp) _), (cell_set1 (cell_set1 (cell_set1 cF0 (by omega)) (by omega)) (by omega)), (cell_set1 (cell_set1 (cell_set1 cL0 (by omega)) (by omega)) (by omega)), (cell_set1 (cell_set1 (cell_set1 cL1 (by omega)) (by omega)) (by omega)), (cell_set1 (cell_set1 (cell_set1 cL2 (by omega)) (by omega)) (by omega))⟩) (fun hS => ?_)
      clear hK K
      (try simp only [Act.put, List.getElem_toArray, List.getElem_cons_zero, List.getElem_cons_succ, List.setIfInBounds_toArray, List.set_cons_zero, List.set_cons_succ])
      have hc : w9.grownBy (((w9.setCell ⟨w.heap.size + 1, 0, none⟩ (.int .i64 W)).setCell ⟨w.heap.size + 1, 1, none⟩ (.bool Q)).setCell ⟨w.heap.size + 1, 2, none⟩ (.int .i64 S)) (some (w.heap.size + 1)) := (grown_trans (grown_trans (setCell_grown w9 (w.heap.size + 1) 0 (.int .i64 W)) (setCell_grown (w9.setCell ⟨w.heap.size + 1, 0, none⟩ (.int .i64 W)) (w.heap.size + 1) 1 (.bool Q))) (setCell_grown ((w9.setCell ⟨w.heap.size + 1, 0, none⟩ (.int .i64 W)).setCell ⟨w.heap.size + 1, 1, none⟩ (.bool Q)) (w.heap.size + 1) 2 (.int .i64 S)))
      have hs2 := hs.kept hc (fun j hj => by cases hj; exact ⟨by omega, by omega⟩)
      clear hs
      have hs := hs2
      clear hs2
      have e0 : (((w9.setCell ⟨w.heap.size + 1, 0, none⟩ (.int .i64 W)).setCell ⟨w.heap.size + 1, 1, none⟩ (.bool Q)).setCell ⟨w.heap.size + 1, 2, none⟩ (.int .i64 S)).cell? ⟨w.heap.size + 1, 0, none⟩ = some (.int .i64 W) := by simp [go_sem, cB0, cB1, cB2]
      have e1 : (((w9.setCell ⟨w.heap.size + 1, 0, none⟩ (.int .i64 W)).setCell ⟨w.heap.size + 1, 1, none⟩ (.bool Q)).setCell ⟨w.heap.size + 1, 2, none⟩ (.int .i64 S)).cell? ⟨w.heap.size + 1, 1, none⟩ = some (.bool Q) := by simp [go_sem, cB0, cB1, cB2]
      have e2 : (((w9.setCell ⟨w.heap.size + 1, 0, none⟩ (.int .i64 W)).setCell ⟨w.heap.size + 1, 1, none⟩ (.bool Q)).setCell ⟨w.heap.size + 1, 2, none⟩ (.int .i64 S)).cell? ⟨w.heap.size + 1, 2, none⟩ = some (.int .i64 S) := by simp [go_sem, cB0, cB1, cB2]
      generalize (((w9.setCell ⟨w.heap.size + 1, 0, none⟩ (.int .i64 W)).setCell ⟨w.heap.size + 1, 1, none⟩ (.bool Q)).setCell ⟨w.heap.size + 1, 2, none⟩ (.int .i64 S)) = w10 at *
      clear cB0 fB0
      clear cB1 fB1
      clear cB2 fB2
      have cB0 := e0
      clear e0
      have cB1 := e1
      clear e1
      have cB2 := e2
      clear e2
      replace zB : w.heap.size + 1 < w10.heap.size := Nat.lt_of_lt_of_le zB hc.size
      have s10 : w9.heap.size ≤ w10.heap.size := hc.size
      have gq : w9.grownBy w10 (some (w.heap.size + 1)) := hc
      replace cA0 := (Chg.one gq).at cA0 zA (by omega)
      replace zA := Nat.lt_of_lt_of_le zA gq.size
      replace cC0 := (Chg.one gq).at cC0 zC (by omega)
      replace fC0 := (Chg.one gq).fr fC0 zC (by omega)
      replace cC1 := (Chg.one gq).at cC1 zC (by omega)
      replace fC1 := (Chg.one gq).fr fC1 zC (by omega)
      replace zC := Nat.lt_of_lt_of_le zC gq.size
      replace cF0 := (Chg.one gq).at cF0 zF (by omega)
      replace zF := Nat.lt_of_lt_of_le zF gq.size
      replace cL0 := (Chg.one gq).at cL0 zL (by omega)
      replace cL1 := (Chg.one gq).at cL1 zL (by omega)
      replace cL2 := (Chg.one gq).at cL2 zL (by omega)
      replace zL := Nat.lt_of_lt_of_le zL gq.size
      replace rv := rv.chg (Chg.one gq) (by omega)
      replace hb := below_src hb gq (by omega)
      clear hc gq
      replace zsrc := hs.lt
      refine wpAnyH_ready (rs := [11]) (by as_aux_lemma => kernel_rfl) (by simp) ?_
      refine AllReadyH.cons rfl (fun K hK => ?_) AllReadyH.nil
      go_simp
      refine hK.out _ _ (⟨((hb.setCell (by first | omega | (simp; omega) | simp) _).setCell (by first | omega | (simp; omega) | simp) _), (cell_set1 (cell_set1 cF0 (by omega)) (by omega)), (cell_set1 (cell_set1 cL0 (by omega)) (by omega)), (cell_set1 (cell_set1 cL1 (by omega)) (by omega)), (cell_set1 (cell_set1 cL2 (by omega)) (by omega))⟩) (fun hS => ?_)
      clear hK K
      (try simp only [Act.put, List.getElem_toArray, List.getElem_cons_zero, List.getElem_cons_succ, List.setIfInBounds_toArray, List.set_cons_zero, List.set_cons_succ])
      have hc : w10.grownBy ((w10.setCell ⟨w.heap.size + 1 + 1, 0, none⟩ (.int .i64 (p - 1))).setCell ⟨w.heap.size + 1 + 1, 1, none⟩ (.int .i64 (q - 1))) (some (w.heap.size + 1 + 1)) := (grown_trans (setCell_grown w10 (w.heap.size + 1 + 1) 0 (.int .i64 (p - 1))) (setCell_grown (w10.setCell ⟨w.heap.size + 1 + 1, 0, none⟩ (.int .i64 (p - 1))) (w.heap.size + 1 + 1) 1 (.int .i64 (q - 1))))
      have hs2 := hs.kept hc (fun j hj => by cases hj; exact ⟨by omega, by omega⟩)
      clear hs
      have hs := hs2
      clear hs2
      have e0 : ((w10.setCell ⟨w.heap.size + 1 + 1, 0, none⟩ (.int .i64 (p - 1))).setCell ⟨w.heap.size + 1 + 1, 1, none⟩ (.int .i64 (q - 1))).cell? ⟨w.heap.size + 1 + 1, 0, none⟩ = some (.int .i64 (p - 1)) := by simp [go_sem, cC0, cC1]
      have e1 : ((w10.setCell ⟨w.heap.size + 1 + 1, 0, none⟩ (.int .i64 (p - 1))).setCell ⟨w.heap.size + 1 + 1, 1, none⟩ (.int .i64 (q - 1))).cell? ⟨w.heap.size + 1 + 1, 1, none⟩ = some (.int .i64 (q - 1)) := by simp [go_sem, cC0, cC1]
      generalize ((w10.setCell ⟨w.heap.size + 1 + 1, 0, none⟩ (.int .i64 (p - 1))).setCell ⟨w.heap.size + 1 + 1, 1, none⟩ (.int .i64 (q - 1))) = w11 at *
      clear cC0 fC0
      clear cC1 fC1
      have cC0 := e0
      clear e0
      have cC1 := e1
      clear e1
      replace zC : w.heap.size + 1 + 1 < w11.heap.size := Nat.lt_of_lt_of_le zC hc.size
      have s11 : w10.heap.size ≤ w11.heap.size := hc.size
      have gq : w10.grownBy w11 (some (w.heap.size + 1 + 1)) := hc
      replace cA0 := (Chg.one gq).at cA0 zA (by omega)
      replace zA := Nat.lt_of_lt_of_le zA gq.size
      replace cB0 := (Chg.one gq).at cB0 zB (by omega)
      replace cB1 := (Chg.one gq).at cB1 zB (by omega)
      replace cB2 := (Chg.one gq).at cB2 zB (by omega)
      replace zB := Nat.lt_of_lt_of_le zB gq.size
      replace cF0 := (Chg.one gq).at cF0 zF (by omega)
      replace zF := Nat.lt_of_lt_of_le zF gq.size
      replace cL0 := (Chg.one gq).at cL0 zL (by omega)
      replace cL1 := (Chg.one gq).at cL1 zL (by omega)
      replace cL2 := (Chg.one gq).at cL2 zL (by omega)
      replace zL := Nat.lt_of_lt_of_le zL gq.size
      replace rv := rv.chg (Chg.one gq) (by omega)
      replace hb := below_src hb gq (by omega)
      clear hc gq
      replace zsrc := hs.lt
      refine wpAnyH_done (by kernel_rfl) ?_ _
      clear hS
      go_wp2
      exact bodyPost_ret (v := .tuple #[.agg #[.slice av ys.length kv], .agg #[.int .i64 W, .bool Q, .int .i64 S], .agg #[.int .i64 (p - 1), .int .i64 (q - 1)]]) (by simp [results, Tryd.results14, go_sem, cA0, cB0, cB1, cB2, cC0, cC1]) rfl ⟨_, ys, W, Q, S, _, _, rfl, rv.mono (by omega) (by omega), hyl, hyb, ⟨⟨by omega, by omega⟩, by omega, by omega⟩, hb⟩
    case false =>
      obtain ⟨hn4, hL⟩ := spBase_ok hq
      obtain ⟨hW, hW2, hS, hS2, -⟩ := lyF_ok hL
      have CN := fun w' hc c0 c1 c2 h => l10Counts_any (w2.heap.size) (w3.heap.size) av ys.length kv ys W S Q w' hc c0 c1 c2 h hyb (by omega) hkv1 hkv2 hW hW2
      have hcl := cnt_len Q W ys
      have hll := lns_len ys
      have HSP := hid (fun r => sp_i64 (C := Q) hyb (by omega) hW r)
      have HMV := hid (fun A CA r (h1 : 0 ≤ r) (h2 : r < 20) w' h => l10Move_any A (cnt Q W ys).length CA (cnt Q W ys) (0, 0) 0 r w' h (by omega) (cnt_pos hW) (by have := cnt_sum (C := Q) hyb (by omega) hW; omega) (sp_zero (cnt_pos hW)) (by omega) (by omega))
      generalize cnt Q W ys = cs at *
      generalize hm : cs.length = m at *
      have HCN : Hid _ := CN
      clear CN hL hcl hll hm
      go_wp2_with fail
      have bd : Below w5.heap.size w5 w5.drew := (Below.refl _ _).drew
      refine wp_region_held_drew (S := fun w' => Below w.heap.size w w' ∧ w'.cell? ⟨w2.heap.size, 0, none⟩ = some (.slice av ys.length kv) ∧ w'.cell? ⟨w3.heap.size, 0, none⟩ = some (.int .i64 W) ∧ w'.cell? ⟨w3.heap.size, 1, none⟩ = some (.bool Q) ∧ w'.cell? ⟨w3.heap.size, 2, none⟩ = some (.int .i64 S)) (by kernel_rfl) ⟨(hb.trans (bd.mono hb.size)), cell_later bd cF0, cell_later bd cL0, cell_later bd cL1, cell_later bd cL2⟩ (fun hS => ?_)
      obtain ⟨D5, hD⟩ : ∃ D, w5.drew = D := ⟨_, rfl⟩
      rw [hD] at hS bd ⊢
      have hc := bd
      clear hD bd
      have hs2 := hs.kept (grownBy_of_below hc) (by simp)
      clear hs
      have hs := hs2
      clear hs2
      replace hc := grown_none (row := some (w.heap.size + 1 + 1 + 1)) (grownBy_of_below hc)
      have s6 : w5.heap.size ≤ D5.heap.size := hc.size
      have gq : w5.grownBy D5 (some (w.heap.size + 1 + 1 + 1)) := hc
      replace cA0 := (Chg.one gq).at cA0 zA (by omega)
      replace fA0 := (Chg.one gq).fr fA0 zA (by omega)
      replace zA := Nat.lt_of_lt_of_le zA gq.size
      replace cB0 := (Chg.one gq).at cB0 zB (by omega)
      replace fB0 := (Chg.one gq).fr fB0 zB (by omega)
      replace cB1 := (Chg.one gq).at cB1 zB (by omega)
      replace fB1 := (Chg.one gq).fr fB1 zB (by omega)
      replace cB2 := (Chg.one gq).at cB2 zB (by omega)
      replace fB2 := (Chg.one gq).fr fB2 zB (by omega)
      replace zB := Nat.lt_of_lt_of_le zB gq.size
      replace cC0 := (Chg.one gq).at cC0 zC (by omega)
      replace fC0 := (Chg.one gq).fr fC0 zC (by omega)
      replace cC1 := (Chg.one gq).at cC1 zC (by omega)
      replace fC1 := (Chg.one gq).fr fC1 zC (by omega)
      replace zC := Nat.lt_of_lt_of_le zC gq.size
      replace cF0 := (Chg.one gq).at cF0 zF (by omega)
      replace zF := Nat.lt_of_lt_of_le zF gq.size
      replace cL0 := (Chg.one gq).at cL0 zL (by omega)
      replace cL1 := (Chg.one gq).at cL1 zL (by omega)
      replace cL2 := (Chg.one gq).at cL2 zL (by omega)
      replace zL := Nat.lt_of_lt_of_le zL gq.size
      replace rv := rv.chg (Chg.one gq) (by omega)
      replace hb := below_src hb gq (by omega)
      clear hc gq
      replace zsrc := hs.lt
      refine wpAnyH_take (i := 0) (v := (.agg #[.slice av ys.length kv])) rfl (by as_aux_lemma => kernel_rfl) (by as_aux_lemma => kernel_rfl) (by as_aux_lemma => kernel_rfl) (fun _ _ _ h => h) (Or.inl ⟨by kernel_rfl, ?_⟩) hS ?_
      · intro w hSw; (try dsimp only at hSw); obtain ⟨hSb, hl0, hl1, hl2, hl3⟩ := hSw; go_simp
      (try simp only [Act.put, List.getElem_toArray, List.getElem_cons_zero, List.getElem_cons_succ, List.setIfInBounds_toArray, List.set_cons_zero, List.set_cons_succ])
      refine wpAnyH_take (i := 1) (v := (.agg #[.int .i64 W, .bool Q, .int .i64 S])) rfl (by as_aux_lemma => kernel_rfl) (by as_aux_lemma => kernel_rfl) (by as_aux_lemma => kernel_rfl) (fun _ _ _ h => h) (Or.inl ⟨by kernel_rfl, ?_⟩) hS ?_
      · intro w hSw; (try dsimp only at hSw); obtain ⟨hSb, hl0, hl1, hl2, hl3⟩ := hSw; go_simp
      (try simp only [Act.put, List.getElem_toArray, List.getElem_cons_zero, List.getElem_cons_succ, List.setIfInBounds_toArray, List.set_cons_zero, List.set_cons_succ])
      refine wpAnyH_take (i := 3) (v := (.agg #[.int .i64 0, .int .i64 0])) rfl (by as_aux_lemma => kernel_rfl) (by as_aux_lemma => kernel_rfl) (by as_aux_lemma => kernel_rfl) (fun _ _ _ h => h) (Or.inl ⟨by kernel_rfl, ?_⟩) hS ?_
      · intro w hSw; (try dsimp only at hSw); go_simp
      (try simp only [Act.put, List.getElem_toArray, List.getElem_cons_zero, List.getElem_cons_succ, List.setIfInBounds_toArray, List.set_cons_zero, List.set_cons_succ])
      refine wpAnyH_take (i := 4) (v := (.pointer (some ⟨w.heap.size + 1 + 1 + 1, 0, none⟩))) rfl (by as_aux_lemma => kernel_rfl) (by as_aux_lemma => kernel_rfl) (by as_aux_lemma => kernel_rfl) (fun _ _ _ h => h) (Or.inl ⟨by kernel_rfl, ?_⟩) hS ?_
      · intro w hSw; (try dsimp only at hSw); go_simp
      (try simp only [Act.put, List.getElem_toArray, List.getElem_cons_zero, List.getElem_cons_succ, List.setIfInBounds_toArray, List.set_cons_zero, List.set_cons_succ])
      refine wpAnyH_ready (rs := [2]) (by as_aux_lemma => kernel_rfl) (by simp) ?_
      refine AllReadyH.cons rfl (fun K hK => ?_) AllReadyH.nil
      go_simp
      refine Calls.mono (HCN.out _ cF0 cL0 cL1 cL2 rv.read) ?_
      rintro e w7 ⟨v2, rfl, rc, hc⟩
      obtain ⟨a2, k2, rfl, -⟩ := rc.shape
      have hs2 := hs.kept (grownBy_of_below hc) (by simp)
      clear hs
      have hs := hs2
      clear hs2
      replace hc := grown_none (row := some (w.heap.size + 1 + 1 + 1)) (grownBy_of_below hc)
      have s7 : D5.heap.size ≤ w7.heap.size := hc.size
      have gq : D5.grownBy w7 (some (w.heap.size + 1 + 1 + 1)) := hc
      replace cA0 := (Chg.one gq).at cA0 zA (by omega)
      replace fA0 := (Chg.one gq).fr fA0 zA (by omega)
      replace zA := Nat.lt_of_lt_of_le zA gq.size
      replace cB0 := (Chg.one gq).at cB0 zB (by omega)
      replace fB0 := (Chg.one gq).fr fB0 zB (by omega)
      replace cB1 := (Chg.one gq).at cB1 zB (by omega)
      replace fB1 := (Chg.one gq).fr fB1 zB (by omega)
      replace cB2 := (Chg.one gq).at cB2 zB (by omega)
      replace fB2 := (Chg.one gq).fr fB2 zB (by omega)
      replace zB := Nat.lt_of_lt_of_le zB gq.size
      replace cC0 := (Chg.one gq).at cC0 zC (by omega)
      replace fC0 := (Chg.one gq).fr fC0 zC (by omega)
      replace cC1 := (Chg.one gq).at cC1 zC (by omega)
      replace fC1 := (Chg.one gq).fr fC1 zC (by omega)
      replace zC := Nat.lt_of_lt_of_le zC gq.size
      replace cF0 := (Chg.one gq).at cF0 zF (by omega)
      replace zF := Nat.lt_of_lt_of_le zF gq.size
      replace cL0 := (Chg.one gq).at cL0 zL (by omega)
      replace cL1 := (Chg.one gq).at cL1 zL (by omega)
      replace cL2 := (Chg.one gq).at cL2 zL (by omega)
      replace zL := Nat.lt_of_lt_of_le zL gq.size
      replace rv := rv.chg (Chg.one gq) (by omega)
      replace hb := below_src hb gq (by omega)
      clear hc gq
      replace zsrc := hs.lt
      refine hK.out _ _ (⟨hb, cF0, cL0, cL1, cL2⟩) (fun hS => ?_)
      clear hK K
      (try simp only [Act.put, List.getElem_toArray, List.getElem_cons_zero, List.getElem_cons_succ, List.setIfInBounds_toArray, List.set_cons_zero, List.set_cons_succ])
      refine wpAnyH_ready (rs := [5]) (by as_aux_lemma => kernel_rfl) (by simp) ?_
      refine AllReadyH.cons rfl (fun K hK => ?_) AllReadyH.nil
      go_simp
      refine Calls.mono (l1Next_any w.heap.size (w.heap.size + 1 + 1 + 1) _ 20 _ hs (by omega) (by omega)) ?_
      clear hs
      rintro e w8 ⟨r, rfl, hr, hs, hc⟩
      obtain ⟨hr1, hr2⟩ := hr.2 (by omega)
      clear hr
      have s8 : w7.heap.size ≤ w8.heap.size := hc.size
      have gq : w7.grownBy w8 (some (w.heap.size + 1 + 1 + 1)) := hc
      replace cA0 := (Chg.one gq).at cA0 zA (by omega)
      replace fA0 := (Chg.one gq).fr fA0 zA (by omega)
      replace zA := Nat.lt_of_lt_of_le zA gq.size
      replace cB0 := (Chg.one gq).at cB0 zB (by omega)
      replace fB0 := (Chg.one gq).fr fB0 zB (by omega)
      replace cB1 := (Chg.one gq).at cB1 zB (by omega)
      replace fB1 := (Chg.one gq).fr fB1 zB (by omega)
      replace cB2 := (Chg.one gq).at cB2 zB (by omega)
      replace fB2 := (Chg.one gq).fr fB2 zB (by omega)
      replace zB := Nat.lt_of_lt_of_le zB gq.size
      replace cC0 := (Chg.one gq).at cC0 zC (by omega)
      replace fC0 := (Chg.one gq).fr fC0 zC (by omega)
      replace cC1 := (Chg.one gq).at cC1 zC (by omega)
      replace fC1 := (Chg.one gq).fr fC1 zC (by omega)
      replace zC := Nat.lt_of_lt_of_le zC gq.size
      replace cF0 := (Chg.one gq).at cF0 zF (by omega)
      replace zF := Nat.lt_of_lt_of_le zF gq.size
      replace cL0 := (Chg.one gq).at cL0 zL (by omega)
      replace cL1 := (Chg.one gq).at cL1 zL (by omega)
      replace cL2 := (Chg.one gq).at cL2 zL (by omega)
      replace zL := Nat.lt_of_lt_of_le zL gq.size
      replace rv := rv.chg (Chg.one gq) (by omega)
      replace rc := rc.chg (Chg.one gq) (by omega)
      replace hb := below_src hb gq (by omega)
      clear hc gq
      replace zsrc := hs.lt
      refine hK.out _ _ (⟨hb, cF0, cL0, cL1, cL2⟩) (fun hS => ?_)
      clear hK K
      (try simp only [Act.put, List.getElem_toArray, List.getElem_cons_zero, List.getElem_cons_succ, List.setIfInBounds_toArray, List.set_cons_zero, List.set_cons_succ])
      refine wpAnyH_ready (rs := [6]) (by as_aux_lemma => kernel_rfl) (by simp) ?_
      refine AllReadyH.cons rfl (fun K hK => ?_) AllReadyH.nil
      go_simp
      refine Calls.mono (HMV.out a2 k2 r hr1 hr2 _ rc.read) ?_
      rintro e w9 ⟨rfl, hc⟩
      have hs2 := hs.kept (grownBy_of_below hc) (by simp)
      clear hs
      have hs := hs2
      clear hs2
      replace hc := grown_none (row := some (w.heap.size + 1 + 1 + 1)) (grownBy_of_below hc)
      have s9 : w8.heap.size ≤ w9.heap.size := hc.size
      have gq : w8.grownBy w9 (some (w.heap.size + 1 + 1 + 1)) := hc
      replace cA0 := (Chg.one gq).at cA0 zA (by omega)
      replace fA0 := (Chg.one gq).fr fA0 zA (by omega)
      replace zA := Nat.lt_of_lt_of_le zA gq.size
      replace cB0 := (Chg.one gq).at cB0 zB (by omega)
      replace fB0 := (Chg.one gq).fr fB0 zB (by omega)
      replace cB1 := (Chg.one gq).at cB1 zB (by omega)
      replace fB1 := (Chg.one gq).fr fB1 zB (by omega)
      replace cB2 := (Chg.one gq).at cB2 zB (by omega)
      replace fB2 := (Chg.one gq).fr fB2 zB (by omega)
      replace zB := Nat.lt_of_lt_of_le zB gq.size
      replace cC0 := (Chg.one gq).at cC0 zC (by omega)
      replace fC0 := (Chg.one gq).fr fC0 zC (by omega)
      replace cC1 := (Chg.one gq).at cC1 zC (by omega)
      replace fC1 := (Chg.one gq).fr fC1 zC (by omega)
      replace zC := Nat.lt_of_lt_of_le zC gq.size
      replace cF0 := (Chg.one gq).at cF0 zF (by omega)
      replace zF := Nat.lt_of_lt_of_le zF gq.size
      replace cL0 := (Chg.one gq).at cL0 zL (by omega)
      replace cL1 := (Chg.one gq).at cL1 zL (by omega)
      replace cL2 := (Chg.one gq).at cL2 zL (by omega)
      replace zL := Nat.lt_of_lt_of_le zL gq.size
      replace rv := rv.chg (Chg.one gq) (by omega)
      replace rc := rc.chg (Chg.one gq) (by omega)
      replace hb := below_src hb gq (by omega)
      clear hc gq
      replace zsrc := hs.lt
      refine hK.out _ _ (⟨hb, cF0, cL0, cL1, cL2⟩) (fun hS => ?_)
      clear hK K
      (try simp only [Act.put, List.getElem_toArray, List.getElem_cons_zero, List.getElem_cons_succ, List.setIfInBounds_toArray, List.set_cons_zero, List.set_cons_succ])
      refine wpAnyH_ready (rs := [7]) (by as_aux_lemma => kernel_rfl) (by simp) ?_
      refine AllReadyH.cons rfl (fun K hK => ?_) AllReadyH.nil
      go_simp
      refine hK.out _ _ (⟨(hb.setCell (by first | omega | (simp; omega) | simp) _), (cell_set1 cF0 (by omega)), (cell_set1 cL0 (by omega)), (cell_set1 cL1 (by omega)), (cell_set1 cL2 (by omega))⟩) (fun hS => ?_)
      clear hK K
      (try simp only [Act.put, List.getElem_toArray, List.getElem_cons_zero, List.getElem_cons_succ, List.setIfInBounds_toArray, List.set_cons_zero, List.set_cons_succ])
      have hc : w9.grownBy (w9.setCell ⟨w.heap.size, 0, none⟩ (.slice av ys.length kv)) (some (w.heap.size)) := (setCell_grown w9 (w.heap.size) 0 (.slice av ys.length kv))
      have hs2 := hs.kept hc (fun j hj => by cases hj; exact ⟨by omega, by omega⟩)
      clear hs
      have hs := hs2
      clear hs2
      have e0 : (w9.setCell ⟨w.heap.size, 0, none⟩ (.slice av ys.length kv)).cell? ⟨w.heap.size, 0, none⟩ = some (.slice av ys.length kv) := by simp [go_sem, cA0]
      generalize (w9.setCell ⟨w.heap.size, 0, none⟩ (.slice av ys.length kv)) = w10 at *
      clear cA0 fA0
      have cA0 := e0
      clear e0
      replace zA : w.heap.size < w10.heap.size := Nat.lt_of_lt_of_le zA hc.size
      have s10 : w9.heap.size ≤ w10.heap.size := hc.size
      have gq : w9.grownBy w10 (some (w.heap.size)) := hc
      replace cB0 := (Chg.one gq).at cB0 zB (by omega)
      replace fB0 := (Chg.one gq).fr fB0 zB (by omega)
      replace cB1 := (Chg.one gq).at cB1 zB (by omega)
      replace fB1 := (Chg.one gq).fr fB1 zB (by omega)
      replace cB2 := (Chg.one gq).at cB2 zB (by omega)
      replace fB2 := (Chg.one gq).fr fB2 zB (by omega)
      replace zB := Nat.lt_of_lt_of_le zB gq.size
      replace cC0 := (Chg.one gq).at cC0 zC (by omega)
      replace fC0 := (Chg.one gq).fr fC0 zC (by omega)
      replace cC1 := (Chg.one gq).at cC1 zC (by omega)
      replace fC1 := (Chg.one gq).fr fC1 zC (by omega)
      replace zC := Nat.lt_of_lt_of_le zC gq.size
      replace cF0 := (Chg.one gq).at cF0 zF (by omega)
      replace zF := Nat.lt_of_lt_of_le zF gq.size
      replace cL0 := (Chg.one gq).at cL0 zL (by omega)
      replace cL1 := (Chg.one gq).at cL1 zL (by omega)
      replace cL2 := (Chg.one gq).at cL2 zL (by omega)
      replace zL := Nat.lt_of_lt_of_le zL gq.size
      replace rv := rv.chg (Chg.one gq) (by omega)
      replace rc := rc.chg (Chg.one gq) (by omega)
      replace hb := below_src hb gq (by omega)
      clear hc gq
      replace zsrc := hs.lt
      refine wpAnyH_ready (rs := [8]) (by as_aux_lemma => kernel_rfl) (by simp) ?_
      refine AllReadyH.cons rfl (fun K hK => ?_) AllReadyH.nil
      go_simp
      refine hK.out _ _ (⟨(((hb.setCell (by first | omega | (simp; omega) | simp) _).setCell (by first | omega | (simp; omega) | simp) _).setCell (by first | omega | (simp; omega) | simp) _), (cell_set1 (cell_set1 (cell_set1 cF0 (by omega)) (by omega)) (by omega)), (cell_set1 (cell_set1 (cell_set1 cL0 (by omega)) (by omega)) (by omega)), (cell_set1 (cell_set1 (cell_set1 cL1 (by omega)) (by omega)) (by omega)), (cell_set1 (cell_set1 (cell_set1 cL2 (by omega)) (by omega)) (by omega))⟩) (fun hS => ?_)
      clear hK K
      (try simp only [Act.put, List.getElem_toArray, List.getElem_cons_zero, List.getElem_cons_succ, List.setIfInBounds_toArray, List.set_cons_zero, List.set_cons_succ])
      have hc : w10.grownBy (((w10.setCell ⟨w.heap.size + 1, 0, none⟩ (.int .i64 W)).setCell ⟨w.heap.size + 1, 1, none⟩ (.bool Q)).setCell ⟨w.heap.size + 1, 2, none⟩ (.int .i64 S)) (some (w.heap.size + 1)) := (grown_trans (grown_trans (setCell_grown w10 (w.heap.size + 1) 0 (.int .i64 W)) (setCell_grown (w10.setCell ⟨w.heap.size + 1, 0, none⟩ (.int .i64 W)) (w.heap.size + 1) 1 (.bool Q))) (setCell_grown ((w10.setCell ⟨w.heap.size + 1, 0, none⟩ (.int .i64 W)).setCell ⟨w.heap.size + 1, 1, none⟩ (.bool Q)) (w.heap.size + 1) 2 (.int .i64 S)))
      have hs2 := hs.kept hc (fun j hj => by cases hj; exact ⟨by omega, by omega⟩)
      clear hs
      have hs := hs2
      clear hs2
      have e0 : (((w10.setCell ⟨w.heap.size + 1, 0, none⟩ (.int .i64 W)).setCell ⟨w.heap.size + 1, 1, none⟩ (.bool Q)).setCell ⟨w.heap.size + 1, 2, none⟩ (.int .i64 S)).cell? ⟨w.heap.size + 1, 0, none⟩ = some (.int .i64 W) := by simp [go_sem, cB0, cB1, cB2]
      have e1 : (((w10.setCell ⟨w.heap.size + 1, 0, none⟩ (.int .i64 W)).setCell ⟨w.heap.size + 1, 1, none⟩ (.bool Q)).setCell ⟨w.heap.size + 1, 2, none⟩ (.int .i64 S)).cell? ⟨w.heap.size + 1, 1, none⟩ = some (.bool Q) := by simp [go_sem, cB0, cB1, cB2]
      have e2 : (((w10.setCell ⟨w.heap.size + 1, 0, none⟩ (.int .i64 W)).setCell ⟨w.heap.size + 1, 1, none⟩ (.bool Q)).setCell ⟨w.heap.size + 1, 2, none⟩ (.int .i64 S)).cell? ⟨w.heap.size + 1, 2, none⟩ = some (.int .i64 S) := by simp [go_sem, cB0, cB1, cB2]
      generalize (((w10.setCell ⟨w.heap.size + 1, 0, none⟩ (.int .i64 W)).setCell ⟨w.heap.size + 1, 1, none⟩ (.bool Q)).setCell ⟨w.heap.size + 1, 2, none⟩ (.int .i64 S)) = w11 at *
      clear cB0 fB0
      clear cB1 fB1
      clear cB2 fB2
      have cB0 := e0
      clear e0
      have cB1 := e1
      clear e1
      have cB2 := e2
      clear e2
      replace zB : w.heap.size + 1 < w11.heap.size := Nat.lt_of_lt_of_le zB hc.size
      have s11 : w10.heap.size ≤ w11.heap.size := hc.size
      have gq : w10.grownBy w11 (some (w.heap.size + 1)) := hc
      replace cA0 := (Chg.one gq).at cA0 zA (by omega)
      replace zA := Nat.lt_of_lt_of_le zA gq.size
      replace cC0 := (Chg.one gq).at cC0 zC (by omega)
      replace fC0 := (Chg.one gq).fr fC0 zC (by omega)
      replace cC1 := (Chg.one gq).at cC1 zC (by omega)
      replace fC1 := (Chg.one gq).fr fC1 zC (by omega)
      replace zC := Nat.lt_of_lt_of_le zC gq.size
      replace cF0 := (Chg.one gq).at cF0 zF (by omega)
      replace zF := Nat.lt_of_lt_of_le zF gq.size
      replace cL0 := (Chg.one gq).at cL0 zL (by omega)
      replace cL1 := (Chg.one gq).at cL1 zL (by omega)
      replace cL2 := (Chg.one gq).at cL2 zL (by omega)
      replace zL := Nat.lt_of_lt_of_le zL gq.size
      replace rv := rv.chg (Chg.one gq) (by omega)
      replace rc := rc.chg (Chg.one gq) (by omega)
      replace hb := below_src hb gq (by omega)
      clear hc gq
      replace zsrc := hs.lt
      refine wpAnyH_ready (rs := [9]) (by as_aux_lemma => kernel_rfl) (by simp) ?_
      refine AllReadyH.cons rfl (fun K hK => ?_) AllReadyH.nil
      go_simp
      refine hK.out _ _ (⟨((hb.setCell (by first | omega | (simp; omega) | simp) _).setCell (by first | omega | (simp; omega) | simp) _), (cell_set1 (cell_set1 cF0 (by omega)) (by omega)), (cell_set1 (cell_set1 cL0 (by omega)) (by omega)), (cell_set1 (cell_set1 cL1 (by omega)) (by omega)), (cell_set1 (cell_set1 cL2 (by omega)) (by omega))⟩) (fun hS => ?_)
      clear hK K
      (try simp only [Act.put, List.getElem_toArray, List.getElem_cons_zero, List.getElem_cons_succ, List.setIfInBounds_toArray, List.set_cons_zero, List.set_cons_succ])
      have hc : w11.grownBy ((w11.setCell ⟨w.heap.size + 1 + 1, 0, none⟩ (.int .i64 (spMove cs (0, 0) r).1)).setCell ⟨w.heap.size + 1 + 1, 1, none⟩ (.int .i64 (spMove cs (0, 0) r).2)) (some (w.heap.size + 1 + 1)) := (grown_trans (setCell_grown w11 (w.heap.size + 1 + 1) 0 (.int .i64 (spMove cs (0, 0) r).1)) (setCell_grown (w11.setCell ⟨w.heap.size + 1 + 1, 0, none⟩ (.int .i64 (spMove cs (0, 0) r).1)) (w.heap.size + 1 + 1) 1 (.int .i64 (spMove cs (0, 0) r).2)))
      have hs2 := hs.kept hc (fun j hj => by cases hj; exact ⟨by omega, by omega⟩)
      clear hs
      have hs := hs2
      clear hs2
      have e0 : ((w11.setCell ⟨w.heap.size + 1 + 1, 0, none⟩ (.int .i64 (spMove cs (0, 0) r).1)).setCell ⟨w.heap.size + 1 + 1, 1, none⟩ (.int .i64 (spMove cs (0, 0) r).2)).cell? ⟨w.heap.size + 1 + 1, 0, none⟩ = some (.int .i64 (spMove cs (0, 0) r).1) := by simp [go_sem, cC0, cC1]
      have e1 : ((w11.setCell ⟨w.heap.size + 1 + 1, 0, none⟩ (.int .i64 (spMove cs (0, 0) r).1)).setCell ⟨w.heap.size + 1 + 1, 1, none⟩ (.int .i64 (spMove cs (0, 0) r).2)).cell? ⟨w.heap.size + 1 + 1, 1, none⟩ = some (.int .i64 (spMove cs (0, 0) r).2) := by simp [go_sem, cC0, cC1]
      generalize ((w11.setCell ⟨w.heap.size + 1 + 1, 0, none⟩ (.int .i64 (spMove cs (0, 0) r).1)).setCell ⟨w.heap.size + 1 + 1, 1, none⟩ (.int .i64 (spMove cs (0, 0) r).2)) = w12 at *
      clear cC0 fC0
      clear cC1 fC1
      have cC0 := e0
      clear e0
      have cC1 := e1
      clear e1
      replace zC : w.heap.size + 1 + 1 < w12.heap.size := Nat.lt_of_lt_of_le zC hc.size
      have s12 : w11.heap.size ≤ w12.heap.size := hc.size
      have gq : w11.grownBy w12 (some (w.heap.size + 1 + 1)) := hc
      replace cA0 := (Chg.one gq).at cA0 zA (by omega)
      replace zA := Nat.lt_of_lt_of_le zA gq.size
      replace cB0 := (Chg.one gq).at cB0 zB (by omega)
      replace cB1 := (Chg.one gq).at cB1 zB (by omega)
      replace cB2 := (Chg.one gq).at cB2 zB (by omega)
      replace zB := Nat.lt_of_lt_of_le zB gq.size
      replace cF0 := (Chg.one gq).at cF0 zF (by omega)
      replace zF := Nat.lt_of_lt_of_le zF gq.size
      replace cL0 := (Chg.one gq).at cL0 zL (by omega)
      replace cL1 := (Chg.one gq).at cL1 zL (by omega)
      replace cL2 := (Chg.one gq).at cL2 zL (by omega)
      replace zL := Nat.lt_of_lt_of_le zL gq.size
      replace rv := rv.chg (Chg.one gq) (by omega)
      replace rc := rc.chg (Chg.one gq) (by omega)
      replace hb := below_src hb gq (by omega)
      clear hc gq
      replace zsrc := hs.lt
      refine wpAnyH_done (by kernel_rfl) ?_ _
      clear hS
      go_wp2
      exact bodyPost_ret (v := .tuple #[.agg #[.slice av ys.length kv], .agg #[.int .i64 W, .bool Q, .int .i64 S], .agg #[.int .i64 ((spMove cs (0, 0) r).1), .int .i64 ((spMove cs (0, 0) r).2)]]) (by simp [results, Tryd.results14, go_sem, cA0, cB0, cB1, cB2, cC0, cC1]) rfl ⟨_, ys, W, Q, S, _, _, rfl, rv.mono (by omega) (by omega), hyl, hyb, HSP.out r, hb⟩
  · obtain ⟨P, hP⟩ : ∃ P, spBase ys.length W Q S = P := ⟨_, rfl⟩
    have hP2 : ¬ P = 0 := by rw [← hP]; exact hq
    clear hq
    have hq := hP
    clear hP
    clear ha hB hn
    go_wp2_with fail
    refine Calls.mono (l10BaseB (w2.heap.size) (w3.heap.size) av ys.length kv W S Q P hq _ (cell_later ((Below.refl _ _).alloc (Nat.le_refl _) _) cF0) (by omega) (by simp [go_sem]) (by simp [go_sem]) (by simp [go_sem])) ?_
    rintro e w4 ⟨rfl, hc⟩
    have hs2 := (hs.alloc _).kept (grownBy_of_below hc) (by simp)
    clear hs
    have hs := hs2
    clear hs2
    replace hc := grown_none (row := some (w.heap.size + 1 + 1 + 1)) (grownBy_of_below hc)
    have s4 : w3.heap.size + 1 ≤ w4.heap.size := by have := hc.size; simp at this; omega
    have gq : w3.grownBy w4 (some (w.heap.size + 1 + 1 + 1)) := (grownBy_alloc_trans hc)
    replace cA0 := (Chg.one gq).at cA0 zA (by omega)
    replace fA0 := (Chg.one gq).fr fA0 zA (by omega)
    replace zA := Nat.lt_of_lt_of_le zA gq.size
    replace cB0 := (Chg.one gq).at cB0 zB (by omega)
    replace fB0 := (Chg.one gq).fr fB0 zB (by omega)
    replace cB1 := (Chg.one gq).at cB1 zB (by omega)
    replace fB1 := (Chg.one gq).fr fB1 zB (by omega)
    replace cB2 := (Chg.one gq).at cB2 zB (by omega)
    replace fB2 := (Chg.one gq).fr fB2 zB (by omega)
    replace zB := Nat.lt_of_lt_of_le zB gq.size
    replace cC0 := (Chg.one gq).at cC0 zC (by omega)
    replace fC0 := (Chg.one gq).fr fC0 zC (by omega)
    replace cC1 := (Chg.one gq).at cC1 zC (by omega)
    replace fC1 := (Chg.one gq).fr fC1 zC (by omega)
    replace zC := Nat.lt_of_lt_of_le zC gq.size
    replace cF0 := (Chg.one gq).at cF0 zF (by omega)
    replace zF := Nat.lt_of_lt_of_le zF gq.size
    have cL0 : w4.cell? ⟨w3.heap.size, 0, none⟩ = some (.int .i64 W) := (Chg.one hc).at (by simp [go_sem]) (by first | (simp; done) | (simp; omega)) (by omega)
    have cL1 : w4.cell? ⟨w3.heap.size, 1, none⟩ = some (.bool Q) := (Chg.one hc).at (by simp [go_sem]) (by first | (simp; done) | (simp; omega)) (by omega)
    have cL2 : w4.cell? ⟨w3.heap.size, 2, none⟩ = some (.int .i64 S) := (Chg.one hc).at (by simp [go_sem]) (by first | (simp; done) | (simp; omega)) (by omega)
    have zL : w3.heap.size < w4.heap.size := by omega
    replace rv := rv.chg (Chg.one gq) (by omega)
    replace hb := below_src hb gq (by omega)
    clear hc gq
    replace zsrc := hs.lt
    go_wp2_with fail
    have bd : Below w4.heap.size w4 w4.drew := (Below.refl _ _).drew
    refine wp_region_held_drew (S := fun w' => Below w.heap.size w w' ∧ w'.cell? ⟨w2.heap.size, 0, none⟩ = some (.slice av ys.length kv) ∧ w'.cell? ⟨w3.heap.size, 0, none⟩ = some (.int .i64 W) ∧ w'.cell? ⟨w3.heap.size, 1, none⟩ = some (.bool Q) ∧ w'.cell? ⟨w3.heap.size, 2, none⟩ = some (.int .i64 S)) (by kernel_rfl) ⟨(hb.trans (bd.mono hb.size)), cell_later bd cF0, cell_later bd cL0, cell_later bd cL1, cell_later bd cL2⟩ (fun hS => ?_)
    obtain ⟨D4, hD⟩ : ∃ D, w4.drew = D := ⟨_, rfl⟩
    rw [hD] at hS bd ⊢
    have hc := bd
    clear hD bd
    have hs2 := hs.kept (grownBy_of_below hc) (by simp)
    clear hs
    have hs := hs2
    clear hs2
    replace hc := grown_none (row := some (w.heap.size + 1 + 1 + 1)) (grownBy_of_below hc)
    have s5 : w4.heap.size ≤ D4.heap.size := hc.size
    have gq : w4.grownBy D4 (some (w.heap.size + 1 + 1 + 1)) := hc
    replace cA0 := (Chg.one gq).at cA0 zA (by omega)
    replace fA0 := (Chg.one gq).fr fA0 zA (by omega)
    replace zA := Nat.lt_of_lt_of_le zA gq.size
    replace cB0 := (Chg.one gq).at cB0 zB (by omega)
    replace fB0 := (Chg.one gq).fr fB0 zB (by omega)
    replace cB1 := (Chg.one gq).at cB1 zB (by omega)
    replace fB1 := (Chg.one gq).fr fB1 zB (by omega)
    replace cB2 := (Chg.one gq).at cB2 zB (by omega)
    replace fB2 := (Chg.one gq).fr fB2 zB (by omega)
    replace zB := Nat.lt_of_lt_of_le zB gq.size
    replace cC0 := (Chg.one gq).at cC0 zC (by omega)
    replace fC0 := (Chg.one gq).fr fC0 zC (by omega)
    replace cC1 := (Chg.one gq).at cC1 zC (by omega)
    replace fC1 := (Chg.one gq).fr fC1 zC (by omega)
    replace zC := Nat.lt_of_lt_of_le zC gq.size
    replace cF0 := (Chg.one gq).at cF0 zF (by omega)
    replace zF := Nat.lt_of_lt_of_le zF gq.size
    replace cL0 := (Chg.one gq).at cL0 zL (by omega)
    replace cL1 := (Chg.one gq).at cL1 zL (by omega)
    replace cL2 := (Chg.one gq).at cL2 zL (by omega)
    replace zL := Nat.lt_of_lt_of_le zL gq.size
    replace rv := rv.chg (Chg.one gq) (by omega)
    replace hb := below_src hb gq (by omega)
    clear hc gq
    replace zsrc := hs.lt
    refine wpAnyH_take (i := 0) (v := (.agg #[.slice av ys.length kv])) rfl (by as_aux_lemma => kernel_rfl) (by as_aux_lemma => kernel_rfl) (by as_aux_lemma => kernel_rfl) (fun _ _ _ h => h) (Or.inl ⟨by kernel_rfl, ?_⟩) hS ?_
    · intro w hSw; (try dsimp only at hSw); obtain ⟨hSb, hl0, hl1, hl2, hl3⟩ := hSw; go_simp
    (try simp only [Act.put, List.getElem_toArray, List.getElem_cons_zero, List.getElem_cons_succ, List.setIfInBounds_toArray, List.set_cons_zero, List.set_cons_succ])
    refine wpAnyH_take (i := 1) (v := (.agg #[.int .i64 W, .bool Q, .int .i64 S])) rfl (by as_aux_lemma => kernel_rfl) (by as_aux_lemma => kernel_rfl) (by as_aux_lemma => kernel_rfl) (fun _ _ _ h => h) (Or.inl ⟨by kernel_rfl, ?_⟩) hS ?_
    · intro w hSw; (try dsimp only at hSw); obtain ⟨hSb, hl0, hl1, hl2, hl3⟩ := hSw; go_simp
    (try simp only [Act.put, List.getElem_toArray, List.getElem_cons_zero, List.getElem_cons_succ, List.setIfInBounds_toArray, List.set_cons_zero, List.set_cons_succ])
    refine wpAnyH_take (i := 2) (v := (.pointer (some ⟨w.heap.size + 1 + 1 + 1, 0, none⟩))) rfl (by as_aux_lemma => kernel_rfl) (by as_aux_lemma => kernel_rfl) (by as_aux_lemma => kernel_rfl) (fun _ _ _ h => h) (Or.inl ⟨by kernel_rfl, ?_⟩) hS ?_
    · intro w hSw; (try dsimp only at hSw); go_simp
    (try simp only [Act.put, List.getElem_toArray, List.getElem_cons_zero, List.getElem_cons_succ, List.setIfInBounds_toArray, List.set_cons_zero, List.set_cons_succ])
    refine wpAnyH_take (i := 5) (v := (.pointer (some ⟨w.heap.size + 1 + 1 + 1, 0, none⟩))) rfl (by as_aux_lemma => kernel_rfl) (by as_aux_lemma => kernel_rfl) (by as_aux_lemma => kernel_rfl) (fun _ _ _ h => h) (Or.inl ⟨by kernel_rfl, ?_⟩) hS ?_
    · intro w hSw; (try dsimp only at hSw); go_simp
    (try simp only [Act.put, List.getElem_toArray, List.getElem_cons_zero, List.getElem_cons_succ, List.setIfInBounds_toArray, List.set_cons_zero, List.set_cons_succ])
    refine wpAnyH_ready (rs := [3]) (by as_aux_lemma => kernel_rfl) (by simp) ?_
    refine AllReadyH.cons rfl (fun K hK => ?_) AllReadyH.nil
    go_simp
    refine Calls.mono (l1Next_any w.heap.size (w.heap.size + 1 + 1 + 1) _ 4 _ hs (by omega) (by omega)) ?_
    clear hs
    rintro e w6 ⟨p, rfl, hp, hs, hc⟩
    obtain ⟨hp1, hp2⟩ := hp.2 (by omega)
    have hwp : IntKind.i64.wrap (p - 1) = p - 1 := by rw [IntKind.wrap_i64] <;> omega
    have s6 : D4.heap.size ≤ w6.heap.size := hc.size
    have gq : D4.grownBy w6 (some (w.heap.size + 1 + 1 + 1)) := hc
    replace cA0 := (Chg.one gq).at cA0 zA (by omega)
    replace fA0 := (Chg.one gq).fr fA0 zA (by omega)
    replace zA := Nat.lt_of_lt_of_le zA gq.size
    replace cB0 := (Chg.one gq).at cB0 zB (by omega)
    replace fB0 := (Chg.one gq).fr fB0 zB (by omega)
    replace cB1 := (Chg.one gq).at cB1 zB (by omega)
    replace fB1 := (Chg.one gq).fr fB1 zB (by omega)
    replace cB2 := (Chg.one gq).at cB2 zB (by omega)
    replace fB2 := (Chg.one gq).fr fB2 zB (by omega)
    replace zB := Nat.lt_of_lt_of_le zB gq.size
    replace cC0 := (Chg.one gq).at cC0 zC (by omega)
    replace fC0 := (Chg.one gq).fr fC0 zC (by omega)
    replace cC1 := (Chg.one gq).at cC1 zC (by omega)
    replace fC1 := (Chg.one gq).fr fC1 zC (by omega)
    replace zC := Nat.lt_of_lt_of_le zC gq.size
    replace cF0 := (Chg.one gq).at cF0 zF (by omega)
    replace zF := Nat.lt_of_lt_of_le zF gq.size
    replace cL0 := (Chg.one gq).at cL0 zL (by omega)
    replace cL1 := (Chg.one gq).at cL1 zL (by omega)
    replace cL2 := (Chg.one gq).at cL2 zL (by omega)
    replace zL := Nat.lt_of_lt_of_le zL gq.size
    replace rv := rv.chg (Chg.one gq) (by omega)
    replace hb := below_src hb gq (by omega)
    clear hc gq
    replace zsrc := hs.lt
    refine hK.out _ _ (⟨hb, cF0, cL0, cL1, cL2⟩) (fun hS => ?_)
    clear hK K
    (try simp only [Act.put, List.getElem_toArray, List.getElem_cons_zero, List.getElem_cons_succ, List.setIfInBounds_toArray, List.set_cons_zero, List.set_cons_succ])
    refine wpAnyH_take (i := 4) (v := (.int .i64 (p - 1))) rfl (by as_aux_lemma => kernel_rfl) (by as_aux_lemma => kernel_rfl) (by as_aux_lemma => kernel_rfl) (fun _ _ _ h => h) (Or.inl ⟨by kernel_rfl, ?_⟩) hS ?_
    · intro w hSw; (try dsimp only at hSw); go_simp
    (try simp only [Act.put, List.getElem_toArray, List.getElem_cons_zero, List.getElem_cons_succ, List.setIfInBounds_toArray, List.set_cons_zero, List.set_cons_succ])
    refine wpAnyH_ready (rs := [6]) (by as_aux_lemma => kernel_rfl) (by simp) ?_
    refine AllReadyH.cons rfl (fun K hK => ?_) AllReadyH.nil
    go_simp
    refine Calls.mono (l1Next_any w.heap.size (w.heap.size + 1 + 1 + 1) _ 3 _ hs (by omega) (by omega)) ?_
    clear hs
    rintro e w7 ⟨q, rfl, hq3, hs, hc⟩
    obtain ⟨hq1, hq2⟩ := hq3.2 (by omega)
    have hwq : IntKind.i64.wrap (q - 1) = q - 1 := by rw [IntKind.wrap_i64] <;> omega
    have s7 : w6.heap.size ≤ w7.heap.size := hc.size
    have gq : w6.grownBy w7 (some (w.heap.size + 1 + 1 + 1)) := hc
    replace cA0 := (Chg.one gq).at cA0 zA (by omega)
    replace fA0 := (Chg.one gq).fr fA0 zA (by omega)
    replace zA := Nat.lt_of_lt_of_le zA gq.size
    replace cB0 := (Chg.one gq).at cB0 zB (by omega)
    replace fB0 := (Chg.one gq).fr fB0 zB (by omega)
    replace cB1 := (Chg.one gq).at cB1 zB (by omega)
    replace fB1 := (Chg.one gq).fr fB1 zB (by omega)
    replace cB2 := (Chg.one gq).at cB2 zB (by omega)
    replace fB2 := (Chg.one gq).fr fB2 zB (by omega)
    replace zB := Nat.lt_of_lt_of_le zB gq.size
    replace cC0 := (Chg.one gq).at cC0 zC (by omega)
    replace fC0 := (Chg.one gq).fr fC0 zC (by omega)
    replace cC1 := (Chg.one gq).at cC1 zC (by omega)
    replace fC1 := (Chg.one gq).fr fC1 zC (by omega)
    replace zC := Nat.lt_of_lt_of_le zC gq.size
    replace cF0 := (Chg.one gq).at cF0 zF (by omega)
    replace zF := Nat.lt_of_lt_of_le zF gq.size
    replace cL0 := (Chg.one gq).at cL0 zL (by omega)
    replace cL1 := (Chg.one gq).at cL1 zL (by omega)
    replace cL2 := (Chg.one gq).at cL2 zL (by omega)
    replace zL := Nat.lt_of_lt_of_le zL gq.size
    replace rv := rv.chg (Chg.one gq) (by omega)
    replace hb := below_src hb gq (by omega)
    clear hc gq
    replace zsrc := hs.lt
    refine hK.out _ _ (⟨hb, cF0, cL0, cL1, cL2⟩) (fun hS => ?_)
    clear hK K
    (try simp only [Act.put, List.getElem_toArray, List.getElem_cons_zero, List.getElem_cons_succ, List.setIfInBounds_toArray, List.set_cons_zero, List.set_cons_succ])
    refine wpAnyH_take (i := 7) (v := (.int .i64 (q - 1))) rfl (by as_aux_lemma => kernel_rfl) (by as_aux_lemma => kernel_rfl) (by as_aux_lemma => kernel_rfl) (fun _ _ _ h => h) (Or.inl ⟨by kernel_rfl, ?_⟩) hS ?_
    · intro w hSw; (try dsimp only at hSw); go_simp
    (try simp only [Act.put, List.getElem_toArray, List.getElem_cons_zero, List.getElem_cons_succ, List.setIfInBounds_toArray, List.set_cons_zero, List.set_cons_succ])
    refine wpAnyH_take (i := 8) (v := (.agg #[.int .i64 (p - 1), .int .i64 (q - 1)])) rfl (by as_aux_lemma => kernel_rfl) (by as_aux_lemma => kernel_rfl) (by as_aux_lemma => kernel_rfl) (fun _ _ _ h => h) (Or.inl ⟨by kernel_rfl, ?_⟩) hS ?_
    · intro w hSw; (try dsimp only at hSw); go_simp
    (try simp only [Act.put, List.getElem_toArray, List.getElem_cons_zero, List.getElem_cons_succ, List.setIfInBounds_toArray, List.set_cons_zero, List.set_cons_succ])
    refine wpAnyH_ready (rs := [9]) (by as_aux_lemma => kernel_rfl) (by simp) ?_
    refine AllReadyH.cons rfl (fun K hK => ?_) AllReadyH.nil
    go_simp
    refine hK.out _ _ (⟨(hb.setCell (by first | omega | (simp; omega) | simp) _), (cell_set1 cF0 (by omega)), (cell_set1 cL0 (by omega)), (cell_set1 cL1 (by omega)), (cell_set1 cL2 (by omega))⟩) (fun hS => ?_)
    clear hK K
    (try simp only [Act.put, List.getElem_toArray, List.getElem_cons_zero, List.getElem_cons_succ, List.setIfInBounds_toArray, List.set_cons_zero, List.set_cons_succ])
    have hc : w7.grownBy (w7.setCell ⟨w.heap.size, 0, none⟩ (.slice av ys.length kv)) (some (w.heap.size)) := (setCell_grown w7 (w.heap.size) 0 (.slice av ys.length kv))
    have hs2 := hs.kept hc (fun j hj => by cases hj; exact ⟨by omega, by omega⟩)
    clear hs
    have hs := hs2
    clear hs2
    have e0 : (w7.setCell ⟨w.heap.size, 0, none⟩ (.slice av ys.length kv)).cell? ⟨w.heap.size, 0, none⟩ = some (.slice av ys.length kv) := by simp [go_sem, cA0]
    generalize (w7.setCell ⟨w.heap.size, 0, none⟩ (.slice av ys.length kv)) = w8 at *
    clear cA0 fA0
    have cA0 := e0
    clear e0
    replace zA : w.heap.size < w8.heap.size := Nat.lt_of_lt_of_le zA hc.size
    have s8 : w7.heap.size ≤ w8.heap.size := hc.size
    have gq : w7.grownBy w8 (some (w.heap.size)) := hc
    replace cB0 := (Chg.one gq).at cB0 zB (by omega)
    replace fB0 := (Chg.one gq).fr fB0 zB (by omega)
    replace cB1 := (Chg.one gq).at cB1 zB (by omega)
    replace fB1 := (Chg.one gq).fr fB1 zB (by omega)
    replace cB2 := (Chg.one gq).at cB2 zB (by omega)
    replace fB2 := (Chg.one gq).fr fB2 zB (by omega)
    replace zB := Nat.lt_of_lt_of_le zB gq.size
    replace cC0 := (Chg.one gq).at cC0 zC (by omega)
    replace fC0 := (Chg.one gq).fr fC0 zC (by omega)
    replace cC1 := (Chg.one gq).at cC1 zC (by omega)
    replace fC1 := (Chg.one gq).fr fC1 zC (by omega)
    replace zC := Nat.lt_of_lt_of_le zC gq.size
    replace cF0 := (Chg.one gq).at cF0 zF (by omega)
    replace zF := Nat.lt_of_lt_of_le zF gq.size
    replace cL0 := (Chg.one gq).at cL0 zL (by omega)
    replace cL1 := (Chg.one gq).at cL1 zL (by omega)
    replace cL2 := (Chg.one gq).at cL2 zL (by omega)
    replace zL := Nat.lt_of_lt_of_le zL gq.size
    replace rv := rv.chg (Chg.one gq) (by omega)
    replace hb := below_src hb gq (by omega)
    clear hc gq
    replace zsrc := hs.lt
    refine wpAnyH_ready (rs := [10]) (by as_aux_lemma => kernel_rfl) (by simp) ?_
    refine AllReadyH.cons rfl (fun K hK => ?_) AllReadyH.nil
    go_simp
    refine hK.out _ _ (⟨(((hb.setCell (by first | omega | (simp; omega) | simp) _).setCell (by first | omega | (simp; omega) | simp) _).setCell (by first | omega | (simp; omega) | simp) _), (cell_set1 (cell_set1 (cell_set1 cF0 (by omega)) (by omega)) (by omega)), (cell_set1 (cell_set1 (cell_set1 cL0 (by omega)) (by omega)) (by omega)), (cell_set1 (cell_set1 (cell_set1 cL1 (by omega)) (by omega)) (by omega)), (cell_set1 (cell_set1 (cell_set1 cL2 (by omega)) (by omega)) (by omega))⟩) (fun hS => ?_)
    clear hK K
    (try simp only [Act.put, List.getElem_toArray, List.getElem_cons_zero, List.getElem_cons_succ, List.setIfInBounds_toArray, List.set_cons_zero, List.set_cons_succ])
    have hc : w8.grownBy (((w8.setCell ⟨w.heap.size + 1, 0, none⟩ (.int .i64 W)).setCell ⟨w.heap.size + 1, 1, none⟩ (.bool Q)).setCell ⟨w.heap.size + 1, 2, none⟩ (.int .i64 S)) (some (w.heap.size + 1)) := (grown_trans (grown_trans (setCell_grown w8 (w.heap.size + 1) 0 (.int .i64 W)) (setCell_grown (w8.setCell ⟨w.heap.size + 1, 0, none⟩ (.int .i64 W)) (w.heap.size + 1) 1 (.bool Q))) (setCell_grown ((w8.setCell ⟨w.heap.size + 1, 0, none⟩ (.int .i64 W)).setCell ⟨w.heap.size + 1, 1, none⟩ (.bool Q)) (w.heap.size + 1) 2 (.int .i64 S)))
    have hs2 := hs.kept hc (fun j hj => by cases hj; exact ⟨by omega, by omega⟩)
    clear hs
    have hs := hs2
    clear hs2
    have e0 : (((w8.setCell ⟨w.heap.size + 1, 0, none⟩ (.int .i64 W)).setCell ⟨w.heap.size + 1, 1, none⟩ (.bool Q)).setCell ⟨w.heap.size + 1, 2, none⟩ (.int .i64 S)).cell? ⟨w.heap.size + 1, 0, none⟩ = some (.int .i64 W) := by simp [go_sem, cB0, cB1, cB2]
    have e1 : (((w8.setCell ⟨w.heap.size + 1, 0, none⟩ (.int .i64 W)).setCell ⟨w.heap.size + 1, 1, none⟩ (.bool Q)).setCell ⟨w.heap.size + 1, 2, none⟩ (.int .i64 S)).cell? ⟨w.heap.size + 1, 1, none⟩ = some (.bool Q) := by simp [go_sem, cB0, cB1, cB2]
    have e2 : (((w8.setCell ⟨w.heap.size + 1, 0, none⟩ (.int .i64 W)).setCell ⟨w.heap.size + 1, 1, none⟩ (.bool Q)).setCell ⟨w.heap.size + 1, 2, none⟩ (.int .i64 S)).cell? ⟨w.heap.size + 1, 2, none⟩ = some (.int .i64 S) := by simp [go_sem, cB0, cB1, cB2]
    generalize (((w8.setCell ⟨w.heap.size + 1, 0, none⟩ (.int .i64 W)).setCell ⟨w.heap.size + 1, 1, none⟩ (.bool Q)).setCell ⟨w.heap.size + 1, 2, none⟩ (.int .i64 S)) = w9 at *
    clear cB0 fB0
    clear cB1 fB1
    clear cB2 fB2
    have cB0 := e0
    clear e0
    have cB1 := e1
    clear e1
    have cB2 := e2
    clear e2
    replace zB : w.heap.size + 1 < w9.heap.size := Nat.lt_of_lt_of_le zB hc.size
    have s9 : w8.heap.size ≤ w9.heap.size := hc.size
    have gq : w8.grownBy w9 (some (w.heap.size + 1)) := hc
    replace cA0 := (Chg.one gq).at cA0 zA (by omega)
    replace zA := Nat.lt_of_lt_of_le zA gq.size
    replace cC0 := (Chg.one gq).at cC0 zC (by omega)
    replace fC0 := (Chg.one gq).fr fC0 zC (by omega)
    replace cC1 := (Chg.one gq).at cC1 zC (by omega)
    replace fC1 := (Chg.one gq).fr fC1 zC (by omega)
    replace zC := Nat.lt_of_lt_of_le zC gq.size
    replace cF0 := (Chg.one gq).at cF0 zF (by omega)
    replace zF := Nat.lt_of_lt_of_le zF gq.size
    replace cL0 := (Chg.one gq).at cL0 zL (by omega)
    replace cL1 := (Chg.one gq).at cL1 zL (by omega)
    replace cL2 := (Chg.one gq).at cL2 zL (by omega)
    replace zL := Nat.lt_of_lt_of_le zL gq.size
    replace rv := rv.chg (Chg.one gq) (by omega)
    replace hb := below_src hb gq (by omega)
    clear hc gq
    replace zsrc := hs.lt
    refine wpAnyH_ready (rs := [11]) (by as_aux_lemma => kernel_rfl) (by simp) ?_
    refine AllReadyH.cons rfl (fun K hK => ?_) AllReadyH.nil
    go_simp
    refine hK.out _ _ (⟨((hb.setCell (by first | omega | (simp; omega) | simp) _).setCell (by first | omega | (simp; omega) | simp) _), (cell_set1 (cell_set1 cF0 (by omega)) (by omega)), (cell_set1 (cell_set1 cL0 (by omega)) (by omega)), (cell_set1 (cell_set1 cL1 (by omega)) (by omega)), (cell_set1 (cell_set1 cL2 (by omega)) (by omega))⟩) (fun hS => ?_)
    clear hK K
    (try simp only [Act.put, List.getElem_toArray, List.getElem_cons_zero, List.getElem_cons_succ, List.setIfInBounds_toArray, List.set_cons_zero, List.set_cons_succ])
    have hc : w9.grownBy ((w9.setCell ⟨w.heap.size + 1 + 1, 0, none⟩ (.int .i64 (p - 1))).setCell ⟨w.heap.size + 1 + 1, 1, none⟩ (.int .i64 (q - 1))) (some (w.heap.size + 1 + 1)) := (grown_trans (setCell_grown w9 (w.heap.size + 1 + 1) 0 (.int .i64 (p - 1))) (setCell_grown (w9.setCell ⟨w.heap.size + 1 + 1, 0, none⟩ (.int .i64 (p - 1))) (w.heap.size + 1 + 1) 1 (.int .i64 (q - 1))))
    have hs2 := hs.kept hc (fun j hj => by cases hj; exact ⟨by omega, by omega⟩)
    clear hs
    have hs := hs2
    clear hs2
    have e0 : ((w9.setCell ⟨w.heap.size + 1 + 1, 0, none⟩ (.int .i64 (p - 1))).setCell ⟨w.heap.size + 1 + 1, 1, none⟩ (.int .i64 (q - 1))).cell? ⟨w.heap.size + 1 + 1, 0, none⟩ = some (.int .i64 (p - 1)) := by simp [go_sem, cC0, cC1]
    have e1 : ((w9.setCell ⟨w.heap.size + 1 + 1, 0, none⟩ (.int .i64 (p - 1))).setCell ⟨w.heap.size + 1 + 1, 1, none⟩ (.int .i64 (q - 1))).cell? ⟨w.heap.size + 1 + 1, 1, none⟩ = some (.int .i64 (q - 1)) := by simp [go_sem, cC0, cC1]
    generalize ((w9.setCell ⟨w.heap.size + 1 + 1, 0, none⟩ (.int .i64 (p - 1))).setCell ⟨w.heap.size + 1 + 1, 1, none⟩ (.int .i64 (q - 1))) = w10 at *
    clear cC0 fC0
    clear cC1 fC1
    have cC0 := e0
    clear e0
    have cC1 := e1
    clear e1
    replace zC : w.heap.size + 1 + 1 < w10.heap.size := Nat.lt_of_lt_of_le zC hc.size
    have s10 : w9.heap.size ≤ w10.heap.size := hc.size
    have gq : w9.grownBy w10 (some (w.heap.size + 1 + 1)) := hc
    replace cA0 := (Chg.one gq).at cA0 zA (by omega)
    replace zA := Nat.lt_of_lt_of_le zA gq.size
    replace cB0 := (Chg.one gq).at cB0 zB (by omega)
    replace cB1 := (Chg.one gq).at cB1 zB (by omega)
    replace cB2 := (Chg.one gq).at cB2 zB (by omega)
    replace zB := Nat.lt_of_lt_of_le zB gq.size
    replace cF0 := (Chg.one gq).at cF0 zF (by omega)
    replace zF := Nat.lt_of_lt_of_le zF gq.size
    replace cL0 := (Chg.one gq).at cL0 zL (by omega)
    replace cL1 := (Chg.one gq).at cL1 zL (by omega)
    replace cL2 := (Chg.one gq).at cL2 zL (by omega)
    replace zL := Nat.lt_of_lt_of_le zL gq.size
    replace rv := rv.chg (Chg.one gq) (by omega)
    replace hb := below_src hb gq (by omega)
    clear hc gq
    replace zsrc := hs.lt
    refine wpAnyH_done (by kernel_rfl) ?_ _
    clear hS
    go_wp2
    exact bodyPost_ret (v := .tuple #[.agg #[.slice av ys.length kv], .agg #[.int .i64 W, .bool Q, .int .i64 S], .agg #[.int .i64 (p - 1), .int .i64 (q - 1)]]) (by simp [results, Tryd.results14, go_sem, cA0, cB0, cB1, cB2, cC0, cC1]) rfl ⟨_, ys, W, Q, S, _, _, rfl, rv.mono (by omega) (by omega), hyl, hyb, ⟨⟨by omega, by omega⟩, by omega, by omega⟩, hb⟩

end Go.Proofs.YtjgmkcmlkffjlaaDoor