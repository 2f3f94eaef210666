/-
  DrawMv, MovM, Dig1, Shelf, Dig2 in one text.
-/
import Derived.Lib.ItoaNum
import Derived.Deep.RegionWith
import Derived.Deep.RegionHeld3
import Derived.Shelf.Strconv.Itoa0
import Derived.Shelf.Strconv.Itoa1
import Derived.Shelf.LaysM
import Derived.Shelf.Strconv.Itoa2
import Derived.Shelf.Strconv.Itoa3
import Derived.Shelf.Strconv.Itoa4
import Derived.Lib.AppendIntMem
import Derived.WalkSmall
import Derived.WalkLawsBesides
import Derived.Test.YtjgmkcmlkffjlaaDoorDrawW
import Derived.Test.YtjgmkcmlkffjlaaDoorRow9
import Derived.Test.YtjgmkcmlkffjlaaDoorRows
import Derived.Test.YtjgmkcmlkffjlaaDoorText0
import Derived.Test.YtjgmkcmlkffjlaaDoorBox
import Derived.Test.YtjgmkcmlkffjlaaDoorFiles1
import Derived.Test.YtjgmkcmlkffjlaaDoorAppR
namespace Go.Proofs.YtjgmkcmlkffjlaaDoor
open Go.RowKit
set_option linter.unusedVariables false
set_option linter.unusedSimpArgs false

set_option maxRecDepth 10000 in
set_option maxHeartbeats 6400000 in
theorem DrawMoveSpot_any (a : Option Addr) (n ca : Nat) (xs : List Int) (w : World) (ha : Rd .u8 w a n xs) (hB : Bytes xs) (hn : n ≤ 1048576) :
    Calls Tryd.prog 6 #[.slice a n ca] w fun e w' => ∃ v ys W Q S L R M, e = .returned (.tuple #[.agg #[v], .agg #[.int .i64 W, .bool Q, .int .i64 S], .agg #[.int .i64 L, .int .i64 R], .int .i64 M]) ∧ RowI .u8 5 w' w.heap.size w'.heap.size v ys.length ys ∧ ys.length ≤ 401 ∧ Bytes ys ∧ i64Sp (L, R) ∧ (-10010 ≤ M ∧ M ≤ 10010) ∧ Below w.heap.size w w' := by
  go_enter Tryd.func6, Tryd.ntmps6
  have hb : Below w.heap.size w w := Below.refl _ _
  go_wp2_with fail
  have bp : ∀ o0 o1 o2, Below w.heap.size w (((w.alloc o0).alloc o1).alloc o2) := fun o0 o1 o2 => (((Below.refl _ _).alloc (Nat.le_refl _) o0).alloc (by simp) o1).alloc (by simp; omega) o2
  have hbt : ∀ o0 o1 o2, Below w.heap.size w (((w.alloc o0).alloc o1).alloc o2) := fun o0 o1 o2 => hb.trans ((bp o0 o1 o2).mono hb.size)
  refine Calls.mono (l10With_any a n ca xs _ (ha.below (hbt _ _ _)) hB hn) ?_
  rintro e w1 ⟨v, ys, W, Q, S, L, R, rfl, rv, hyl, hyb, hsp, hc⟩
  obtain ⟨av, kv, rfl, hkv1, hkv2⟩ := rv.shape
  simp only [World.size_alloc] at rv
  have s1 : w.heap.size + 3 ≤ w1.heap.size := by have := hc.size; simp at this; omega
  have bq : Below w.heap.size w w1 := (bp _ _ _).trans (hc.mono (bp _ _ _).size)
  have cA0 : w1.cell? ⟨w.heap.size, 0, none⟩ = some (.slice none 0 0) := cell_later hc (by simp [go_sem])
  have fA0 : w1.frozen? ⟨w.heap.size, 0, none⟩ = false := (hc.frozen (p := ⟨w.heap.size, 0, none⟩) (by first | (simp; done) | (simp; omega))).trans (by simp [go_sem])
  have zA : w.heap.size < w1.heap.size := by omega
  have cB0 : w1.cell? ⟨w.heap.size + 1, 0, none⟩ = some (.int .i64 0) := cell_later hc (by simp [go_sem])
  have fB0 : w1.frozen? ⟨w.heap.size + 1, 0, none⟩ = false := (hc.frozen (p := ⟨w.heap.size + 1, 0, none⟩) (by first | (simp; done) | (simp; omega))).trans (by simp [go_sem])
  have cB1 : w1.cell? ⟨w.heap.size + 1, 1, none⟩ = some (.bool false) := cell_later hc (by simp [go_sem])
  have fB1 : w1.frozen? ⟨w.heap.size + 1, 1, none⟩ = false := (hc.frozen (p := ⟨w.heap.size + 1, 1, none⟩) (by first | (simp; done) | (simp; omega))).trans (by simp [go_sem])
  have cB2 : w1.cell? ⟨w.heap.size + 1, 2, none⟩ = some (.int .i64 0) := cell_later hc (by simp [go_sem])
  have fB2 : w1.frozen? ⟨w.heap.size + 1, 2, none⟩ = false := (hc.frozen (p := ⟨w.heap.size + 1, 2, none⟩) (by first | (simp; done) | (simp; omega))).trans (by simp [go_sem])
  have zB : w.heap.size + 1 < w1.heap.size := by omega
  have cC0 : w1.cell? ⟨w.heap.size + 1 + 1, 0, none⟩ = some (.int .i64 0) := cell_later hc (by simp [go_sem])
  have fC0 : w1.frozen? ⟨w.heap.size + 1 + 1, 0, none⟩ = false := (hc.frozen (p := ⟨w.heap.size + 1 + 1, 0, none⟩) (by first | (simp; done) | (simp; omega))).trans (by simp [go_sem])
  have cC1 : w1.cell? ⟨w.heap.size + 1 + 1, 1, none⟩ = some (.int .i64 0) := cell_later hc (by simp [go_sem])
  have fC1 : w1.frozen? ⟨w.heap.size + 1 + 1, 1, none⟩ = false := (hc.frozen (p := ⟨w.heap.size + 1 + 1, 1, none⟩) (by first | (simp; done) | (simp; omega))).trans (by simp [go_sem])
  have zC : w.heap.size + 1 + 1 < w1.heap.size := by omega
  replace hb := hb.trans (bq.mono hb.size)
  clear hc bq bp hbt
  go_wp2_with fail
  have bp : ∀ o0 o1 o2, Below w1.heap.size w1 (((w1.alloc o0).alloc o1).alloc o2) := fun o0 o1 o2 => (((Below.refl _ _).alloc (Nat.le_refl _) o0).alloc (by simp) o1).alloc (by simp; omega) o2
  have hbt : ∀ o0 o1 o2, Below w.heap.size w (((w1.alloc o0).alloc o1).alloc o2) := fun o0 o1 o2 => hb.trans ((bp o0 o1 o2).mono hb.size)
  refine Calls.mono (l1Later_any a n ca 3 xs w.heap.size _ (ha.below (hbt _ _ _)) hB hn (src_below ha) (by have := hb.size; simp; omega) (by omega)) ?_
  rintro e w2 ⟨rfl, hs, hc⟩
  (try simp only [World.size_alloc] at hs)
  have s2 : w1.heap.size + 3 ≤ w2.heap.size := by have := hc.size; simp at this; omega
  have bq : Below w1.heap.size w1 w2 := (bp _ _ _).trans (hc.mono (bp _ _ _).size)
  replace cA0 := cell_later bq cA0
  replace fA0 := (bq.frozen (p := ⟨w.heap.size, 0, none⟩) zA).trans fA0
  replace zA := Nat.lt_of_lt_of_le zA bq.size
  replace cB0 := cell_later bq cB0
  replace fB0 := (bq.frozen (p := ⟨w.heap.size + 1, 0, none⟩) zB).trans fB0
  replace cB1 := cell_later bq cB1
  replace fB1 := (bq.frozen (p := ⟨w.heap.size + 1, 1, none⟩) zB).trans fB1
  replace cB2 := cell_later bq cB2
  replace fB2 := (bq.frozen (p := ⟨w.heap.size + 1, 2, none⟩) zB).trans fB2
  replace zB := Nat.lt_of_lt_of_le zB bq.size
  replace cC0 := cell_later bq cC0
  replace fC0 := (bq.frozen (p := ⟨w.heap.size + 1 + 1, 0, none⟩) zC).trans fC0
  replace cC1 := cell_later bq cC1
  replace fC1 := (bq.frozen (p := ⟨w.heap.size + 1 + 1, 1, none⟩) zC).trans fC1
  replace zC := Nat.lt_of_lt_of_le zC bq.size
  have cF0 : w2.cell? ⟨w1.heap.size, 0, none⟩ = some (.slice av ys.length kv) := cell_later hc (by simp [go_sem])
  have zF : w1.heap.size < w2.heap.size := by omega
  have cL0 : w2.cell? ⟨w1.heap.size + 1, 0, none⟩ = some (.int .i64 W) := cell_later hc (by simp [go_sem])
  have cL1 : w2.cell? ⟨w1.heap.size + 1, 1, none⟩ = some (.bool Q) := cell_later hc (by simp [go_sem])
  have cL2 : w2.cell? ⟨w1.heap.size + 1, 2, none⟩ = some (.int .i64 S) := cell_later hc (by simp [go_sem])
  have zL : w1.heap.size + 1 < w2.heap.size := by omega
  have cP0 : w2.cell? ⟨w1.heap.size + 1 + 1, 0, none⟩ = some (.int .i64 L) := cell_later hc (by simp [go_sem])
  have cP1 : w2.cell? ⟨w1.heap.size + 1 + 1, 1, none⟩ = some (.int .i64 R) := cell_later hc (by simp [go_sem])
  have zP : w1.heap.size + 1 + 1 < w2.heap.size := by omega
  replace rv := rv.below bq
  replace hb := hb.trans (bq.mono hb.size)
  clear hc bq bp hbt
  have zsrc := hs.lt
  have zsrc0 := zsrc
  go_wp2_with fail
  have bd : Below w2.heap.size w2 w2.drew := (Below.refl _ _).drew
  refine wp_region_held_drew (S := fun w' => Below w.heap.size w w' ∧ w'.cell? ⟨w1.heap.size, 0, none⟩ = some (.slice av ys.length kv) ∧ w'.cell? ⟨w1.heap.size + 1, 0, none⟩ = some (.int .i64 W) ∧ w'.cell? ⟨w1.heap.size + 1, 1, none⟩ = some (.bool Q) ∧ w'.cell? ⟨w1.heap.size + 1, 2, none⟩ = some (.int .i64 S) ∧ w'.cell? ⟨w1.heap.size + 1 + 1, 0, none⟩ = some (.int .i64 L) ∧ w'.cell? ⟨w1.heap.size + 1 + 1, 1, none⟩ = some (.int .i64 R)) (by kernel_rfl) ⟨(hb.trans (bd.mono hb.size)), cell_later bd cF0, cell_later bd cL0, cell_later bd cL1, cell_later bd cL2, cell_later bd cP0, cell_later bd cP1⟩ (fun hS => ?_)
  obtain ⟨D2, hD⟩ : ∃ D, w2.drew = D := ⟨_, rfl⟩
  rw [hD] at hS bd ⊢
  have hc := bd
  clear hD bd
  have hs2 := hs.kept (grownBy_of_below hc) (by simp)
  clear hs
  have hs := hs2
  clear hs2
  replace hc := grown_none (row := some (w1.heap.size + 1 + 1 + 1)) (grownBy_of_below hc)
  have s3 : w2.heap.size ≤ D2.heap.size := hc.size
  have gq : w2.grownBy D2 (some (w1.heap.size + 1 + 1 + 1)) := hc
  replace cA0 := (Chg.one gq).at cA0 zA (by omega)
  replace fA0 := (Chg.one gq).fr fA0 zA (by omega)
  replace zA := Nat.lt_of_lt_of_le zA gq.size
  replace cB0 := (Chg.one gq).at cB0 zB (by omega)
  replace fB0 := (Chg.one gq).fr fB0 zB (by omega)
  replace cB1 := (Chg.one gq).at cB1 zB (by omega)
  replace fB1 := (Chg.one gq).fr fB1 zB (by omega)
  replace cB2 := (Chg.one gq).at cB2 zB (by omega)
  replace fB2 := (Chg.one gq).fr fB2 zB (by omega)
  replace zB := Nat.lt_of_lt_of_le zB gq.size
  replace cC0 := (Chg.one gq).at cC0 zC (by omega)
  replace fC0 := (Chg.one gq).fr fC0 zC (by omega)
  replace cC1 := (Chg.one gq).at cC1 zC (by omega)
  replace fC1 := (Chg.one gq).fr fC1 zC (by omega)
  replace zC := Nat.lt_of_lt_of_le zC gq.size
  replace cF0 := (Chg.one gq).at cF0 zF (by omega)
  replace zF := Nat.lt_of_lt_of_le zF gq.size
  replace cL0 := (Chg.one gq).at cL0 zL (by omega)
  replace cL1 := (Chg.one gq).at cL1 zL (by omega)
  replace cL2 := (Chg.one gq).at cL2 zL (by omega)
  replace zL := Nat.lt_of_lt_of_le zL gq.size
  replace cP0 := (Chg.one gq).at cP0 zP (by omega)
  replace cP1 := (Chg.one gq).at cP1 zP (by omega)
  replace zP := Nat.lt_of_lt_of_le zP gq.size
  replace rv := rv.chg (Chg.one gq) (by omega)
  replace hb := below_src hb gq (by omega)
  clear hc gq
  replace zsrc := hs.lt
  refine wpAnyH_take (i := 0) (v := (.agg #[.slice av ys.length kv])) rfl (by as_aux_lemma => kernel_rfl) (by as_aux_lemma => kernel_rfl) (by as_aux_lemma => kernel_rfl) (fun _ _ _ h => h) (Or.inl ⟨by kernel_rfl, ?_⟩) hS ?_
  · intro w hSw; (try dsimp only at hSw); obtain ⟨hSb, hl0, hl1, hl2, hl3, hl4, hl5⟩ := hSw; go_simp
  (try simp only [Act.put, List.getElem_toArray, List.getElem_cons_zero, List.getElem_cons_succ, List.setIfInBounds_toArray, List.set_cons_zero, List.set_cons_succ])
  refine wpAnyH_take (i := 1) (v := (.agg #[.int .i64 W, .bool Q, .int .i64 S])) rfl (by as_aux_lemma => kernel_rfl) (by as_aux_lemma => kernel_rfl) (by as_aux_lemma => kernel_rfl) (fun _ _ _ h => h) (Or.inl ⟨by kernel_rfl, ?_⟩) hS ?_
  · intro w hSw; (try dsimp only at hSw); obtain ⟨hSb, hl0, hl1, hl2, hl3, hl4, hl5⟩ := hSw; go_simp
  (try simp only [Act.put, List.getElem_toArray, List.getElem_cons_zero, List.getElem_cons_succ, List.setIfInBounds_toArray, List.set_cons_zero, List.set_cons_succ])
  refine wpAnyH_take (i := 2) (v := (.agg #[.int .i64 L, .int .i64 R])) rfl (by as_aux_lemma => kernel_rfl) (by as_aux_lemma => kernel_rfl) (by as_aux_lemma => kernel_rfl) (fun _ _ _ h => h) (Or.inl ⟨by kernel_rfl, ?_⟩) hS ?_
  · intro w hSw; (try dsimp only at hSw); obtain ⟨hSb, hl0, hl1, hl2, hl3, hl4, hl5⟩ := hSw; go_simp
  (try simp only [Act.put, List.getElem_toArray, List.getElem_cons_zero, List.getElem_cons_succ, List.setIfInBounds_toArray, List.set_cons_zero, List.set_cons_succ])
  refine wpAnyH_take (i := 3) (v := (.pointer (some ⟨w1.heap.size + 1 + 1 + 1, 0, none⟩))) rfl (by as_aux_lemma => kernel_rfl) (by as_aux_lemma => kernel_rfl) (by as_aux_lemma => kernel_rfl) (fun _ _ _ h => h) (Or.inl ⟨by kernel_rfl, ?_⟩) hS ?_
  · intro w hSw; (try dsimp only at hSw); go_simp
  (try simp only [Act.put, List.getElem_toArray, List.getElem_cons_zero, List.getElem_cons_succ, List.setIfInBounds_toArray, List.set_cons_zero, List.set_cons_succ])
  refine wpAnyH_take (i := 4) (v := (.pointer (some ⟨w1.heap.size + 1 + 1 + 1, 0, none⟩))) rfl (by as_aux_lemma => kernel_rfl) (by as_aux_lemma => kernel_rfl) (by as_aux_lemma => kernel_rfl) (fun _ _ _ h => h) (Or.inl ⟨by kernel_rfl, ?_⟩) hS ?_
  · intro w hSw; (try dsimp only at hSw); go_simp
  (try simp only [Act.put, List.getElem_toArray, List.getElem_cons_zero, List.getElem_cons_succ, List.setIfInBounds_toArray, List.set_cons_zero, List.set_cons_succ])
  refine wpAnyH_take (i := 7) (v := (.pointer (some ⟨w1.heap.size + 1 + 1 + 1, 0, none⟩))) rfl (by as_aux_lemma => kernel_rfl) (by as_aux_lemma => kernel_rfl) (by as_aux_lemma => kernel_rfl) (fun _ _ _ h => h) (Or.inl ⟨by kernel_rfl, ?_⟩) hS ?_
  · intro w hSw; (try dsimp only at hSw); go_simp
  (try simp only [Act.put, List.getElem_toArray, List.getElem_cons_zero, List.getElem_cons_succ, List.setIfInBounds_toArray, List.set_cons_zero, List.set_cons_succ])
  refine wpAnyH_ready (rs := [5]) (by as_aux_lemma => kernel_rfl) (by simp) ?_
  refine AllReadyH.cons rfl (fun K hK => ?_) AllReadyH.nil
  go_simp
  refine Calls.mono (l1Next_any w.heap.size (w1.heap.size + 1 + 1 + 1) _ 20 _ hs (by omega) (by omega)) ?_
  clear hs
  rintro e w4 ⟨p, rfl, hp, hs, hc⟩
  obtain ⟨hp1, hp2⟩ := hp.2 (by omega)
  have hwp : IntKind.i64.wrap (p - 10) = p - 10 := by rw [IntKind.wrap_i64] <;> omega
  have s4 : D2.heap.size ≤ w4.heap.size := hc.size
  have gq : D2.grownBy w4 (some (w1.heap.size + 1 + 1 + 1)) := hc
  replace cA0 := (Chg.one gq).at cA0 zA (by omega)
  replace fA0 := (Chg.one gq).fr fA0 zA (by omega)
  replace zA := Nat.lt_of_lt_of_le zA gq.size
  replace cB0 := (Chg.one gq).at cB0 zB (by omega)
  replace fB0 := (Chg.one gq).fr fB0 zB (by omega)
  replace cB1 := (Chg.one gq).at cB1 zB (by omega)
  replace fB1 := (Chg.one gq).fr fB1 zB (by omega)
  replace cB2 := (Chg.one gq).at cB2 zB (by omega)
  replace fB2 := (Chg.one gq).fr fB2 zB (by omega)
  replace zB := Nat.lt_of_lt_of_le zB gq.size
  replace cC0 := (Chg.one gq).at cC0 zC (by omega)
  replace fC0 := (Chg.one gq).fr fC0 zC (by omega)
  replace cC1 := (Chg.one gq).at cC1 zC (by omega)
  replace fC1 := (Chg.one gq).fr fC1 zC (by omega)
  replace zC := Nat.lt_of_lt_of_le zC gq.size
  replace cF0 := (Chg.one gq).at cF0 zF (by omega)
  replace zF := Nat.lt_of_lt_of_le zF gq.size
  replace cL0 := (Chg.one gq).at cL0 zL (by omega)
  replace cL1 := (Chg.one gq).at cL1 zL (by omega)
  replace cL2 := (Chg.one gq).at cL2 zL (by omega)
  replace zL := Nat.lt_of_lt_of_le zL gq.size
  replace cP0 := (Chg.one gq).at cP0 zP (by omega)
  replace cP1 := (Chg.one gq).at cP1 zP (by omega)
  replace zP := Nat.lt_of_lt_of_le zP gq.size
  replace rv := rv.chg (Chg.one gq) (by omega)
  replace hb := below_src hb gq (by omega)
  clear hc gq
  replace zsrc := hs.lt
  refine hK.out _ _ (⟨hb, cF0, cL0, cL1, cL2, cP0, cP1⟩) (fun hS => ?_)
  clear hK K
  (try simp only [Act.put, List.getElem_toArray, List.getElem_cons_zero, List.getElem_cons_succ, List.setIfInBounds_toArray, List.set_cons_zero, List.set_cons_succ])
  refine wpAnyH_take (i := 6) (v := (.int .i64 (p - 10))) rfl (by as_aux_lemma => kernel_rfl) (by as_aux_lemma => kernel_rfl) (by as_aux_lemma => kernel_rfl) (fun _ _ _ h => h) (Or.inl ⟨by kernel_rfl, ?_⟩) hS ?_
  · intro w hSw; (try dsimp only at hSw); go_simp
  (try simp only [Act.put, List.getElem_toArray, List.getElem_cons_zero, List.getElem_cons_succ, List.setIfInBounds_toArray, List.set_cons_zero, List.set_cons_succ])
  refine wpAnyH_ready (rs := [8]) (by as_aux_lemma => kernel_rfl) (by simp) ?_
  refine AllReadyH.cons rfl (fun K hK => ?_) AllReadyH.nil
  go_simp
  refine Calls.mono (l1Next_any w.heap.size (w1.heap.size + 1 + 1 + 1) _ 20 _ hs (by omega) (by omega)) ?_
  clear hs
  rintro e w5 ⟨q, rfl, hq3, hs, hc⟩
  obtain ⟨hq1, hq2⟩ := hq3.2 (by omega)
  have hwq : IntKind.i64.wrap (q - 10) = q - 10 := by rw [IntKind.wrap_i64] <;> omega
  have s5 : w4.heap.size ≤ w5.heap.size := hc.size
  have gq : w4.grownBy w5 (some (w1.heap.size + 1 + 1 + 1)) := hc
  replace cA0 := (Chg.one gq).at cA0 zA (by omega)
  replace fA0 := (Chg.one gq).fr fA0 zA (by omega)
  replace zA := Nat.lt_of_lt_of_le zA gq.size
  replace cB0 := (Chg.one gq).at cB0 zB (by omega)
  replace fB0 := (Chg.one gq).fr fB0 zB (by omega)
  replace cB1 := (Chg.one gq).at cB1 zB (by omega)
  replace fB1 := (Chg.one gq).fr fB1 zB (by omega)
  replace cB2 := (Chg.one gq).at cB2 zB (by omega)
  replace fB2 := (Chg.one gq).fr fB2 zB (by omega)
  replace zB := Nat.lt_of_lt_of_le zB gq.size
  replace cC0 := (Chg.one gq).at cC0 zC (by omega)
  replace fC0 := (Chg.one gq).fr fC0 zC (by omega)
  replace cC1 := (Chg.one gq).at cC1 zC (by omega)
  replace fC1 := (Chg.one gq).fr fC1 zC (by omega)
  replace zC := Nat.lt_of_lt_of_le zC gq.size
  replace cF0 := (Chg.one gq).at cF0 zF (by omega)
  replace zF := Nat.lt_of_lt_of_le zF gq.size
  replace cL0 := (Chg.one gq).at cL0 zL (by omega)
  replace cL1 := (Chg.one gq).at cL1 zL (by omega)
  replace cL2 := (Chg.one gq).at cL2 zL (by omega)
  replace zL := Nat.lt_of_lt_of_le zL gq.size
  replace cP0 := (Chg.one gq).at cP0 zP (by omega)
  replace cP1 := (Chg.one gq).at cP1 zP (by omega)
  replace zP := Nat.lt_of_lt_of_le zP gq.size
  replace rv := rv.chg (Chg.one gq) (by omega)
  replace hb := below_src hb gq (by omega)
  clear hc gq
  replace zsrc := hs.lt
  refine hK.out _ _ (⟨hb, cF0, cL0, cL1, cL2, cP0, cP1⟩) (fun hS => ?_)
  clear hK K
  (try simp only [Act.put, List.getElem_toArray, List.getElem_cons_zero, List.getElem_cons_succ, List.setIfInBounds_toArray, List.set_cons_zero, List.set_cons_succ])
  refine wpAnyH_take (i := 9) (v := (.int .i64 (q - 10))) rfl (by as_aux_lemma => kernel_rfl) (by as_aux_lemma => kernel_rfl) (by as_aux_lemma => kernel_rfl) (fun _ _ _ h => h) (Or.inl ⟨by kernel_rfl, ?_⟩) hS ?_
  · intro w hSw; (try dsimp only at hSw); go_simp
  (try simp only [Act.put, List.getElem_toArray, List.getElem_cons_zero, List.getElem_cons_succ, List.setIfInBounds_toArray, List.set_cons_zero, List.set_cons_succ])
  refine wpAnyH_ready (rs := [10]) (by as_aux_lemma => kernel_rfl) (by simp) ?_
  refine AllReadyH.cons rfl (fun K hK => ?_) AllReadyH.nil
  go_simp
  have rA : Rd .i64 (w5.alloc (.cells #[.int .i64 (p - 10), .int .i64 (q - 10), .int .i64 9999, .int .i64 10000, .int .i64 (-10000)] 2)) (some ⟨w5.heap.size, 0, none⟩) 5 [(p - 10), (q - 10), 9999, 10000, -10000] := lit_rd w5 [(p - 10), (q - 10), 9999, 10000, -10000] 5 rfl (by simp [maxLen])
  have hc : Below w5.heap.size w5 (w5.alloc (.cells #[.int .i64 (p - 10), .int .i64 (q - 10), .int .i64 9999, .int .i64 10000, .int .i64 (-10000)] 2)) := (Below.refl _ _).alloc (Nat.le_refl _) _
  have zlit : w5.heap.size < (w5.alloc (.cells #[.int .i64 (p - 10), .int .i64 (q - 10), .int .i64 9999, .int .i64 10000, .int .i64 (-10000)] 2)).heap.size := by simp
  generalize (w5.alloc (.cells #[.int .i64 (p - 10), .int .i64 (q - 10), .int .i64 9999, .int .i64 10000, .int .i64 (-10000)] 2)) = w6 at *
  have hs2 := hs.kept (grownBy_of_below hc) (by simp)
  clear hs
  have hs := hs2
  clear hs2
  replace hc := grown_none (row := some (w1.heap.size + 1 + 1 + 1)) (grownBy_of_below hc)
  have s6 : w5.heap.size ≤ w6.heap.size := hc.size
  have gq : w5.grownBy w6 (some (w1.heap.size + 1 + 1 + 1)) := hc
  replace cA0 := (Chg.one gq).at cA0 zA (by omega)
  replace fA0 := (Chg.one gq).fr fA0 zA (by omega)
  replace zA := Nat.lt_of_lt_of_le zA gq.size
  replace cB0 := (Chg.one gq).at cB0 zB (by omega)
  replace fB0 := (Chg.one gq).fr fB0 zB (by omega)
  replace cB1 := (Chg.one gq).at cB1 zB (by omega)
  replace fB1 := (Chg.one gq).fr fB1 zB (by omega)
  replace cB2 := (Chg.one gq).at cB2 zB (by omega)
  replace fB2 := (Chg.one gq).fr fB2 zB (by omega)
  replace zB := Nat.lt_of_lt_of_le zB gq.size
  replace cC0 := (Chg.one gq).at cC0 zC (by omega)
  replace fC0 := (Chg.one gq).fr fC0 zC (by omega)
  replace cC1 := (Chg.one gq).at cC1 zC (by omega)
  replace fC1 := (Chg.one gq).fr fC1 zC (by omega)
  replace zC := Nat.lt_of_lt_of_le zC gq.size
  replace cF0 := (Chg.one gq).at cF0 zF (by omega)
  replace zF := Nat.lt_of_lt_of_le zF gq.size
  replace cL0 := (Chg.one gq).at cL0 zL (by omega)
  replace cL1 := (Chg.one gq).at cL1 zL (by omega)
  replace cL2 := (Chg.one gq).at cL2 zL (by omega)
  replace zL := Nat.lt_of_lt_of_le zL gq.size
  replace cP0 := (Chg.one gq).at cP0 zP (by omega)
  replace cP1 := (Chg.one gq).at cP1 zP (by omega)
  replace zP := Nat.lt_of_lt_of_le zP gq.size
  replace rv := rv.chg (Chg.one gq) (by omega)
  replace hb := below_src hb gq (by omega)
  clear hc gq
  replace zsrc := hs.lt
  refine hK.out _ _ (⟨hb, cF0, cL0, cL1, cL2, cP0, cP1⟩) (fun hS => ?_)
  clear hK K
  (try simp only [Act.put, List.getElem_toArray, List.getElem_cons_zero, List.getElem_cons_succ, List.setIfInBounds_toArray, List.set_cons_zero, List.set_cons_succ])
  refine wpAnyH_ready (rs := [11]) (by as_aux_lemma => kernel_rfl) (by simp) ?_
  refine AllReadyH.cons rfl (fun K hK => ?_) AllReadyH.nil
  go_simp
  refine Calls.mono (l1Pick_any w.heap.size (w1.heap.size + 1 + 1 + 1) _ w5.heap.size 5 [p - 10, q - 10, 9999, 10000, -10000] _ hs (by omega) rfl (by omega) (by omega) (by omega) rA) ?_
  clear hs
  rintro e w7 ⟨M, rfl, hM, hs, hc⟩
  have hM2 : -10010 ≤ M ∧ M ≤ 10010 := by simp at hM; omega
  have s7 : w6.heap.size ≤ w7.heap.size := hc.size
  have gq : w6.grownBy w7 (some (w1.heap.size + 1 + 1 + 1)) := hc
  replace cA0 := (Chg.one gq).at cA0 zA (by omega)
  replace fA0 := (Chg.one gq).fr fA0 zA (by omega)
  replace zA := Nat.lt_of_lt_of_le zA gq.size
  replace cB0 := (Chg.one gq).at cB0 zB (by omega)
  replace fB0 := (Chg.one gq).fr fB0 zB (by omega)
  replace cB1 := (Chg.one gq).at cB1 zB (by omega)
  replace fB1 := (Chg.one gq).fr fB1 zB (by omega)
  replace cB2 := (Chg.one gq).at cB2 zB (by omega)
  replace fB2 := (Chg.one gq).fr fB2 zB (by omega)
  replace zB := Nat.lt_of_lt_of_le zB gq.size
  replace cC0 := (Chg.one gq).at cC0 zC (by omega)
  replace fC0 := (Chg.one gq).fr fC0 zC (by omega)
  replace cC1 := (Chg.one gq).at cC1 zC (by omega)
  replace fC1 := (Chg.one gq).fr fC1 zC (by omega)
  replace zC := Nat.lt_of_lt_of_le zC gq.size
  replace cF0 := (Chg.one gq).at cF0 zF (by omega)
  replace zF := Nat.lt_of_lt_of_le zF gq.size
  replace cL0 := (Chg.one gq).at cL0 zL (by omega)
  replace cL1 := (Chg.one gq).at cL1 zL (by omega)
  replace cL2 := (Chg.one gq).at cL2 zL (by omega)
  replace zL := Nat.lt_of_lt_of_le zL gq.size
  replace cP0 := (Chg.one gq).at cP0 zP (by omega)
  replace cP1 := (Chg.one gq).at cP1 zP (by omega)
  replace zP := Nat.lt_of_lt_of_le zP gq.size
  replace rv := rv.chg (Chg.one gq) (by omega)
  replace hb := below_src hb gq (by omega)
  clear hc gq
  replace zsrc := hs.lt
  refine hK.out _ _ (⟨hb, cF0, cL0, cL1, cL2, cP0, cP1⟩) (fun hS => ?_)
  clear hK K
  (try simp only [Act.put, List.getElem_toArray, List.getElem_cons_zero, List.getElem_cons_succ, List.setIfInBounds_toArray, List.set_cons_zero, List.set_cons_succ])
  refine wpAnyH_ready (rs := [12]) (by as_aux_lemma => kernel_rfl) (by simp) ?_
  refine AllReadyH.cons rfl (fun K hK => ?_) AllReadyH.nil
  go_simp
  refine hK.out _ _ (⟨(hb.setCell (by first | omega | (simp; omega) | simp) _), (cell_set1 cF0 (by omega)), (cell_set1 cL0 (by omega)), (cell_set1 cL1 (by omega)), (cell_set1 cL2 (by omega)), (cell_set1 cP0 (by omega)), (cell_set1 cP1 (by omega))⟩) (fun hS => ?_)
  clear hK K
  (try simp only [Act.put, List.getElem_toArray, List.getElem_cons_zero, List.getElem_cons_succ, List.setIfInBounds_toArray, List.set_cons_zero, List.set_cons_succ])
  have hc : w7.grownBy (w7.setCell ⟨w.heap.size, 0, none⟩ (.slice av ys.length kv)) (some (w.heap.size)) := (setCell_grown w7 (w.heap.size) 0 (.slice av ys.length kv))
  have hs2 := hs.kept hc (fun j hj => by cases hj; exact ⟨by omega, by omega⟩)
  clear hs
  have hs := hs2
  clear hs2
  have e0 : (w7.setCell ⟨w.heap.size, 0, none⟩ (.slice av ys.length kv)).cell? ⟨w.heap.size, 0, none⟩ = some (.slice av ys.length kv) := by simp [go_sem, cA0]
  generalize (w7.setCell ⟨w.heap.size, 0, none⟩ (.slice av ys.length kv)) = w8 at *
  clear cA0 fA0
  have cA0 := e0
  clear e0
  replace zA : w.heap.size < w8.heap.size := Nat.lt_of_lt_of_le zA hc.size
  have s8 : w7.heap.size ≤ w8.heap.size := hc.size
  have gq : w7.grownBy w8 (some (w.heap.size)) := hc
  replace cB0 := (Chg.one gq).at cB0 zB (by omega)
  replace fB0 := (Chg.one gq).fr fB0 zB (by omega)
  replace cB1 := (Chg.one gq).at cB1 zB (by omega)
  replace fB1 := (Chg.one gq).fr fB1 zB (by omega)
  replace cB2 := (Chg.one gq).at cB2 zB (by omega)
  replace fB2 := (Chg.one gq).fr fB2 zB (by omega)
  replace zB := Nat.lt_of_lt_of_le zB gq.size
  replace cC0 := (Chg.one gq).at cC0 zC (by omega)
  replace fC0 := (Chg.one gq).fr fC0 zC (by omega)
  replace cC1 := (Chg.one gq).at cC1 zC (by omega)
  replace fC1 := (Chg.one gq).fr fC1 zC (by omega)
  replace zC := Nat.lt_of_lt_of_le zC gq.size
  replace cF0 := (Chg.one gq).at cF0 zF (by omega)
  replace zF := Nat.lt_of_lt_of_le zF gq.size
  replace cL0 := (Chg.one gq).at cL0 zL (by omega)
  replace cL1 := (Chg.one gq).at cL1 zL (by omega)
  replace cL2 := (Chg.one gq).at cL2 zL (by omega)
  replace zL := Nat.lt_of_lt_of_le zL gq.size
  replace cP0 := (Chg.one gq).at cP0 zP (by omega)
  replace cP1 := (Chg.one gq).at cP1 zP (by omega)
  replace zP := Nat.lt_of_lt_of_le zP gq.size
  replace rv := rv.chg (Chg.one gq) (by omega)
  replace hb := below_src hb gq (by omega)
  clear hc gq
  replace zsrc := hs.lt
  refine wpAnyH_ready (rs := [13]) (by as_aux_lemma => kernel_rfl) (by simp) ?_
  refine AllReadyH.cons rfl (fun K hK => ?_) AllReadyH.nil
  go_simp
  refine hK.out _ _ (⟨(((hb.setCell (by first | omega | (simp; omega) | simp) _).setCell (by first | omega | (simp; omega) | simp) _).setCell (by first | omega | (simp; omega) | simp) _), (cell_set1 (cell_set1 (cell_set1 cF0 (by omega)) (by omega)) (by omega)), (cell_set1 (cell_set1 (cell_set1 cL0 (by omega)) (by omega)) (by omega)), (cell_set1 (cell_set1 (cell_set1 cL1 (by omega)) (by omega)) (by omega)), (cell_set1 (cell_set1 (cell_set1 cL2 (by omega)) (by omega)) (by omega)), (cell_set1 (cell_set1 (cell_set1 cP0 (by omega)) (by omega)) (by omega)), (cell_set1 (cell_set1 (cell_set1 cP1 (by omega)) (by omega)) (by omega))⟩) (fun hS => ?_)
  clear hK K
  (try simp only [Act.put, List.getElem_toArray, List.getElem_cons_zero, List.getElem_cons_succ, List.setIfInBounds_toArray, List.set_cons_zero, List.set_cons_succ])
  have hc : w8.grownBy (((w8.setCell ⟨w.heap.size + 1, 0, none⟩ (.int .i64 W)).setCell ⟨w.heap.size + 1, 1, none⟩ (.bool Q)).setCell ⟨w.heap.size + 1, 2, none⟩ (.int .i64 S)) (some (w.heap.size + 1)) := (grown_trans (grown_trans (setCell_grown w8 (w.heap.size + 1) 0 (.int .i64 W)) (setCell_grown (w8.setCell ⟨w.heap.size + 1, 0, none⟩ (.int .i64 W)) (w.heap.size + 1) 1 (.bool Q))) (setCell_grown ((w8.setCell ⟨w.heap.size + 1, 0, none⟩ (.int .i64 W)).setCell ⟨w.heap.size + 1, 1, none⟩ (.bool Q)) (w.heap.size + 1) 2 (.int .i64 S)))
  have hs2 := hs.kept hc (fun j hj => by cases hj; exact ⟨by omega, by omega⟩)
  clear hs
  have hs := hs2
  clear hs2
  have e0 : (((w8.setCell ⟨w.heap.size + 1, 0, none⟩ (.int .i64 W)).setCell ⟨w.heap.size + 1, 1, none⟩ (.bool Q)).setCell ⟨w.heap.size + 1, 2, none⟩ (.int .i64 S)).cell? ⟨w.heap.size + 1, 0, none⟩ = some (.int .i64 W) := by simp [go_sem, cB0, cB1, cB2]
  have e1 : (((w8.setCell ⟨w.heap.size + 1, 0, none⟩ (.int .i64 W)).setCell ⟨w.heap.size + 1, 1, none⟩ (.bool Q)).setCell ⟨w.heap.size + 1, 2, none⟩ (.int .i64 S)).cell? ⟨w.heap.size + 1, 1, none⟩ = some (.bool Q) := by simp [go_sem, cB0, cB1, cB2]
  have e2 : (((w8.setCell ⟨w.heap.size + 1, 0, none⟩ (.int .i64 W)).setCell ⟨w.heap.size + 1, 1, none⟩ (.bool Q)).setCell ⟨w.heap.size + 1, 2, none⟩ (.int .i64 S)).cell? ⟨w.heap.size + 1, 2, none⟩ = some (.int .i64 S) := by simp [go_sem, cB0, cB1, cB2]
  generalize (((w8.setCell ⟨w.heap.size + 1, 0, none⟩ (.int .i64 W)).setCell ⟨w.heap.size + 1, 1, none⟩ (.bool Q)).setCell ⟨w.heap.size + 1, 2, none⟩ (.int .i64 S)) = w9 at *
  clear cB0 fB0
  clear cB1 fB1
  clear cB2 fB2
  have cB0 := e0
  clear e0
  have cB1 := e1
  clear e1
  have cB2 := e2
  clear e2
  replace zB : w.heap.size + 1 < w9.heap.size := Nat.lt_of_lt_of_le zB hc.size
  have s9 : w8.heap.size ≤ w9.heap.size := hc.size
  have gq : w8.grownBy w9 (some (w.heap.size + 1)) := hc
  replace cA0 := (Chg.one gq).at cA0 zA (by omega)
  replace zA := Nat.lt_of_lt_of_le zA gq.size
  replace cC0 := (Chg.one gq).at cC0 zC (by omega)
  replace fC0 := (Chg.one gq).fr fC0 zC (by omega)
  replace cC1 := (Chg.one gq).at cC1 zC (by omega)
  replace fC1 := (Chg.one gq).fr fC1 zC (by omega)
  replace zC := Nat.lt_of_lt_of_le zC gq.size
  replace cF0 := (Chg.one gq).at cF0 zF (by omega)
  replace zF := Nat.lt_of_lt_of_le zF gq.size
  replace cL0 := (Chg.one gq).at cL0 zL (by omega)
  replace cL1 := (Chg.one gq).at cL1 zL (by omega)
  replace cL2 := (Chg.one gq).at cL2 zL (by omega)
  replace zL := Nat.lt_of_lt_of_le zL gq.size
  replace cP0 := (Chg.one gq).at cP0 zP (by omega)
  replace cP1 := (Chg.one gq).at cP1 zP (by omega)
  replace zP := Nat.lt_of_lt_of_le zP gq.size
  replace rv := rv.chg (Chg.one gq) (by omega)
  replace hb := below_src hb gq (by omega)
  clear hc gq
  replace zsrc := hs.lt
  refine wpAnyH_ready (rs := [14]) (by as_aux_lemma => kernel_rfl) (by simp) ?_
  refine AllReadyH.cons rfl (fun K hK => ?_) AllReadyH.nil
  go_simp
  refine hK.out _ _ (⟨((hb.setCell (by first | omega | (simp; omega) | simp) _).setCell (by first | omega | (simp; omega) | simp) _), (cell_set1 (cell_set1 cF0 (by omega)) (by omega)), (cell_set1 (cell_set1 cL0 (by omega)) (by omega)), (cell_set1 (cell_set1 cL1 (by omega)) (by omega)), (cell_set1 (cell_set1 cL2 (by omega)) (by omega)), (cell_set1 (cell_set1 cP0 (by omega)) (by omega)), (cell_set1 (cell_set1 cP1 (by omega)) (by omega))⟩) (fun hS => ?_)
  clear hK K
  (try simp only [Act.put, List.getElem_toArray, List.getElem_cons_zero, List.getElem_cons_succ, List.setIfInBounds_toArray, List.set_cons_zero, List.set_cons_succ])
  have hc : w9.grownBy ((w9.setCell ⟨w.heap.size + 1 + 1, 0, none⟩ (.int .i64 L)).setCell ⟨w.heap.size + 1 + 1, 1, none⟩ (.int .i64 R)) (some (w.heap.size + 1 + 1)) := (grown_trans (setCell_grown w9 (w.heap.size + 1 + 1) 0 (.int .i64 L)) (setCell_grown (w9.setCell ⟨w.heap.size + 1 + 1, 0, none⟩ (.int .i64 L)) (w.heap.size + 1 + 1) 1 (.int .i64 R)))
  have hs2 := hs.kept hc (fun j hj => by cases hj; exact ⟨by omega, by omega⟩)
  clear hs
  have hs := hs2
  clear hs2
  have e0 : ((w9.setCell ⟨w.heap.size + 1 + 1, 0, none⟩ (.int .i64 L)).setCell ⟨w.heap.size + 1 + 1, 1, none⟩ (.int .i64 R)).cell? ⟨w.heap.size + 1 + 1, 0, none⟩ = some (.int .i64 L) := by simp [go_sem, cC0, cC1]
  have e1 : ((w9.setCell ⟨w.heap.size + 1 + 1, 0, none⟩ (.int .i64 L)).setCell ⟨w.heap.size + 1 + 1, 1, none⟩ (.int .i64 R)).cell? ⟨w.heap.size + 1 + 1, 1, none⟩ = some (.int .i64 R) := by simp [go_sem, cC0, cC1]
  generalize ((w9.setCell ⟨w.heap.size + 1 + 1, 0, none⟩ (.int .i64 L)).setCell ⟨w.heap.size + 1 + 1, 1, none⟩ (.int .i64 R)) = w10 at *
  clear cC0 fC0
  clear cC1 fC1
  have cC0 := e0
  clear e0
  have cC1 := e1
  clear e1
  replace zC : w.heap.size + 1 + 1 < w10.heap.size := Nat.lt_of_lt_of_le zC hc.size
  have s10 : w9.heap.size ≤ w10.heap.size := hc.size
  have gq : w9.grownBy w10 (some (w.heap.size + 1 + 1)) := hc
  replace cA0 := (Chg.one gq).at cA0 zA (by omega)
  replace zA := Nat.lt_of_lt_of_le zA gq.size
  replace cB0 := (Chg.one gq).at cB0 zB (by omega)
  replace cB1 := (Chg.one gq).at cB1 zB (by omega)
  replace cB2 := (Chg.one gq).at cB2 zB (by omega)
  replace zB := Nat.lt_of_lt_of_le zB gq.size
  replace cF0 := (Chg.one gq).at cF0 zF (by omega)
  replace zF := Nat.lt_of_lt_of_le zF gq.size
  replace cL0 := (Chg.one gq).at cL0 zL (by omega)
  replace cL1 := (Chg.one gq).at cL1 zL (by omega)
  replace cL2 := (Chg.one gq).at cL2 zL (by omega)
  replace zL := Nat.lt_of_lt_of_le zL gq.size
  replace cP0 := (Chg.one gq).at cP0 zP (by omega)
  replace cP1 := (Chg.one gq).at cP1 zP (by omega)
  replace zP := Nat.lt_of_lt_of_le zP gq.size
  replace rv := rv.chg (Chg.one gq) (by omega)
  replace hb := below_src hb gq (by omega)
  clear hc gq
  replace zsrc := hs.lt
  refine wpAnyH_take (i := 15) (v := (.int .i64 M)) rfl (by as_aux_lemma => kernel_rfl) (by as_aux_lemma => kernel_rfl) (by as_aux_lemma => kernel_rfl) (fun _ _ _ h => h) (Or.inl ⟨by kernel_rfl, ?_⟩) hS ?_
  · intro w hSw; (try dsimp only at hSw); go_simp
  (try simp only [Act.put, List.getElem_toArray, List.getElem_cons_zero, List.getElem_cons_succ, List.setIfInBounds_toArray, List.set_cons_zero, List.set_cons_succ])
  refine wpAnyH_done (by kernel_rfl) ?_ _
  clear hS
  go_wp2
  exact bodyPost_ret (v := .tuple #[.agg #[.slice av ys.length kv], .agg #[.int .i64 W, .bool Q, .int .i64 S], .agg #[.int .i64 L, .int .i64 R], .int .i64 M]) (by simp [results, Tryd.results6, go_sem, cA0, cB0, cB1, cB2, cC0, cC1]) rfl ⟨_, ys, W, Q, S, L, R, M, rfl, rv.mono (by omega) (by omega), hyl, hyb, hsp, hM2, hb⟩
end Go.Proofs.YtjgmkcmlkffjlaaDoor

namespace Go.Proofs.YtjgmkcmlkffjlaaDoor
set_option linter.unusedVariables false
set_option linter.unusedSimpArgs false

theorem spAt_inj {cs : List Nat} {p q : Nat} {s : Int × Int} (h : SpAt cs p s) (k : SpAt cs q s) : p = q := by
  obtain ⟨i, j, c, h1, h2, h3, h4⟩ := h
  obtain ⟨i', j', c', k1, k2, k3, k4⟩ := k
  rw [h1, Prod.mk.injEq] at k1
  obtain ⟨e1, e2⟩ := k1
  obtain rfl : i = i' := by omega
  obtain rfl : j = j' := by omega
  omega
theorem spZero {cs : List Nat} (hpos : ∀ c ∈ cs, 1 ≤ c) {p : Nat} {s : Int × Int} (h : SpAt cs p s) (h0 : p = 0) : s = (0, 0) := by
  subst h0
  obtain ⟨i, j, c, rfl, h1, h2, h3⟩ := h
  have hj : j = 0 := by omega
  have hb : baseN (cs1 cs) i = 0 := by omega
  subst hj
  have hi : i = 0 := by
    apply Classical.byContradiction
    intro hi
    obtain ⟨d, ds, hd⟩ : ∃ d ds, cs1 cs = d :: ds := by
      cases hc : cs1 cs with
      | nil => rw [hc] at h1; simp at h1
      | cons d ds => exact ⟨d, ds, rfl⟩
    have hd1 : 1 ≤ d := by
      unfold cs1 at hd
      split at hd
      · simp at hd; omega
      · exact hpos d (by rw [hd]; exact List.mem_cons_self ..)
    obtain ⟨m, rfl⟩ : ∃ m, i = m + 1 := ⟨i - 1, by omega⟩
    rw [hd] at hb
    unfold baseN at hb
    simp at hb
    omega
  subst hi
  rfl
theorem moves {cs : List Nat} (hpos : ∀ c ∈ cs, 1 ≤ c) (hN : (spAll cs).length ≤ 9999) {s : Int × Int} (h : s ∈ spAll cs) {M : Int} (h1 : -9999 ≤ M) (h2 : M ≤ 9999) :
    spMove cs s M ∈ spAll cs ∧ spMove cs s 9999 ∈ spAll cs ∧ spMove cs s (-9999) = (0, 0) ∧ (spMove cs s M ≠ spMove cs s 9999 → spMove cs s M ≠ (0, 0) → spMove cs (spMove cs s M) (-M) = s) ∧ spMove cs s 1 ∈ spAll cs ∧ (spMove cs s 1 ≠ s → spMove cs (spMove cs s 1) (-1) = s) := by
  obtain ⟨p, hp⟩ := List.getElem?_of_mem h
  have hS := SpAt.of hp
  have hlt := (List.getElem?_eq_some_iff.1 hp).1
  have hR := spMove_at hpos hS M
  have hE := spMove_at hpos hS 9999
  have hF := spMove_at hpos hS (-9999)
  have hO := spMove_at hpos hS 1
  generalize hq : (min (max ((p : Int) + M) 0) (((spAll cs).length : Int) - 1)).toNat = q at hR
  rw [show (min (max ((p : Int) + 9999) 0) (((spAll cs).length : Int) - 1)).toNat = (spAll cs).length - 1 by omega] at hE
  rw [show (min (max ((p : Int) + -9999) 0) (((spAll cs).length : Int) - 1)).toNat = 0 by omega] at hF
  refine ⟨List.mem_of_getElem? hR.get, List.mem_of_getElem? hE.get, spZero hpos hF rfl, fun n1 n2 => ?_, List.mem_of_getElem? hO.get, fun n3 => ?_⟩
  · have hq1 : q ≠ (spAll cs).length - 1 := fun e => n1 (by have := hR.get; rw [e] at this; exact Option.some.inj (this.symm.trans hE.get))
    have hq0 : q ≠ 0 := fun e => n2 (spZero hpos hR e)
    have hB := spMove_at hpos hR (-M)
    rw [show (min (max ((q : Int) + -M) 0) (((spAll cs).length : Int) - 1)).toNat = p by omega] at hB
    exact Option.some.inj (hB.get.symm.trans hp)
  · generalize hr : (min (max ((p : Int) + 1) 0) (((spAll cs).length : Int) - 1)).toNat = r at hO
    have hrp : r ≠ p := fun e => n3 (by have := hO.get; rw [e] at this; exact Option.some.inj (this.symm.trans hp))
    have hB := spMove_at hpos hO (-1)
    rw [show (min (max ((r : Int) + -1) 0) (((spAll cs).length : Int) - 1)).toNat = p by omega] at hB
    exact Option.some.inj (hB.get.symm.trans hp)

theorem lnsA_sum : ∀ (xs : List Int) (f i : Nat), f ≤ i → ((lnsA f i xs).map fun l => l.2.toNat + 1).sum ≤ xs.length + (i - f) + 1
  | [], f, i, hf => by
    simp only [lnsA]
    split
    · simp
      try omega
    · simp
  | x :: xs, f, i, hf => by
    simp only [lnsA]
    split
    · have := lnsA_sum xs (i + 1) (i + 1) (Nat.le_refl _)
      simp only [List.map_cons, List.sum_cons, List.length_cons]
      omega
    · have := lnsA_sum xs f (i + 1) (by omega)
      simp only [List.length_cons]
      omega
theorem sumLe {α : Type} (l : List α) (f g : α → Nat) (h : ∀ x ∈ l, f x ≤ g x) : (l.map f).sum ≤ (l.map g).sum := by
  induction l with
  | nil => simp
  | cons x xs ih =>
    have h1 := h x (List.mem_cons_self ..)
    have h2 := ih (fun y hy => h y (List.mem_cons_of_mem _ hy))
    simp only [List.map_cons, List.sum_cons]
    omega
theorem sum_mul4 {α : Type} (l : List α) (f : α → Nat) : (l.map fun x => 4 * f x).sum = 4 * (l.map f).sum := by
  induction l with
  | nil => rfl
  | cons x xs ih => simp only [List.map_cons, List.sum_cons, ih]; omega
theorem cnt_tot {C : Bool} {W : Int} {xs : List Int} (hB : Bytes xs) (hn : xs.length ≤ 400) (hW : 1 ≤ W) : (spAll (cnt C W xs)).length ≤ 9999 := by
  rw [spAll_len]
  have h0 : (cnt C W xs).sum ≤ 1604 := by
    unfold cnt
    have h1 := sumLe (lns xs) (fun l => lnRows C W (cutOf xs l)) (fun l => 4 * (l.2.toNat + 1)) (fun l hl => by
      have hc := cellsAll_len (cutOf_bytes hB l)
      have hr := rwN_le (C := C) (n := (cellsAll (cutOf xs l)).length) hW
      have hcl : (cutOf xs l).length ≤ l.2.toNat := by unfold cutOf; simp only [List.length_take]; omega
      show rwN C W (cellsAll (cutOf xs l)).length ≤ _
      omega)
    have h2 := sum_mul4 (lns xs) (fun l => l.2.toNat + 1)
    have h3 := lnsA_sum xs 0 0 (Nat.le_refl _)
    have h4 : ((lns xs).map fun l => l.2.toNat + 1).sum ≤ xs.length + 1 := by simpa [lns] using h3
    omega
  unfold cs1
  split
  · simp
  · omega
end Go.Proofs.YtjgmkcmlkffjlaaDoor

namespace Go.Proofs.YtjgmkcmlkffjlaaDoor
open Go.RowKit
set_option linter.unusedVariables false
set_option linter.unusedSimpArgs false

/-- a number's digits, as a string -/
def digB (n : Nat) : ByteArray := ⟨(Lib.decDigits n).toArray⟩
theorem strOf_one (c : Int) : strOf [c] = ⟨#[UInt8.ofNat c.toNat]⟩ := rfl
theorem digB_lt {n : Nat} (h : n < 10) : digB n = strOf [48 + (n : Int)] := by
  unfold digB
  rw [Lib.decDigits, dif_pos h, strOf_one, show (48 + (n : Int)).toNat = 48 + n by omega]
theorem digB_ge {n : Nat} (h : ¬ n < 10) : digB n = digB (n / 10) ++ strOf [48 + ((n % 10 : Nat) : Int)] := by
  unfold digB
  conv => lhs; rw [Lib.decDigits, dif_neg h]
  rw [strOf_one, show (48 + ((n % 10 : Nat) : Int)).toNat = 48 + n % 10 by omega]
  apply ByteArray.ext
  simp
theorem digB_size : ∀ n : Nat, (digB n).size ≤ n + 1 := by
  intro n
  induction n using Nat.strongRecOn with
  | ind n ih =>
    by_cases h : n < 10
    · rw [digB_lt h]
      have : (strOf [48 + (n : Int)]).size = 1 := rfl
      omega
    · rw [digB_ge h]
      have h1 := ih (n / 10) (by omega)
      have h2 : (digB (n / 10) ++ strOf [48 + ((n % 10 : Nat) : Int)]).size = (digB (n / 10)).size + 1 := by
        rw [ByteArray.size_append]; rfl
      omega

theorem rdOneC {B : Nat} {c : Int} {w : World} (h : w.cell? ⟨B, 0, none⟩ = some (.int .u8 c)) : Rd .u8 w (some ⟨B, 0, none⟩) 1 [c] := by
  refine ⟨rfl, .inr ⟨B, 0, rfl, fun j hj => ?_⟩⟩
  have hj0 : j = 0 := by omega
  subst hj0
  exact h

set_option maxRecDepth 10000 in
set_option maxHeartbeats 3200000 in
theorem l1Digits_any : ∀ (n : Nat) (w : World), n ≤ 1000000 →
    Calls Tryd.prog 28 #[.int .i64 n] w fun e w' => e = .returned (.string (digB n)) ∧ Below w.heap.size w w' := by
  intro n
  induction n using Nat.strongRecOn with
  | ind n ih =>
  intro w hn
  by_cases h : n < 10
  · rw [digB_lt h]
    obtain ⟨c, hc⟩ : ∃ c : Int, 48 + (n : Int) = c := ⟨_, rfl⟩
    have hcr : 48 ≤ c ∧ c ≤ 57 := by omega
    have hwr : IntKind.u8.wrap c = c := by rw [IntKind.wrap_u8]; omega
    have hcv : ∀ w' : World, (convert 22 9 (.slice (some ⟨w'.heap.size, 0, none⟩) 1 1)).run Tryd.prog (w'.alloc (.cells #[.int .u8 c] 5)) = .ok (.string (strOf [c])) (w'.alloc (.cells #[.int .u8 c] 5)) := fun w' => conv_str (P := Tryd.prog) (S := 22) (D := 9) (cap := 1) (rdOneC (by simp [go_sem])) Tryd.underlying22 Tryd.underlying5 Tryd.underlying9
    have hlt : (n : Int) < 10 := by omega
    have hsum : IntKind.i64.wrap (48 + (n : Int)) = c := by rw [← hc, IntKind.wrap_i64]; omega
    have hn0 : ¬ (n : Int) < 0 := by omega
    have hsum2 : 48 + (n : Int) = c := hc
    rw [hc]
    generalize strOf [c] = T at hcv ⊢
    clear hc
    go_enter Tryd.func28, Tryd.ntmps28
    go_wp2
    go_ret
    exact ⟨rfl, (Below.refl _ _).alloc (Nat.le_refl _) _⟩
  · rw [digB_ge h]
    have IHt := fun w' => ih (n / 10) (by omega) w' (by omega)
    have hA := digB_size (n / 10)
    obtain ⟨c, hc⟩ : ∃ c : Int, 48 + ((n % 10 : Nat) : Int) = c := ⟨_, rfl⟩
    have hcr : 48 ≤ c ∧ c ≤ 57 := by omega
    have hwr : IntKind.u8.wrap c = c := by rw [IntKind.wrap_u8]; omega
    have hq : (n : Int) / 10 = ((n / 10 : Nat) : Int) := by omega
    have hm : (n : Int) % 10 = c - 48 := by omega
    have hcv : ∀ (B : Nat) (w' : World), w'.cell? ⟨B, 0, none⟩ = some (.int .u8 c) → (convert 22 9 (.slice (some ⟨B, 0, none⟩) 1 1)).run Tryd.prog w' = .ok (.string (strOf [c])) w' := fun B w' hx => conv_str (P := Tryd.prog) (S := 22) (D := 9) (cap := 1) (rdOneC hx) Tryd.underlying22 Tryd.underlying5 Tryd.underlying9
    have hHCV : Hid _ := hcv
    have hTs : (strOf [c]).size = 1 := rfl
    rw [hc]
    generalize strOf [c] = T at hHCV hTs ⊢
    generalize digB (n / 10) = A at *
    generalize n / 10 = m at *
    have IH : Hid _ := IHt
    have hA2 : A.size ≤ 1000000 := by omega
    have hlt : ¬ (n : Int) < 10 := by omega
    clear IHt ih hc hcv hA h
    go_enter Tryd.func28, Tryd.ntmps28
    go_wp2
    have bd : Below w.heap.size w w.drew := (Below.refl _ _).drew
    refine wp_region_held_drew (S := fun w' => Below w.heap.size w w') (by kernel_rfl) bd (fun hS => ?_)
    obtain ⟨D1, hD⟩ : ∃ D, w.drew = D := ⟨_, rfl⟩
    rw [hD] at hS bd ⊢
    clear hD bd
    refine wpAnyH_take (i := 0) (v := (.int .i64 n)) rfl (by as_aux_lemma => kernel_rfl) (by as_aux_lemma => kernel_rfl) (by as_aux_lemma => kernel_rfl) (fun _ _ _ h => h) (Or.inl ⟨by kernel_rfl, ?_⟩) hS ?_
    · intro w hSw; (try dsimp only at hSw); go_simp
    (try simp only [Act.put, List.getElem_toArray, List.getElem_cons_zero, List.getElem_cons_succ, List.setIfInBounds_toArray, List.set_cons_zero, List.set_cons_succ])
    refine wpAnyH_take (i := 1) (v := (.int .i64 m)) rfl (by as_aux_lemma => kernel_rfl) (by as_aux_lemma => kernel_rfl) (by as_aux_lemma => kernel_rfl) (fun _ _ _ h => h) (Or.inl ⟨by kernel_rfl, ?_⟩) hS ?_
    · intro w hSw; (try dsimp only at hSw); go_simp; all_goals (first | omega | (rw [IntKind.wrap_i64]; omega) | (rw [Int.tmod_eq_emod_of_nonneg (by omega)]; omega))
    (try simp only [Act.put, List.getElem_toArray, List.getElem_cons_zero, List.getElem_cons_succ, List.setIfInBounds_toArray, List.set_cons_zero, List.set_cons_succ])
    refine wpAnyH_take (i := 3) (v := (.int .i64 n)) rfl (by as_aux_lemma => kernel_rfl) (by as_aux_lemma => kernel_rfl) (by as_aux_lemma => kernel_rfl) (fun _ _ _ h => h) (Or.inl ⟨by kernel_rfl, ?_⟩) hS ?_
    · intro w hSw; (try dsimp only at hSw); go_simp
    (try simp only [Act.put, List.getElem_toArray, List.getElem_cons_zero, List.getElem_cons_succ, List.setIfInBounds_toArray, List.set_cons_zero, List.set_cons_succ])
    refine wpAnyH_take (i := 4) (v := (.int .i64 (c - 48))) rfl (by as_aux_lemma => kernel_rfl) (by as_aux_lemma => kernel_rfl) (by as_aux_lemma => kernel_rfl) (fun _ _ _ h => h) (Or.inl ⟨by kernel_rfl, ?_⟩) hS ?_
    · intro w hSw; (try dsimp only at hSw); go_simp; all_goals (first | omega | (rw [IntKind.wrap_i64]; omega) | (rw [Int.tmod_eq_emod_of_nonneg (by omega)]; omega))
    (try simp only [Act.put, List.getElem_toArray, List.getElem_cons_zero, List.getElem_cons_succ, List.setIfInBounds_toArray, List.set_cons_zero, List.set_cons_succ])
    refine wpAnyH_take (i := 5) (v := (.int .i64 c)) rfl (by as_aux_lemma => kernel_rfl) (by as_aux_lemma => kernel_rfl) (by as_aux_lemma => kernel_rfl) (fun _ _ _ h => h) (Or.inl ⟨by kernel_rfl, ?_⟩) hS ?_
    · intro w hSw; (try dsimp only at hSw); go_simp; all_goals (first | omega | (rw [IntKind.wrap_i64]; omega) | (rw [Int.tmod_eq_emod_of_nonneg (by omega)]; omega))
    (try simp only [Act.put, List.getElem_toArray, List.getElem_cons_zero, List.getElem_cons_succ, List.setIfInBounds_toArray, List.set_cons_zero, List.set_cons_succ])
    refine wpAnyH_take (i := 6) (v := (.int .u8 c)) rfl (by as_aux_lemma => kernel_rfl) (by as_aux_lemma => kernel_rfl) (by as_aux_lemma => kernel_rfl) (fun _ _ _ h => h) (Or.inl ⟨by kernel_rfl, ?_⟩) hS ?_
    · intro w hSw; (try dsimp only at hSw); go_simp
    (try simp only [Act.put, List.getElem_toArray, List.getElem_cons_zero, List.getElem_cons_succ, List.setIfInBounds_toArray, List.set_cons_zero, List.set_cons_succ])
    refine wpAnyH_ready (rs := [2, 7]) (by as_aux_lemma => kernel_rfl) (by simp) ?_
    refine AllReadyH.cons rfl (fun K hK => ?_) (AllReadyH.cons rfl (fun K hK => ?_) AllReadyH.nil)
    · skip
      go_simp
      refine Calls.mono (IH.out _) ?_
      rintro e w2 ⟨rfl, hc⟩
      refine hK.out _ _ (hS.trans (hc.mono hS.size)) (fun hS => ?_)
      clear hK K
      (try simp only [Act.put, List.getElem_toArray, List.getElem_cons_zero, List.getElem_cons_succ, List.setIfInBounds_toArray, List.set_cons_zero, List.set_cons_succ])
      clear hc
      refine wpAnyH_ready (rs := [7]) (by as_aux_lemma => kernel_rfl) (by simp) ?_
      refine AllReadyH.cons rfl (fun K hK => ?_) AllReadyH.nil
      go_simp
      refine hK.out _ _ (hS.alloc hS.size _) (fun hS => ?_)
      clear hK K
      (try simp only [Act.put, List.getElem_toArray, List.getElem_cons_zero, List.getElem_cons_succ, List.setIfInBounds_toArray, List.set_cons_zero, List.set_cons_succ])
      refine wpAnyH_ready (rs := [8]) (by as_aux_lemma => kernel_rfl) (by simp) ?_
      refine AllReadyH.cons rfl (fun K hK => ?_) AllReadyH.nil
      have hx := hHCV.out w2.heap.size (w2.alloc (.cells #[.int .u8 c] 5)) (by simp [go_sem])
      go_simp
      refine hK.out _ _ (hS) (fun hS => ?_)
      clear hK K
      (try simp only [Act.put, List.getElem_toArray, List.getElem_cons_zero, List.getElem_cons_succ, List.setIfInBounds_toArray, List.set_cons_zero, List.set_cons_succ])
      refine wpAnyH_take (i := 9) (v := (.string (A ++ T))) rfl (by as_aux_lemma => kernel_rfl) (by as_aux_lemma => kernel_rfl) (by as_aux_lemma => kernel_rfl) (fun _ _ _ h => h) (Or.inl ⟨by kernel_rfl, ?_⟩) hS ?_
      · intro w hSw; (try dsimp only at hSw); go_simp; all_goals (first | omega | (rw [IntKind.wrap_i64]; omega) | (rw [Int.tmod_eq_emod_of_nonneg (by omega)]; omega))
      (try simp only [Act.put, List.getElem_toArray, List.getElem_cons_zero, List.getElem_cons_succ, List.setIfInBounds_toArray, List.set_cons_zero, List.set_cons_succ])
      refine wpAnyH_take (i := 10) (v := (.string (A ++ T))) rfl (by as_aux_lemma => kernel_rfl) (by as_aux_lemma => kernel_rfl) (by as_aux_lemma => kernel_rfl) (fun _ _ _ h => h) (Or.inl ⟨by kernel_rfl, ?_⟩) hS ?_
      · intro w hSw; (try dsimp only at hSw); go_simp
      (try simp only [Act.put, List.getElem_toArray, List.getElem_cons_zero, List.getElem_cons_succ, List.setIfInBounds_toArray, List.set_cons_zero, List.set_cons_succ])
      refine wpAnyH_done (by kernel_rfl) ?_ _
      have hSf := hS
      clear hS
      go_wp2
      go_ret
      exact ⟨rfl, hSf⟩
    · skip
      go_simp
      refine hK.out _ _ (hS.alloc hS.size _) (fun hS => ?_)
      clear hK K
      (try simp only [Act.put, List.getElem_toArray, List.getElem_cons_zero, List.getElem_cons_succ, List.setIfInBounds_toArray, List.set_cons_zero, List.set_cons_succ])
      refine wpAnyH_ready (rs := [2, 8]) (by as_aux_lemma => kernel_rfl) (by simp) ?_
      refine AllReadyH.cons rfl (fun K hK => ?_) (AllReadyH.cons rfl (fun K hK => ?_) AllReadyH.nil)
      · skip
        go_simp
        refine Calls.mono (IH.out _) ?_
        rintro e w2 ⟨rfl, hc⟩
        have hcl : w2.cell? ⟨D1.heap.size, 0, none⟩ = some (.int .u8 c) := cell_later hc (by simp [go_sem])
        refine hK.out _ _ (hS.trans (hc.mono hS.size)) (fun hS => ?_)
        clear hK K
        (try simp only [Act.put, List.getElem_toArray, List.getElem_cons_zero, List.getElem_cons_succ, List.setIfInBounds_toArray, List.set_cons_zero, List.set_cons_succ])
        refine wpAnyH_ready (rs := [8]) (by as_aux_lemma => kernel_rfl) (by simp) ?_
        refine AllReadyH.cons rfl (fun K hK => ?_) AllReadyH.nil
        have hx := hHCV.out D1.heap.size w2 hcl
        go_simp
        refine hK.out _ _ (hS) (fun hS => ?_)
        clear hK K
        (try simp only [Act.put, List.getElem_toArray, List.getElem_cons_zero, List.getElem_cons_succ, List.setIfInBounds_toArray, List.set_cons_zero, List.set_cons_succ])
        refine wpAnyH_take (i := 9) (v := (.string (A ++ T))) rfl (by as_aux_lemma => kernel_rfl) (by as_aux_lemma => kernel_rfl) (by as_aux_lemma => kernel_rfl) (fun _ _ _ h => h) (Or.inl ⟨by kernel_rfl, ?_⟩) hS ?_
        · intro w hSw; (try dsimp only at hSw); go_simp; all_goals (first | omega | (rw [IntKind.wrap_i64]; omega) | (rw [Int.tmod_eq_emod_of_nonneg (by omega)]; omega))
        (try simp only [Act.put, List.getElem_toArray, List.getElem_cons_zero, List.getElem_cons_succ, List.setIfInBounds_toArray, List.set_cons_zero, List.set_cons_succ])
        refine wpAnyH_take (i := 10) (v := (.string (A ++ T))) rfl (by as_aux_lemma => kernel_rfl) (by as_aux_lemma => kernel_rfl) (by as_aux_lemma => kernel_rfl) (fun _ _ _ h => h) (Or.inl ⟨by kernel_rfl, ?_⟩) hS ?_
        · intro w hSw; (try dsimp only at hSw); go_simp
        (try simp only [Act.put, List.getElem_toArray, List.getElem_cons_zero, List.getElem_cons_succ, List.setIfInBounds_toArray, List.set_cons_zero, List.set_cons_succ])
        refine wpAnyH_done (by kernel_rfl) ?_ _
        have hSf := hS
        clear hS
        go_wp2
        go_ret
        exact ⟨rfl, hSf⟩
      · skip
        have hx := hHCV.out D1.heap.size (D1.alloc (.cells #[.int .u8 c] 5)) (by simp [go_sem])
        go_simp
        refine hK.out _ _ (hS) (fun hS => ?_)
        clear hK K
        (try simp only [Act.put, List.getElem_toArray, List.getElem_cons_zero, List.getElem_cons_succ, List.setIfInBounds_toArray, List.set_cons_zero, List.set_cons_succ])
        refine wpAnyH_ready (rs := [2]) (by as_aux_lemma => kernel_rfl) (by simp) ?_
        refine AllReadyH.cons rfl (fun K hK => ?_) AllReadyH.nil
        go_simp
        refine Calls.mono (IH.out _) ?_
        rintro e w2 ⟨rfl, hc⟩
        refine hK.out _ _ (hS.trans (hc.mono hS.size)) (fun hS => ?_)
        clear hK K
        (try simp only [Act.put, List.getElem_toArray, List.getElem_cons_zero, List.getElem_cons_succ, List.setIfInBounds_toArray, List.set_cons_zero, List.set_cons_succ])
        refine wpAnyH_take (i := 9) (v := (.string (A ++ T))) rfl (by as_aux_lemma => kernel_rfl) (by as_aux_lemma => kernel_rfl) (by as_aux_lemma => kernel_rfl) (fun _ _ _ h => h) (Or.inl ⟨by kernel_rfl, ?_⟩) hS ?_
        · intro w hSw; (try dsimp only at hSw); go_simp; all_goals (first | omega | (rw [IntKind.wrap_i64]; omega) | (rw [Int.tmod_eq_emod_of_nonneg (by omega)]; omega))
        (try simp only [Act.put, List.getElem_toArray, List.getElem_cons_zero, List.getElem_cons_succ, List.setIfInBounds_toArray, List.set_cons_zero, List.set_cons_succ])
        refine wpAnyH_take (i := 10) (v := (.string (A ++ T))) rfl (by as_aux_lemma => kernel_rfl) (by as_aux_lemma => kernel_rfl) (by as_aux_lemma => kernel_rfl) (fun _ _ _ h => h) (Or.inl ⟨by kernel_rfl, ?_⟩) hS ?_
        · intro w hSw; (try dsimp only at hSw); go_simp
        (try simp only [Act.put, List.getElem_toArray, List.getElem_cons_zero, List.getElem_cons_succ, List.setIfInBounds_toArray, List.set_cons_zero, List.set_cons_succ])
        refine wpAnyH_done (by kernel_rfl) ?_ _
        have hSf := hS
        clear hS
        go_wp2
        go_ret
        exact ⟨rfl, hSf⟩
end Go.Proofs.YtjgmkcmlkffjlaaDoor

namespace Go.Proofs.YtjgmkcmlkffjlaaDoor
open Go.Shelf

def Tryd.laysM173_ren : Go.Shelf.Ren := ⟨fun | 173 => 23 | 246 => 41 | 283 => 53 | 284 => 54 | 285 => 55 | 286 => 56 | 129 => 63 | 317 => 62 | 318 => 64 | 319 => 65 | 320 => 66 | 337 => 72 | 338 => 73 | n => n, fun | 2 => 2 | 3 => 3 | 9 => 9 | 4 => 4 | 171 => 98 | 0 => 0 | 53 => 99 | 37 => 22 | 5 => 5 | 173 => 102 | 212 => 116 | 51 => 117 | 20 => 20 | 213 => 118 | 46 => 120 | 232 => 140 | 233 => 141 | n => n, fun | 17 => 0 | 18 => 2 | 19 => 3 | n => n⟩

theorem Tryd.laysM173 : Go.Proofs.LaysM.n173 Tryd.prog Tryd.laysM173_ren := {
  mixed := by kernel_rfl
  f129 := Tryd.func63.trans (congrArg some (by kernel_rfl))
  f173 := Tryd.func23.trans (congrArg some (by kernel_rfl))
  f246 := Tryd.func41.trans (congrArg some (by kernel_rfl))
  f283 := Tryd.func53.trans (congrArg some (by kernel_rfl))
  f284 := Tryd.func54.trans (congrArg some (by kernel_rfl))
  f285 := Tryd.func55.trans (congrArg some (by kernel_rfl))
  f286 := Tryd.func56.trans (congrArg some (by kernel_rfl))
  f317 := Tryd.func62.trans (congrArg some (by kernel_rfl))
  f318 := Tryd.func64.trans (congrArg some (by kernel_rfl))
  f319 := Tryd.func65.trans (congrArg some (by kernel_rfl))
  f320 := Tryd.func66.trans (congrArg some (by kernel_rfl))
  f337 := Tryd.func72.trans (congrArg some (by kernel_rfl))
  f338 := Tryd.func73.trans (congrArg some (by kernel_rfl))
  t0 := Tryd.underlying0
  a0 := Tryd.isAgg0
  z0 := Tryd.sizeOf0
  v0 := Tryd.zeroValue0
  t2 := Tryd.underlying2
  a2 := Tryd.isAgg2
  z2 := Tryd.sizeOf2
  v2 := Tryd.zeroValue2
  t3 := Tryd.underlying3
  a3 := Tryd.isAgg3
  z3 := Tryd.sizeOf3
  v3 := Tryd.zeroValue3
  t4 := Tryd.underlying4
  a4 := Tryd.isAgg4
  z4 := Tryd.sizeOf4
  v4 := Tryd.zeroValue4
  t5 := Tryd.underlying5
  a5 := Tryd.isAgg5
  z5 := Tryd.sizeOf5
  v5 := Tryd.zeroValue5
  t9 := Tryd.underlying9
  a9 := Tryd.isAgg9
  z9 := Tryd.sizeOf9
  v9 := Tryd.zeroValue9
  t20 := Tryd.underlying20
  a20 := Tryd.isAgg20
  z20 := Tryd.sizeOf20
  v20 := Tryd.zeroValue20
  t37 := Tryd.underlying22
  a37 := Tryd.isAgg22
  z37 := Tryd.sizeOf22
  v37 := Tryd.zeroValue22
  t46 := Tryd.underlying120
  a46 := Tryd.isAgg120
  z46 := Tryd.sizeOf120
  v46 := Tryd.zeroValue120
  t51 := Tryd.underlying117
  a51 := Tryd.isAgg117
  z51 := Tryd.sizeOf117
  v51 := Tryd.zeroValue117
  t53 := Tryd.underlying99
  a53 := Tryd.isAgg99
  z53 := Tryd.sizeOf99
  v53 := Tryd.zeroValue99
  t171 := Tryd.underlying98
  a171 := Tryd.isAgg98
  z171 := Tryd.sizeOf98
  v171 := Tryd.zeroValue98
  t173 := Tryd.underlying102
  a173 := Tryd.isAgg102
  z173 := Tryd.sizeOf102
  v173 := Tryd.zeroValue102
  t212 := Tryd.underlying116
  a212 := Tryd.isAgg116
  z212 := Tryd.sizeOf116
  v212 := Tryd.zeroValue116
  t213 := Tryd.underlying118
  a213 := Tryd.isAgg118
  z213 := Tryd.sizeOf118
  t232 := Tryd.underlying140
  a232 := Tryd.isAgg140
  z232 := Tryd.sizeOf140
  v232 := Tryd.zeroValue140
  t233 := Tryd.underlying141
  a233 := Tryd.isAgg141
  z233 := Tryd.sizeOf141
  v233 := Tryd.zeroValue141
  g17 := by kernel_rfl
  g18 := by kernel_rfl
  g19 := by kernel_rfl
  i0 := by kernel_rfl
  i2 := by kernel_rfl
  i3 := by kernel_rfl
  i4 := by kernel_rfl
  i5 := by kernel_rfl
  i9 := by kernel_rfl
  i20 := by kernel_rfl
  i37 := by kernel_rfl
  i46 := by kernel_rfl
  i51 := by kernel_rfl
  i53 := by kernel_rfl
  i171 := by kernel_rfl
  i173 := by kernel_rfl
  i212 := by kernel_rfl
  i232 := by kernel_rfl
  i233 := by kernel_rfl
  m17 := by kernel_rfl
  m18 := by kernel_rfl
  m19 := by kernel_rfl }

open Go.RowKit Go.Sort Go.Lib in
theorem Tryd.strconv_FormatInt_10 (n : Int) (h0 : -9223372036854775808 ≤ n) (h1 : n ≤ 9223372036854775807) (w : World) (htab : Lib.TabIs Tryd.prog w "internal/strconv.uint64pow10" .u64 Lib.pow10Tab) :
    Calls Tryd.prog 23 #[.int .i64 n, .int .i64 10] w fun e w' => e = .returned (.string ⟨(Lib.itoa n).toArray⟩) ∧ ∃ k os, w' = grow (w.drewN k) os := Any.strconv_FormatInt_10 Tryd.laysM173 n h0 h1 w htab
end Go.Proofs.YtjgmkcmlkffjlaaDoor

namespace Go.Proofs.YtjgmkcmlkffjlaaDoor
open Go.RowKit
set_option linter.unusedVariables false
set_option linter.unusedSimpArgs false

def sptOk (L R : Int) : Prop := 0 ≤ L ∧ L ≤ 999 ∧ 0 ≤ R ∧ R ≤ 999
instance (L R : Int) : Decidable (sptOk L R) := by unfold sptOk; infer_instance
def sptC (L R : Int) : Int := if sptOk L R then 0 else 3
def sptT (L R : Int) : ByteArray := if sptOk L R then digB L.toNat ++ ⟨#[46]⟩ ++ digB R.toNat else ⟨#[]⟩

/-- the table of the library's digits -/
abbrev TabOk (w : World) : Prop := Lib.TabIs Tryd.prog w "internal/strconv.uint64pow10" .u64 Lib.pow10Tab
theorem TabOk.below {w w' : World} (h : TabOk w) (hb : Below w.heap.size w w') : TabOk w' := by
  have hg : Tryd.prog.globalNamed "internal/strconv.uint64pow10" = some 0 := by kernel_rfl
  have hc := Lib.TabIs.cell h hg 0 (by decide)
  have hlt : 0 < w.heap.size := block_lt_of_cell hc
  unfold TabOk Lib.TabIs at h ⊢
  exact var?_below hb hg hlt h
theorem formatInt_any (a : Nat) (ha : a ≤ 999) (w : World) (h : TabOk w) :
    Calls Tryd.prog 23 #[.int .i64 a, .int .i64 10] w fun e w' => e = .returned (.string (digB a)) ∧ Below w.heap.size w w' := by
  refine (Tryd.strconv_FormatInt_10 (a : Int) (by omega) (by omega) w h).mono ?_
  rintro e w' ⟨rfl, k, os, rfl⟩
  refine ⟨?_, Lib.below_grow _ w (Nat.le_refl _) k os⟩
  unfold digB Lib.itoa
  rw [if_neg (by omega), Int.toNat_natCast]

set_option maxRecDepth 10000 in
set_option maxHeartbeats 3200000 in
theorem specSpotText_any (L R : Int) (w : World) :
    Calls Tryd.prog 11 #[.agg #[.int .i64 L, .int .i64 R]] w fun e w' => e = .returned (.agg #[.int .i64 (sptC L R), .string (sptT L R)]) ∧ Below w.heap.size w w' := by
  by_cases hk : sptOk L R
  · have e1 : sptC L R = 0 := if_pos hk
    have e2 : sptT L R = digB L.toNat ++ ⟨#[46]⟩ ++ digB R.toNat := if_pos hk
    rw [e1, e2]
    obtain ⟨h1, h2, h3, h4⟩ := hk
    obtain ⟨a, rfl⟩ : ∃ a : Nat, L = (a : Int) := ⟨L.toNat, by omega⟩
    obtain ⟨b, rfl⟩ : ∃ b : Nat, R = (b : Int) := ⟨R.toNat, by omega⟩
    rw [Int.toNat_natCast, Int.toNat_natCast]
    clear e1 e2
    have hA := digB_size a
    have hB := digB_size b
    have CA := fun w' (hb : Below w.heap.size w w') => l1Digits_any a w' (by omega)
    have CB := fun w' (hb : Below w.heap.size w w') => l1Digits_any b w' (by omega)
    have I1 := fun w' => (l1In_any (a : Int) 0 999 w').mono (fun e w'' h => (⟨h.1, h.2 ▸ Below.refl _ _⟩ : e = _ ∧ Below w'.heap.size w' w''))
    have I2 := fun w' => (l1In_any (b : Int) 0 999 w').mono (fun e w'' h => (⟨h.1, h.2 ▸ Below.refl _ _⟩ : e = _ ∧ Below w'.heap.size w' w''))
    rw [decide_eq_true ⟨h1, h2⟩] at I1
    rw [decide_eq_true ⟨h3, h4⟩] at I2
    have HI1 : Hid _ := I1
    have HI2 : Hid _ := I2
    clear I1 I2
    generalize digB a = A at *
    generalize digB b = B at *
    have hAs : A.size ≤ 2000 := by omega
    have hBs : B.size ≤ 2000 := by omega
    have hAp : (A ++ ⟨#[46]⟩).size ≤ 2001 := by rw [ByteArray.size_append]; show A.size + 1 ≤ 2001; omega
    have HA : Hid _ := CA
    have HB : Hid _ := CB
    clear CA CB hA hB
    go_enter Tryd.func11, Tryd.ntmps11
    have hb : Below w.heap.size w w := Below.refl _ _
    go_wp2_with fail
    have bp : ∀ o0 o1, Below w.heap.size w ((w.alloc o0).alloc o1) := fun o0 o1 => ((Below.refl _ _).alloc (Nat.le_refl _) o0).alloc (by simp) o1
    have hbt : ∀ o0 o1, Below w.heap.size w ((w.alloc o0).alloc o1) := fun o0 o1 => hb.trans ((bp o0 o1).mono hb.size)
    refine Calls.mono (HI1.out _) ?_
    rintro e w1 ⟨rfl, hc⟩
    have s1 : w.heap.size + 2 ≤ w1.heap.size := by have := hc.size; simp at this; omega
    have bq : Below w.heap.size w w1 := (bp _ _).trans (hc.mono (bp _ _).size)
    have cs0 : w1.cell? ⟨w.heap.size, 0, none⟩ = some (.int .i64 (a : Int)) := cell_later hc (by simp [go_sem])
    have cs1 : w1.cell? ⟨w.heap.size, 1, none⟩ = some (.int .i64 (b : Int)) := cell_later hc (by simp [go_sem])
    have zs : w.heap.size < w1.heap.size := by omega
    have cR0 : w1.cell? ⟨w.heap.size + 1, 0, none⟩ = some (.int .i64 0) := cell_later hc (by simp [go_sem])
    have fR0 : w1.frozen? ⟨w.heap.size + 1, 0, none⟩ = false := (hc.frozen (p := ⟨w.heap.size + 1, 0, none⟩) (by first | (simp; done) | (simp; omega))).trans (by simp [go_sem])
    have cR1 : w1.cell? ⟨w.heap.size + 1, 1, none⟩ = some (.string ⟨#[]⟩) := cell_later hc (by simp [go_sem])
    have fR1 : w1.frozen? ⟨w.heap.size + 1, 1, none⟩ = false := (hc.frozen (p := ⟨w.heap.size + 1, 1, none⟩) (by first | (simp; done) | (simp; omega))).trans (by simp [go_sem])
    have zR : w.heap.size + 1 < w1.heap.size := by omega
    replace hb := hb.trans (bq.mono hb.size)
    clear hc bq bp hbt
    go_wp2_with fail
    refine Calls.mono (HI2.out _) ?_
    rintro e w2 ⟨rfl, hc⟩
    have s2 : w1.heap.size ≤ w2.heap.size := hc.size
    have bq := hc
    replace cs0 := cell_later bq cs0
    replace cs1 := cell_later bq cs1
    replace zs := Nat.lt_of_lt_of_le zs bq.size
    replace cR0 := cell_later bq cR0
    replace fR0 := (bq.frozen (p := ⟨w.heap.size + 1, 0, none⟩) zR).trans fR0
    replace cR1 := cell_later bq cR1
    replace fR1 := (bq.frozen (p := ⟨w.heap.size + 1, 1, none⟩) zR).trans fR1
    replace zR := Nat.lt_of_lt_of_le zR bq.size
    replace hb := hb.trans (bq.mono hb.size)
    clear hc bq
    go_wp2_with fail
    have bd : Below w2.heap.size w2 w2.drew := (Below.refl _ _).drew
    refine wp_region_held_drew (S := fun w' => Below w.heap.size w w' ∧ w'.cell? ⟨w.heap.size, 0, none⟩ = some (.int .i64 (a : Int)) ∧ w'.cell? ⟨w.heap.size, 1, none⟩ = some (.int .i64 (b : Int))) (by kernel_rfl) ⟨(hb.trans (bd.mono hb.size)), cell_later bd cs0, cell_later bd cs1⟩ (fun hS => ?_)
    obtain ⟨D2, hD⟩ : ∃ D, w2.drew = D := ⟨_, rfl⟩
    rw [hD] at hS bd ⊢
    have hc := bd
    clear hD bd
    have s3 : w2.heap.size ≤ D2.heap.size := hc.size
    have bq := hc
    replace cs0 := cell_later bq cs0
    replace cs1 := cell_later bq cs1
    replace zs := Nat.lt_of_lt_of_le zs bq.size
    replace cR0 := cell_later bq cR0
    replace fR0 := (bq.frozen (p := ⟨w.heap.size + 1, 0, none⟩) zR).trans fR0
    replace cR1 := cell_later bq cR1
    replace fR1 := (bq.frozen (p := ⟨w.heap.size + 1, 1, none⟩) zR).trans fR1
    replace zR := Nat.lt_of_lt_of_le zR bq.size
    replace hb := hb.trans (bq.mono hb.size)
    clear hc bq
    refine wpAnyH_take (i := 0) (v := (.pointer (some ⟨w.heap.size, 0, none⟩))) rfl (by as_aux_lemma => kernel_rfl) (by as_aux_lemma => kernel_rfl) (by as_aux_lemma => kernel_rfl) (fun _ _ _ h => h) (Or.inl ⟨by kernel_rfl, ?_⟩) hS ?_
    · intro w hSw; (try dsimp only at hSw); go_simp; all_goals (try omega)
    (try simp only [Act.put, List.getElem_toArray, List.getElem_cons_zero, List.getElem_cons_succ, List.setIfInBounds_toArray, List.set_cons_zero, List.set_cons_succ])
    refine wpAnyH_take (i := 1) (v := (.int .i64 (a : Int))) rfl (by as_aux_lemma => kernel_rfl) (by as_aux_lemma => kernel_rfl) (by as_aux_lemma => kernel_rfl) (fun _ _ _ h => h) (Or.inl ⟨by kernel_rfl, ?_⟩) hS ?_
    · intro w hSw; (try dsimp only at hSw); obtain ⟨hSb, hl0, hl1⟩ := hSw; go_simp; all_goals (try omega)
    (try simp only [Act.put, List.getElem_toArray, List.getElem_cons_zero, List.getElem_cons_succ, List.setIfInBounds_toArray, List.set_cons_zero, List.set_cons_succ])
    refine wpAnyH_take (i := 4) (v := (.pointer (some ⟨w.heap.size, 1, none⟩))) rfl (by as_aux_lemma => kernel_rfl) (by as_aux_lemma => kernel_rfl) (by as_aux_lemma => kernel_rfl) (fun _ _ _ h => h) (Or.inl ⟨by kernel_rfl, ?_⟩) hS ?_
    · intro w hSw; (try dsimp only at hSw); go_simp; all_goals (try omega)
    (try simp only [Act.put, List.getElem_toArray, List.getElem_cons_zero, List.getElem_cons_succ, List.setIfInBounds_toArray, List.set_cons_zero, List.set_cons_succ])
    refine wpAnyH_take (i := 5) (v := (.int .i64 (b : Int))) rfl (by as_aux_lemma => kernel_rfl) (by as_aux_lemma => kernel_rfl) (by as_aux_lemma => kernel_rfl) (fun _ _ _ h => h) (Or.inl ⟨by kernel_rfl, ?_⟩) hS ?_
    · intro w hSw; (try dsimp only at hSw); obtain ⟨hSb, hl0, hl1⟩ := hSw; go_simp; all_goals (try omega)
    (try simp only [Act.put, List.getElem_toArray, List.getElem_cons_zero, List.getElem_cons_succ, List.setIfInBounds_toArray, List.set_cons_zero, List.set_cons_succ])
    refine wpAnyH_ready (rs := [2]) (by as_aux_lemma => kernel_rfl) (by simp) ?_
    refine AllReadyH.cons rfl (fun K hK => ?_) AllReadyH.nil
    go_simp
    refine Calls.mono (HA.out _ hb) ?_
    rintro e w4 ⟨rfl, hc⟩
    have s4 : D2.heap.size ≤ w4.heap.size := hc.size
    have bq := hc
    replace cs0 := cell_later bq cs0
    replace cs1 := cell_later bq cs1
    replace zs := Nat.lt_of_lt_of_le zs bq.size
    replace cR0 := cell_later bq cR0
    replace fR0 := (bq.frozen (p := ⟨w.heap.size + 1, 0, none⟩) zR).trans fR0
    replace cR1 := cell_later bq cR1
    replace fR1 := (bq.frozen (p := ⟨w.heap.size + 1, 1, none⟩) zR).trans fR1
    replace zR := Nat.lt_of_lt_of_le zR bq.size
    replace hb := hb.trans (bq.mono hb.size)
    clear hc bq
    refine hK.out _ _ (⟨hb, cs0, cs1⟩) (fun hS => ?_)
    clear hK K
    (try simp only [Act.put, List.getElem_toArray, List.getElem_cons_zero, List.getElem_cons_succ, List.setIfInBounds_toArray, List.set_cons_zero, List.set_cons_succ])
    refine wpAnyH_take (i := 3) (v := (.string (A ++ ⟨#[46]⟩))) rfl (by as_aux_lemma => kernel_rfl) (by as_aux_lemma => kernel_rfl) (by as_aux_lemma => kernel_rfl) (fun _ _ _ h => h) (Or.inl ⟨by kernel_rfl, ?_⟩) hS ?_
    · intro w hSw; (try dsimp only at hSw); go_simp; all_goals (try omega)
    (try simp only [Act.put, List.getElem_toArray, List.getElem_cons_zero, List.getElem_cons_succ, List.setIfInBounds_toArray, List.set_cons_zero, List.set_cons_succ])
    refine wpAnyH_ready (rs := [6]) (by as_aux_lemma => kernel_rfl) (by simp) ?_
    refine AllReadyH.cons rfl (fun K hK => ?_) AllReadyH.nil
    go_simp
    refine Calls.mono (HB.out _ hb) ?_
    rintro e w5 ⟨rfl, hc⟩
    have s5 : w4.heap.size ≤ w5.heap.size := hc.size
    have bq := hc
    replace cs0 := cell_later bq cs0
    replace cs1 := cell_later bq cs1
    replace zs := Nat.lt_of_lt_of_le zs bq.size
    replace cR0 := cell_later bq cR0
    replace fR0 := (bq.frozen (p := ⟨w.heap.size + 1, 0, none⟩) zR).trans fR0
    replace cR1 := cell_later bq cR1
    replace fR1 := (bq.frozen (p := ⟨w.heap.size + 1, 1, none⟩) zR).trans fR1
    replace zR := Nat.lt_of_lt_of_le zR bq.size
    replace hb := hb.trans (bq.mono hb.size)
    clear hc bq
    refine hK.out _ _ (⟨hb, cs0, cs1⟩) (fun hS => ?_)
    clear hK K
    (try simp only [Act.put, List.getElem_toArray, List.getElem_cons_zero, List.getElem_cons_succ, List.setIfInBounds_toArray, List.set_cons_zero, List.set_cons_succ])
    refine wpAnyH_take (i := 7) (v := (.string (A ++ ⟨#[46]⟩ ++ B))) rfl (by as_aux_lemma => kernel_rfl) (by as_aux_lemma => kernel_rfl) (by as_aux_lemma => kernel_rfl) (fun _ _ _ h => h) (Or.inl ⟨by kernel_rfl, ?_⟩) hS ?_
    · intro w hSw; (try dsimp only at hSw); go_simp; all_goals (try omega)
    (try simp only [Act.put, List.getElem_toArray, List.getElem_cons_zero, List.getElem_cons_succ, List.setIfInBounds_toArray, List.set_cons_zero, List.set_cons_succ])
    refine wpAnyH_take (i := 8) (v := (.agg #[.int .i64 0, .string (A ++ ⟨#[46]⟩ ++ B)])) rfl (by as_aux_lemma => kernel_rfl) (by as_aux_lemma => kernel_rfl) (by as_aux_lemma => kernel_rfl) (fun _ _ _ h => h) (Or.inl ⟨by kernel_rfl, ?_⟩) hS ?_
    · intro w hSw; (try dsimp only at hSw); go_simp; all_goals (try omega)
    (try simp only [Act.put, List.getElem_toArray, List.getElem_cons_zero, List.getElem_cons_succ, List.setIfInBounds_toArray, List.set_cons_zero, List.set_cons_succ])
    refine wpAnyH_ready (rs := [9]) (by as_aux_lemma => kernel_rfl) (by simp) ?_
    refine AllReadyH.cons rfl (fun K hK => ?_) AllReadyH.nil
    go_simp
    refine hK.out _ _ (⟨((hb.setCell (by first | omega | (simp; omega) | simp) _).setCell (by first | omega | (simp; omega) | simp) _), (cell_set1 (cell_set1 cs0 (by omega)) (by omega)), (cell_set1 (cell_set1 cs1 (by omega)) (by omega))⟩) (fun hS => ?_)
    clear hK K
    (try simp only [Act.put, List.getElem_toArray, List.getElem_cons_zero, List.getElem_cons_succ, List.setIfInBounds_toArray, List.set_cons_zero, List.set_cons_succ])
    refine wpAnyH_done (by kernel_rfl) ?_ _
    clear hS
    go_wp2
    exact bodyPost_ret (v := .agg #[.int .i64 0, .string (A ++ ⟨#[46]⟩ ++ B)]) (by simp [results, Tryd.results11, go_sem, cR0, cR1]) rfl ⟨rfl, ((hb.setCell (by first | omega | (simp; omega) | simp) _).setCell (by first | omega | (simp; omega) | simp) _)⟩
  · have e1 : sptC L R = 3 := if_neg hk
    have e2 : sptT L R = ⟨#[]⟩ := if_neg hk
    rw [e1, e2]
    clear e1 e2
    have I1 := fun w' => (l1In_any L 0 999 w').mono (fun e w'' h => (⟨h.1, h.2 ▸ Below.refl _ _⟩ : e = _ ∧ Below w'.heap.size w' w''))
    have I2 := fun w' => (l1In_any R 0 999 w').mono (fun e w'' h => (⟨h.1, h.2 ▸ Below.refl _ _⟩ : e = _ ∧ Below w'.heap.size w' w''))
    by_cases hl : 0 ≤ L ∧ L ≤ 999
    · have hr : ¬ (0 ≤ R ∧ R ≤ 999) := fun hr => hk ⟨hl.1, hl.2, hr.1, hr.2⟩
      rw [decide_eq_true hl] at I1
      rw [decide_eq_false hr] at I2
      have HI1 : Hid _ := I1
      have HI2 : Hid _ := I2
      clear I1 I2 hk hl hr
      go_enter Tryd.func11, Tryd.ntmps11
      have hb : Below w.heap.size w w := Below.refl _ _
      go_wp2_with fail
      have bp : ∀ o0 o1, Below w.heap.size w ((w.alloc o0).alloc o1) := fun o0 o1 => ((Below.refl _ _).alloc (Nat.le_refl _) o0).alloc (by simp) o1
      have hbt : ∀ o0 o1, Below w.heap.size w ((w.alloc o0).alloc o1) := fun o0 o1 => hb.trans ((bp o0 o1).mono hb.size)
      refine Calls.mono (HI1.out _) ?_
      rintro e w1 ⟨rfl, hc⟩
      have s1 : w.heap.size + 2 ≤ w1.heap.size := by have := hc.size; simp at this; omega
      have bq : Below w.heap.size w w1 := (bp _ _).trans (hc.mono (bp _ _).size)
      have cs0 : w1.cell? ⟨w.heap.size, 0, none⟩ = some (.int .i64 L) := cell_later hc (by simp [go_sem])
      have cs1 : w1.cell? ⟨w.heap.size, 1, none⟩ = some (.int .i64 R) := cell_later hc (by simp [go_sem])
      have zs : w.heap.size < w1.heap.size := by omega
      have cR0 : w1.cell? ⟨w.heap.size + 1, 0, none⟩ = some (.int .i64 0) := cell_later hc (by simp [go_sem])
      have fR0 : w1.frozen? ⟨w.heap.size + 1, 0, none⟩ = false := (hc.frozen (p := ⟨w.heap.size + 1, 0, none⟩) (by first | (simp; done) | (simp; omega))).trans (by simp [go_sem])
      have cR1 : w1.cell? ⟨w.heap.size + 1, 1, none⟩ = some (.string ⟨#[]⟩) := cell_later hc (by simp [go_sem])
      have fR1 : w1.frozen? ⟨w.heap.size + 1, 1, none⟩ = false := (hc.frozen (p := ⟨w.heap.size + 1, 1, none⟩) (by first | (simp; done) | (simp; omega))).trans (by simp [go_sem])
      have zR : w.heap.size + 1 < w1.heap.size := by omega
      replace hb := hb.trans (bq.mono hb.size)
      clear hc bq bp hbt
      go_wp2_with fail
      refine Calls.mono (HI2.out _) ?_
      rintro e w2 ⟨rfl, hc⟩
      have s2 : w1.heap.size ≤ w2.heap.size := hc.size
      have bq := hc
      replace cs0 := cell_later bq cs0
      replace cs1 := cell_later bq cs1
      replace zs := Nat.lt_of_lt_of_le zs bq.size
      replace cR0 := cell_later bq cR0
      replace fR0 := (bq.frozen (p := ⟨w.heap.size + 1, 0, none⟩) zR).trans fR0
      replace cR1 := cell_later bq cR1
      replace fR1 := (bq.frozen (p := ⟨w.heap.size + 1, 1, none⟩) zR).trans fR1
      replace zR := Nat.lt_of_lt_of_le zR bq.size
      replace hb := hb.trans (bq.mono hb.size)
      clear hc bq
      go_wp2
      exact bodyPost_ret (v := .agg #[.int .i64 3, .string ⟨#[]⟩]) (by simp [results, Tryd.results11, go_sem, cR0, cR1]) rfl ⟨rfl, ((hb.setCell (by first | omega | (simp; omega) | simp) _).setCell (by first | omega | (simp; omega) | simp) _)⟩
    · rw [decide_eq_false hl] at I1
      have HI1 : Hid _ := I1
      clear I1 I2 hk hl
      go_enter Tryd.func11, Tryd.ntmps11
      have hb : Below w.heap.size w w := Below.refl _ _
      go_wp2_with fail
      have bp : ∀ o0 o1, Below w.heap.size w ((w.alloc o0).alloc o1) := fun o0 o1 => ((Below.refl _ _).alloc (Nat.le_refl _) o0).alloc (by simp) o1
      have hbt : ∀ o0 o1, Below w.heap.size w ((w.alloc o0).alloc o1) := fun o0 o1 => hb.trans ((bp o0 o1).mono hb.size)
      refine Calls.mono (HI1.out _) ?_
      rintro e w1 ⟨rfl, hc⟩
      have s1 : w.heap.size + 2 ≤ w1.heap.size := by have := hc.size; simp at this; omega
      have bq : Below w.heap.size w w1 := (bp _ _).trans (hc.mono (bp _ _).size)
      have cs0 : w1.cell? ⟨w.heap.size, 0, none⟩ = some (.int .i64 L) := cell_later hc (by simp [go_sem])
      have cs1 : w1.cell? ⟨w.heap.size, 1, none⟩ = some (.int .i64 R) := cell_later hc (by simp [go_sem])
      have zs : w.heap.size < w1.heap.size := by omega
      have cR0 : w1.cell? ⟨w.heap.size + 1, 0, none⟩ = some (.int .i64 0) := cell_later hc (by simp [go_sem])
      have fR0 : w1.frozen? ⟨w.heap.size + 1, 0, none⟩ = false := (hc.frozen (p := ⟨w.heap.size + 1, 0, none⟩) (by first | (simp; done) | (simp; omega))).trans (by simp [go_sem])
      have cR1 : w1.cell? ⟨w.heap.size + 1, 1, none⟩ = some (.string ⟨#[]⟩) := cell_later hc (by simp [go_sem])
      have fR1 : w1.frozen? ⟨w.heap.size + 1, 1, none⟩ = false := (hc.frozen (p := ⟨w.heap.size + 1, 1, none⟩) (by first | (simp; done) | (simp; omega))).trans (by simp [go_sem])
      have zR : w.heap.size + 1 < w1.heap.size := by omega
      replace hb := hb.trans (bq.mono hb.size)
      clear hc bq bp hbt
      go_wp2
      exact bodyPost_ret (v := .agg #[.int .i64 3, .string ⟨#[]⟩]) (by simp [results, Tryd.results11, go_sem, cR0, cR1]) rfl ⟨rfl, ((hb.setCell (by first | omega | (simp; omega) | simp) _).setCell (by first | omega | (simp; omega) | simp) _)⟩

set_option maxRecDepth 10000 in
set_option maxHeartbeats 3200000 in
theorem implSpotText_any (L R : Int) (w : World) (htab : TabOk w) :
    Calls Tryd.prog 9 #[.agg #[.int .i64 L, .int .i64 R]] w fun e w' => e = .returned (.agg #[.int .i64 (sptC L R), .string (sptT L R)]) ∧ Below w.heap.size w w' := by
  by_cases hk : sptOk L R
  · have e1 : sptC L R = 0 := if_pos hk
    have e2 : sptT L R = digB L.toNat ++ ⟨#[46]⟩ ++ digB R.toNat := if_pos hk
    rw [e1, e2]
    obtain ⟨h1, h2, h3, h4⟩ := hk
    obtain ⟨a, rfl⟩ : ∃ a : Nat, L = (a : Int) := ⟨L.toNat, by omega⟩
    obtain ⟨b, rfl⟩ : ∃ b : Nat, R = (b : Int) := ⟨R.toNat, by omega⟩
    rw [Int.toNat_natCast, Int.toNat_natCast]
    clear e1 e2
    have hA := digB_size a
    have hB := digB_size b
    have CA := fun w' (hb : Below w.heap.size w w') => formatInt_any a (by omega) w' (htab.below hb)
    have CB := fun w' (hb : Below w.heap.size w w') => formatInt_any b (by omega) w' (htab.below hb)
    clear htab
    generalize digB a = A at *
    generalize digB b = B at *
    have hAs : A.size ≤ 2000 := by omega
    have hBs : B.size ≤ 2000 := by omega
    have hAp : (A ++ ⟨#[46]⟩).size ≤ 2001 := by rw [ByteArray.size_append]; show A.size + 1 ≤ 2001; omega
    have HA : Hid _ := CA
    have HB : Hid _ := CB
    clear CA CB hA hB
    go_enter Tryd.func9, Tryd.ntmps9
    have hb : Below w.heap.size w w := Below.refl _ _
    go_wp2_with fail
    have bp : ∀ o0 o1, Below w.heap.size w ((w.alloc o0).alloc o1) := fun o0 o1 => ((Below.refl _ _).alloc (Nat.le_refl _) o0).alloc (by simp) o1
    have hbt : ∀ o0 o1, Below w.heap.size w ((w.alloc o0).alloc o1) := fun o0 o1 => hb.trans ((bp o0 o1).mono hb.size)
    obtain ⟨w1, hw1⟩ : ∃ x, ((w.alloc (.cells #[.int .i64 (a : Int), .int .i64 (b : Int)] 29)).alloc (.cells #[.int .i64 0, .string ⟨#[]⟩] 36)) = x := ⟨_, rfl⟩
    have hc : Below (((w.alloc (.cells #[.int .i64 (a : Int), .int .i64 (b : Int)] 29)).alloc (.cells #[.int .i64 0, .string ⟨#[]⟩] 36))).heap.size (((w.alloc (.cells #[.int .i64 (a : Int), .int .i64 (b : Int)] 29)).alloc (.cells #[.int .i64 0, .string ⟨#[]⟩] 36))) w1 := hw1 ▸ Below.refl _ _
    have s1 : w.heap.size + 2 ≤ w1.heap.size := by have := hc.size; simp at this; omega
    have bq : Below w.heap.size w w1 := (bp _ _).trans (hc.mono (bp _ _).size)
    have cs0 : w1.cell? ⟨w.heap.size, 0, none⟩ = some (.int .i64 (a : Int)) := cell_later hc (by simp [go_sem])
    have cs1 : w1.cell? ⟨w.heap.size, 1, none⟩ = some (.int .i64 (b : Int)) := cell_later hc (by simp [go_sem])
    have zs : w.heap.size < w1.heap.size := by omega
    have cR0 : w1.cell? ⟨w.heap.size + 1, 0, none⟩ = some (.int .i64 0) := cell_later hc (by simp [go_sem])
    have fR0 : w1.frozen? ⟨w.heap.size + 1, 0, none⟩ = false := (hc.frozen (p := ⟨w.heap.size + 1, 0, none⟩) (by first | (simp; done) | (simp; omega))).trans (by simp [go_sem])
    have cR1 : w1.cell? ⟨w.heap.size + 1, 1, none⟩ = some (.string ⟨#[]⟩) := cell_later hc (by simp [go_sem])
    have fR1 : w1.frozen? ⟨w.heap.size + 1, 1, none⟩ = false := (hc.frozen (p := ⟨w.heap.size + 1, 1, none⟩) (by first | (simp; done) | (simp; omega))).trans (by simp [go_sem])
    have zR : w.heap.size + 1 < w1.heap.size := by omega
    replace hb := hb.trans (bq.mono hb.size)
    clear hc bq bp hbt
    rw [hw1]
    clear hw1
    have bd : Below w1.heap.size w1 w1.drew := (Below.refl _ _).drew
    refine wp_region_held_drew (S := fun w' => Below w.heap.size w w' ∧ w'.cell? ⟨w.heap.size, 0, none⟩ = some (.int .i64 (a : Int)) ∧ w'.cell? ⟨w.heap.size, 1, none⟩ = some (.int .i64 (b : Int))) (by kernel_rfl) ⟨(hb.trans (bd.mono hb.size)), cell_later bd cs0, cell_later bd cs1⟩ (fun hS => ?_)
    obtain ⟨D1, hD⟩ : ∃ D, w1.drew = D := ⟨_, rfl⟩
    rw [hD] at hS bd ⊢
    have hc := bd
    clear hD bd
    have s2 : w1.heap.size ≤ D1.heap.size := hc.size
    have bq := hc
    replace cs0 := cell_later bq cs0
    replace cs1 := cell_later bq cs1
    replace zs := Nat.lt_of_lt_of_le zs bq.size
    replace cR0 := cell_later bq cR0
    replace fR0 := (bq.frozen (p := ⟨w.heap.size + 1, 0, none⟩) zR).trans fR0
    replace cR1 := cell_later bq cR1
    replace fR1 := (bq.frozen (p := ⟨w.heap.size + 1, 1, none⟩) zR).trans fR1
    replace zR := Nat.lt_of_lt_of_le zR bq.size
    replace hb := hb.trans (bq.mono hb.size)
    clear hc bq
    refine wpAnyH_take (i := 0) (v := (.pointer (some ⟨w.heap.size, 0, none⟩))) rfl (by as_aux_lemma => kernel_rfl) (by as_aux_lemma => kernel_rfl) (by as_aux_lemma => kernel_rfl) (fun _ _ _ h => h) (Or.inl ⟨by kernel_rfl, ?_⟩) hS ?_
    · intro w hSw; (try dsimp only at hSw); go_simp; all_goals (try omega)
    (try simp only [Act.put, List.getElem_toArray, List.getElem_cons_zero, List.getElem_cons_succ, List.setIfInBounds_toArray, List.set_cons_zero, List.set_cons_succ])
    refine wpAnyH_take (i := 1) (v := (.int .i64 (a : Int))) rfl (by as_aux_lemma => kernel_rfl) (by as_aux_lemma => kernel_rfl) (by as_aux_lemma => kernel_rfl) (fun _ _ _ h => h) (Or.inl ⟨by kernel_rfl, ?_⟩) hS ?_
    · intro w hSw; (try dsimp only at hSw); obtain ⟨hSb, hl0, hl1⟩ := hSw; go_simp; all_goals (try omega)
    (try simp only [Act.put, List.getElem_toArray, List.getElem_cons_zero, List.getElem_cons_succ, List.setIfInBounds_toArray, List.set_cons_zero, List.set_cons_succ])
    refine wpAnyH_take (i := 4) (v := (.pointer (some ⟨w.heap.size, 1, none⟩))) rfl (by as_aux_lemma => kernel_rfl) (by as_aux_lemma => kernel_rfl) (by as_aux_lemma => kernel_rfl) (fun _ _ _ h => h) (Or.inl ⟨by kernel_rfl, ?_⟩) hS ?_
    · intro w hSw; (try dsimp only at hSw); go_simp; all_goals (try omega)
    (try simp only [Act.put, List.getElem_toArray, List.getElem_cons_zero, List.getElem_cons_succ, List.setIfInBounds_toArray, List.set_cons_zero, List.set_cons_succ])
    refine wpAnyH_take (i := 5) (v := (.int .i64 (b : Int))) rfl (by as_aux_lemma => kernel_rfl) (by as_aux_lemma => kernel_rfl) (by as_aux_lemma => kernel_rfl) (fun _ _ _ h => h) (Or.inl ⟨by kernel_rfl, ?_⟩) hS ?_
    · intro w hSw; (try dsimp only at hSw); obtain ⟨hSb, hl0, hl1⟩ := hSw; go_simp; all_goals (try omega)
    (try simp only [Act.put, List.getElem_toArray, List.getElem_cons_zero, List.getElem_cons_succ, List.setIfInBounds_toArray, List.set_cons_zero, List.set_cons_succ])
    refine wpAnyH_ready (rs := [2]) (by as_aux_lemma => kernel_rfl) (by simp) ?_
    refine AllReadyH.cons rfl (fun K hK => ?_) AllReadyH.nil
    go_simp
    refine Calls.mono (HA.out _ hb) ?_
    rintro e w3 ⟨rfl, hc⟩
    have s3 : D1.heap.size ≤ w3.heap.size := hc.size
    have bq := hc
    replace cs0 := cell_later bq cs0
    replace cs1 := cell_later bq cs1
    replace zs := Nat.lt_of_lt_of_le zs bq.size
    replace cR0 := cell_later bq cR0
    replace fR0 := (bq.frozen (p := ⟨w.heap.size + 1, 0, none⟩) zR).trans fR0
    replace cR1 := cell_later bq cR1
    replace fR1 := (bq.frozen (p := ⟨w.heap.size + 1, 1, none⟩) zR).trans fR1
    replace zR := Nat.lt_of_lt_of_le zR bq.size
    replace hb := hb.trans (bq.mono hb.size)
    clear hc bq
    refine hK.out _ _ (⟨hb, cs0, cs1⟩) (fun hS => ?_)
    clear hK K
    (try simp only [Act.put, List.getElem_toArray, List.getElem_cons_zero, List.getElem_cons_succ, List.setIfInBounds_toArray, List.set_cons_zero, List.set_cons_succ])
    refine wpAnyH_take (i := 3) (v := (.string (A ++ ⟨#[46]⟩))) rfl (by as_aux_lemma => kernel_rfl) (by as_aux_lemma => kernel_rfl) (by as_aux_lemma => kernel_rfl) (fun _ _ _ h => h) (Or.inl ⟨by kernel_rfl, ?_⟩) hS ?_
    · intro w hSw; (try dsimp only at hSw); go_simp; all_goals (try omega)
    (try simp only [Act.put, List.getElem_toArray, List.getElem_cons_zero, List.getElem_cons_succ, List.setIfInBounds_toArray, List.set_cons_zero, List.set_cons_succ])
    refine wpAnyH_ready (rs := [6]) (by as_aux_lemma => kernel_rfl) (by simp) ?_
    refine AllReadyH.cons rfl (fun K hK => ?_) AllReadyH.nil
    go_simp
    refine Calls.mono (HB.out _ hb) ?_
    rintro e w4 ⟨rfl, hc⟩
    have s4 : w3.heap.size ≤ w4.heap.size := hc.size
    have bq := hc
    replace cs0 := cell_later bq cs0
    replace cs1 := cell_later bq cs1
    replace zs := Nat.lt_of_lt_of_le zs bq.size
    replace cR0 := cell_later bq cR0
    replace fR0 := (bq.frozen (p := ⟨w.heap.size + 1, 0, none⟩) zR).trans fR0
    replace cR1 := cell_later bq cR1
    replace fR1 := (bq.frozen (p := ⟨w.heap.size + 1, 1, none⟩) zR).trans fR1
    replace zR := Nat.lt_of_lt_of_le zR bq.size
    replace hb := hb.trans (bq.mono hb.size)
    clear hc bq
    refine hK.out _ _ (⟨hb, cs0, cs1⟩) (fun hS => ?_)
    clear hK K
    (try simp only [Act.put, List.getElem_toArray, List.getElem_cons_zero, List.getElem_cons_succ, List.setIfInBounds_toArray, List.set_cons_zero, List.set_cons_succ])
    refine wpAnyH_take (i := 7) (v := (.string (A ++ ⟨#[46]⟩ ++ B))) rfl (by as_aux_lemma => kernel_rfl) (by as_aux_lemma => kernel_rfl) (by as_aux_lemma => kernel_rfl) (fun _ _ _ h => h) (Or.inl ⟨by kernel_rfl, ?_⟩) hS ?_
    · intro w hSw; (try dsimp only at hSw); go_simp; all_goals (try omega)
    (try simp only [Act.put, List.getElem_toArray, List.getElem_cons_zero, List.getElem_cons_succ, List.setIfInBounds_toArray, List.set_cons_zero, List.set_cons_succ])
    refine wpAnyH_take (i := 8) (v := (.agg #[.int .i64 0, .string (A ++ ⟨#[46]⟩ ++ B)])) rfl (by as_aux_lemma => kernel_rfl) (by as_aux_lemma => kernel_rfl) (by as_aux_lemma => kernel_rfl) (fun _ _ _ h => h) (Or.inl ⟨by kernel_rfl, ?_⟩) hS ?_
    · intro w hSw; (try dsimp only at hSw); go_simp; all_goals (try omega)
    (try simp only [Act.put, List.getElem_toArray, List.getElem_cons_zero, List.getElem_cons_succ, List.setIfInBounds_toArray, List.set_cons_zero, List.set_cons_succ])
    refine wpAnyH_ready (rs := [9]) (by as_aux_lemma => kernel_rfl) (by simp) ?_
    refine AllReadyH.cons rfl (fun K hK => ?_) AllReadyH.nil
    go_simp
    refine hK.out _ _ (⟨((hb.setCell (by first | omega | (simp; omega) | simp) _).setCell (by first | omega | (simp; omega) | simp) _), (cell_set1 (cell_set1 cs0 (by omega)) (by omega)), (cell_set1 (cell_set1 cs1 (by omega)) (by omega))⟩) (fun hS => ?_)
    clear hK K
    (try simp only [Act.put, List.getElem_toArray, List.getElem_cons_zero, List.getElem_cons_succ, List.setIfInBounds_toArray, List.set_cons_zero, List.set_cons_succ])
    refine wpAnyH_done (by kernel_rfl) ?_ _
    clear hS
    go_wp2
    exact bodyPost_ret (v := .agg #[.int .i64 0, .string (A ++ ⟨#[46]⟩ ++ B)]) (by simp [results, Tryd.results9, go_sem, cR0, cR1]) rfl ⟨rfl, ((hb.setCell (by first | omega | (simp; omega) | simp) _).setCell (by first | omega | (simp; omega) | simp) _)⟩
  · have e1 : sptC L R = 3 := if_neg hk
    have e2 : sptT L R = ⟨#[]⟩ := if_neg hk
    rw [e1, e2]
    clear e1 e2 htab
    unfold sptOk at hk
    go_enter Tryd.func9, Tryd.ntmps9
    go_wp2
    all_goals first
      | exact bodyPost_ret (v := .agg #[.int .i64 3, .string ⟨#[]⟩]) (by simp [results, Tryd.results9, go_sem]) rfl ⟨rfl, ((Below.refl _ _).alloc (Nat.le_refl _) _).alloc (by simp) _⟩
      | (exfalso; omega)
end Go.Proofs.YtjgmkcmlkffjlaaDoor
