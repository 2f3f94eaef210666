/-
  Chapter 10: SpotText, both sides.
-/
import Derived.Test.YtjgmkcmlkffjlaaDoorDig1
import Derived.Test.YtjgmkcmlkffjlaaDoorShelf
import Derived.Test.YtjgmkcmlkffjlaaDoorFiles1
import Derived.Test.YtjgmkcmlkffjlaaDoorAppR
import Derived.Lib.AppendIntMem
import Derived.WalkSmall
import Derived.WalkLawsBesides
namespace Go.Proofs.YtjgmkcmlkffjlaaDoor
open Go.RowKit
set_option linter.unusedVariables false
set_option linter.unusedSimpArgs false

def sptOk (L R : Int) : Prop := 0 ≤ L ∧ L ≤ 999 ∧ 0 ≤ R ∧ R ≤ 999
instance (L R : Int) : Decidable (sptOk L R) := by unfold sptOk; infer_instance
def sptC (L R : Int) : Int := if sptOk L R then 0 else 3
def sptT (L R : Int) : ByteArray := if sptOk L R then digB L.toNat ++ ⟨#[46]⟩ ++ digB R.toNat else ⟨#[]⟩

/-- the table of the library's digits -/
abbrev TabOk (w : World) : Prop := Lib.TabIs Tryd.prog w "internal/strconv.uint64pow10" .u64 Lib.pow10Tab
theorem TabOk.below {w w' : World} (h : TabOk w) (hb : Below w.heap.size w w') : TabOk w' := by
  have hg : Tryd.prog.globalNamed "internal/strconv.uint64pow10" = some 0 := by kernel_rfl
  have hc := Lib.TabIs.cell h hg 0 (by decide)
  have hlt : 0 < w.heap.size := block_lt_of_cell hc
  unfold TabOk Lib.TabIs at h ⊢
  exact var?_below hb hg hlt h
theorem formatInt_any (a : Nat) (ha : a ≤ 999) (w : World) (h : TabOk w) :
    Calls Tryd.prog 23 #[.int .i64 a, .int .i64 10] w fun e w' => e = .returned (.string (digB a)) ∧ Below w.heap.size w w' := by
  refine (Tryd.strconv_FormatInt_10 (a : Int) (by omega) (by omega) w h).mono ?_
  rintro e w' ⟨rfl, k, os, rfl⟩
  refine ⟨?_, Lib.below_grow _ w (Nat.le_refl _) k os⟩
  unfold digB Lib.itoa
  rw [if_neg (by omega), Int.toNat_natCast]

set_option maxRecDepth 10000 in
set_option maxHeartbeats 3200000 in
theorem specSpotText_any (L R : Int) (w : World) :
    Calls Tryd.prog 11 #[.agg #[.int .i64 L, .int .i64 R]] w fun e w' => e = .returned (.agg #[.int .i64 (sptC L R), .string (sptT L R)]) ∧ Below w.heap.size w w' := by
  by_cases hk : sptOk L R
  · have e1 : sptC L R = 0 := if_pos hk
    have e2 : sptT L R = digB L.toNat ++ ⟨#[46]⟩ ++ digB R.toNat := if_pos hk
    rw [e1, e2]
    obtain ⟨h1, h2, h3, h4⟩ := hk
    obtain ⟨a, rfl⟩ : ∃ a : Nat, L = (a : Int) := ⟨L.toNat, by omega⟩
    obtain ⟨b, rfl⟩ : ∃ b : Nat, R = (b : Int) := ⟨R.toNat, by omega⟩
    rw [Int.toNat_natCast, Int.toNat_natCast]
    clear e1 e2
    have hA := digB_size a
    have hB := digB_size b
    have CA := fun w' (hb : Below w.heap.size w w') => l1Digits_any a w' (by omega)
    have CB := fun w' (hb : Below w.heap.size w w') => l1Digits_any b w' (by omega)
    have I1 := fun w' => (l1In_any (a : Int) 0 999 w').mono (fun e w'' h => (⟨h.1, h.2 ▸ Below.refl _ _⟩ : e = _ ∧ Below w'.heap.size w' w''))
    have I2 := fun w' => (l1In_any (b : Int) 0 999 w').mono (fun e w'' h => (⟨h.1, h.2 ▸ Below.refl _ _⟩ : e = _ ∧ Below w'.heap.size w' w''))
    rw [decide_eq_true ⟨h1, h2⟩] at I1
    rw [decide_eq_true ⟨h3, h4⟩] at I2
    have HI1 : Hid _ := I1
    have HI2 : Hid _ := I2
    clear I1 I2
    generalize digB a = A at *
    generalize digB b = B at *
    have hAs : A.size ≤ 2000 := by omega
    have hBs : B.size ≤ 2000 := by omega
    have hAp : (A ++ ⟨#[46]⟩).size ≤ 2001 := by rw [ByteArray.size_append]; show A.size + 1 ≤ 2001; omega
    have HA : Hid _ := CA
    have HB : Hid _ := CB
    clear CA CB hA hB
    go_enter Tryd.func11, Tryd.ntmps11
    have hb : Below w.heap.size w w := Below.refl _ _
    go_wp2_with fail
    have bp : ∀ o0 o1, Below w.heap.size w ((w.alloc o0).alloc o1) := fun o0 o1 => ((Below.refl _ _).alloc (Nat.le_refl _) o0).alloc (by simp) o1
    have hbt : ∀ o0 o1, Below w.heap.size w ((w.alloc o0).alloc o1) := fun o0 o1 => hb.trans ((bp o0 o1).mono hb.size)
    refine Calls.mono (HI1.out _) ?_
    rintro e w1 ⟨rfl, hc⟩
    have s1 : w.heap.size + 2 ≤ w1.heap.size := by have := hc.size; simp at this; omega
    have bq : Below w.heap.size w w1 := (bp _ _).trans (hc.mono (bp _ _).size)
    have cs0 : w1.cell? ⟨w.heap.size, 0, none⟩ = some (.int .i64 (a : Int)) := cell_later hc (by simp [go_sem])
    have cs1 : w1.cell? ⟨w.heap.size, 1, none⟩ = some (.int .i64 (b : Int)) := cell_later hc (by simp [go_sem])
    have zs : w.heap.size < w1.heap.size := by omega
    have cR0 : w1.cell? ⟨w.heap.size + 1, 0, none⟩ = some (.int .i64 0) := cell_later hc (by simp [go_sem])
    have fR0 : w1.frozen? ⟨w.heap.size + 1, 0, none⟩ = false := (hc.frozen (p := ⟨w.heap.size + 1, 0, none⟩) (by first | (simp; done) | (simp; omega))).trans (by simp [go_sem])
    have cR1 : w1.cell? ⟨w.heap.size + 1, 1, none⟩ = some (.string ⟨#[]⟩) := cell_later hc (by simp [go_sem])
    have fR1 : w1.frozen? ⟨w.heap.size + 1, 1, none⟩ = false := (hc.frozen (p := ⟨w.heap.size + 1, 1, none⟩) (by first | (simp; done) | (simp; omega))).trans (by simp [go_sem])
    have zR : w.heap.size + 1 < w1.heap.size := by omega
    replace hb := hb.trans (bq.mono hb.size)
    clear hc bq bp hbt
    go_wp2_with fail
    refine Calls.mono (HI2.out _) ?_
    rintro e w2 ⟨rfl, hc⟩
    have s2 : w1.heap.size ≤ w2.heap.size := hc.size
    have bq := hc
    replace cs0 := cell_later bq cs0
    replace cs1 := cell_later bq cs1
    replace zs := Nat.lt_of_lt_of_le zs bq.size
    replace cR0 := cell_later bq cR0
    replace fR0 := (bq.frozen (p := ⟨w.heap.size + 1, 0, none⟩) zR).trans fR0
    replace cR1 := cell_later bq cR1
    replace fR1 := (bq.frozen (p := ⟨w.heap.size + 1, 1, none⟩) zR).trans fR1
    replace zR := Nat.lt_of_lt_of_le zR bq.size
    replace hb := hb.trans (bq.mono hb.size)
    clear hc bq
    go_wp2_with fail
    have bd : Below w2.heap.size w2 w2.drew := (Below.refl _ _).drew
    refine wp_region_held_drew (S := fun w' => Below w.heap.size w w' ∧ w'.cell? ⟨w.heap.size, 0, none⟩ = some (.int .i64 (a : Int)) ∧ w'.cell? ⟨w.heap.size, 1, none⟩ = some (.int .i64 (b : Int))) (by kernel_rfl) ⟨(hb.trans (bd.mono hb.size)), cell_later bd cs0, cell_later bd cs1⟩ (fun hS => ?_)
    obtain ⟨D2, hD⟩ : ∃ D, w2.drew = D := ⟨_, rfl⟩
    rw [hD] at hS bd ⊢
    have hc := bd
    clear hD bd
    have s3 : w2.heap.size ≤ D2.heap.size := hc.size
    have bq := hc
    replace cs0 := cell_later bq cs0
    replace cs1 := cell_later bq cs1
    replace zs := Nat.lt_of_lt_of_le zs bq.size
    replace cR0 := cell_later bq cR0
    replace fR0 := (bq.frozen (p := ⟨w.heap.size + 1, 0, none⟩) zR).trans fR0
    replace cR1 := cell_later bq cR1
    replace fR1 := (bq.frozen (p := ⟨w.heap.size + 1, 1, none⟩) zR).trans fR1
    replace zR := Nat.lt_of_lt_of_le zR bq.size
    replace hb := hb.trans (bq.mono hb.size)
    clear hc bq
    refine wpAnyH_take (i := 0) (v := (.pointer (some ⟨w.heap.size, 0, none⟩))) rfl (by as_aux_lemma => kernel_rfl) (by as_aux_lemma => kernel_rfl) (by as_aux_lemma => kernel_rfl) (fun _ _ _ h => h) (Or.inl ⟨by kernel_rfl, ?_⟩) hS ?_
    · intro w hSw; (try dsimp only at hSw); go_simp; all_goals (try omega)
    (try simp only [Act.put, List.getElem_toArray, List.getElem_cons_zero, List.getElem_cons_succ, List.setIfInBounds_toArray, List.set_cons_zero, List.set_cons_succ])
    refine wpAnyH_take (i := 1) (v := (.int .i64 (a : Int))) rfl (by as_aux_lemma => kernel_rfl) (by as_aux_lemma => kernel_rfl) (by as_aux_lemma => kernel_rfl) (fun _ _ _ h => h) (Or.inl ⟨by kernel_rfl, ?_⟩) hS ?_
    · intro w hSw; (try dsimp only at hSw); obtain ⟨hSb, hl0, hl1⟩ := hSw; go_simp; all_goals (try omega)
    (try simp only [Act.put, List.getElem_toArray, List.getElem_cons_zero, List.getElem_cons_succ, List.setIfInBounds_toArray, List.set_cons_zero, List.set_cons_succ])
    refine wpAnyH_take (i := 4) (v := (.pointer (some ⟨w.heap.size, 1, none⟩))) rfl (by as_aux_lemma => kernel_rfl) (by as_aux_lemma => kernel_rfl) (by as_aux_lemma => kernel_rfl) (fun _ _ _ h => h) (Or.inl ⟨by kernel_rfl, ?_⟩) hS ?_
    · intro w hSw; (try dsimp only at hSw); go_simp; all_goals (try omega)
    (try simp only [Act.put, List.getElem_toArray, List.getElem_cons_zero, List.getElem_cons_succ, List.setIfInBounds_toArray, List.set_cons_zero, List.set_cons_succ])
    refine wpAnyH_take (i := 5) (v := (.int .i64 (b : Int))) rfl (by as_aux_lemma => kernel_rfl) (by as_aux_lemma => kernel_rfl) (by as_aux_lemma => kernel_rfl) (fun _ _ _ h => h) (Or.inl ⟨by kernel_rfl, ?_⟩) hS ?_
    · intro w hSw; (try dsimp only at hSw); obtain ⟨hSb, hl0, hl1⟩ := hSw; go_simp; all_goals (try omega)
    (try simp only [Act.put, List.getElem_toArray, List.getElem_cons_zero, List.getElem_cons_succ, List.setIfInBounds_toArray, List.set_cons_zero, List.set_cons_succ])
    refine wpAnyH_ready (rs := [2]) (by as_aux_lemma => kernel_rfl) (by simp) ?_
    refine AllReadyH.cons rfl (fun K hK => ?_) AllReadyH.nil
    go_simp
    refine Calls.mono (HA.out _ hb) ?_
    rintro e w4 ⟨rfl, hc⟩
    have s4 : D2.heap.size ≤ w4.heap.size := hc.size
    have bq := hc
    replace cs0 := cell_later bq cs0
    replace cs1 := cell_later bq cs1
    replace zs := Nat.lt_of_lt_of_le zs bq.size
    replace cR0 := cell_later bq cR0
    replace fR0 := (bq.frozen (p := ⟨w.heap.size + 1, 0, none⟩) zR).trans fR0
    replace cR1 := cell_later bq cR1
    replace fR1 := (bq.frozen (p := ⟨w.heap.size + 1, 1, none⟩) zR).trans fR1
    replace zR := Nat.lt_of_lt_of_le zR bq.size
    replace hb := hb.trans (bq.mono hb.size)
    clear hc bq
    refine hK.out _ _ (⟨hb, cs0, cs1⟩) (fun hS => ?_)
    clear hK K
    (try simp only [Act.put, List.getElem_toArray, List.getElem_cons_zero, List.getElem_cons_succ, List.setIfInBounds_toArray, List.set_cons_zero, List.set_cons_succ])
    refine wpAnyH_take (i := 3) (v := (.string (A ++ ⟨#[46]⟩))) rfl (by as_aux_lemma => kernel_rfl) (by as_aux_lemma => kernel_rfl) (by as_aux_lemma => kernel_rfl) (fun _ _ _ h => h) (Or.inl ⟨by kernel_rfl, ?_⟩) hS ?_
    · intro w hSw; (try dsimp only at hSw); go_simp; all_goals (try omega)
    (try simp only [Act.put, List.getElem_toArray, List.getElem_cons_zero, List.getElem_cons_succ, List.setIfInBounds_toArray, List.set_cons_zero, List.set_cons_succ])
    refine wpAnyH_ready (rs := [6]) (by as_aux_lemma => kernel_rfl) (by simp) ?_
    refine AllReadyH.cons rfl (fun K hK => ?_) AllReadyH.nil
    go_simp
    refine Calls.mono (HB.out _ hb) ?_
    rintro e w5 ⟨rfl, hc⟩
    have s5 : w4.heap.size ≤ w5.heap.size := hc.size
    have bq := hc
    replace cs0 := cell_later bq cs0
    replace cs1 := cell_later bq cs1
    replace zs := Nat.lt_of_lt_of_le zs bq.size
    replace cR0 := cell_later bq cR0
    replace fR0 := (bq.frozen (p := ⟨w.heap.size + 1, 0, none⟩) zR).trans fR0
    replace cR1 := cell_later bq cR1
    replace fR1 := (bq.frozen (p := ⟨w.heap.size + 1, 1, none⟩) zR).trans fR1
    replace zR := Nat.lt_of_lt_of_le zR bq.size
    replace hb := hb.trans (bq.mono hb.size)
    clear hc bq
    refine hK.out _ _ (⟨hb, cs0, cs1⟩) (fun hS => ?_)
    clear hK K
    (try simp only [Act.put, List.getElem_toArray, List.getElem_cons_zero, List.getElem_cons_succ, List.setIfInBounds_toArray, List.set_cons_zero, List.set_cons_succ])
    refine wpAnyH_take (i := 7) (v := (.string (A ++ ⟨#[46]⟩ ++ B))) rfl (by as_aux_lemma => kernel_rfl) (by as_aux_lemma => kernel_rfl) (by as_aux_lemma => kernel_rfl) (fun _ _ _ h => h) (Or.inl ⟨by kernel_rfl, ?_⟩) hS ?_
    · intro w hSw; (try dsimp only at hSw); go_simp; all_goals (try omega)
    (try simp only [Act.put, List.getElem_toArray, List.getElem_cons_zero, List.getElem_cons_succ, List.setIfInBounds_toArray, List.set_cons_zero, List.set_cons_succ])
    refine wpAnyH_take (i := 8) (v := (.agg #[.int .i64 0, .string (A ++ ⟨#[46]⟩ ++ B)])) rfl (by as_aux_lemma => kernel_rfl) (by as_aux_lemma => kernel_rfl) (by as_aux_lemma => kernel_rfl) (fun _ _ _ h => h) (Or.inl ⟨by kernel_rfl, ?_⟩) hS ?_
    · intro w hSw; (try dsimp only at hSw); go_simp; all_goals (try omega)
    (try simp only [Act.put, List.getElem_toArray, List.getElem_cons_zero, List.getElem_cons_succ, List.setIfInBounds_toArray, List.set_cons_zero, List.set_cons_succ])
    refine wpAnyH_ready (rs := [9]) (by as_aux_lemma => kernel_rfl) (by simp) ?_
    refine AllReadyH.cons rfl (fun K hK => ?_) AllReadyH.nil
    go_simp
    refine hK.out _ _ (⟨((hb.setCell (by first | omega | (simp; omega) | simp) _).setCell (by first | omega | (simp; omega) | simp) _), (cell_set1 (cell_set1 cs0 (by omega)) (by omega)), (cell_set1 (cell_set1 cs1 (by omega)) (by omega))⟩) (fun hS => ?_)
    clear hK K
    (try simp only [Act.put, List.getElem_toArray, List.getElem_cons_zero, List.getElem_cons_succ, List.setIfInBounds_toArray, List.set_cons_zero, List.set_cons_succ])
    refine wpAnyH_done (by kernel_rfl) ?_ _
    clear hS
    go_wp2
    exact bodyPost_ret (v := .agg #[.int .i64 0, .string (A ++ ⟨#[46]⟩ ++ B)]) (by simp [results, Tryd.results11, go_sem, cR0, cR1]) rfl ⟨rfl, ((hb.setCell (by first | omega | (simp; omega) | simp) _).setCell (by first | omega | (simp; omega) | simp) _)⟩
  · have e1 : sptC L R = 3 := if_neg hk
    have e2 : sptT L R = ⟨#[]⟩ := if_neg hk
    rw [e1, e2]
    clear e1 e2
    have I1 := fun w' => (l1In_any L 0 999 w').mono (fun e w'' h => (⟨h.1, h.2 ▸ Below.refl _ _⟩ : e = _ ∧ Below w'.heap.size w' w''))
    have I2 := fun w' => (l1In_any R 0 999 w').mono (fun e w'' h => (⟨h.1, h.2 ▸ Below.refl _ _⟩ : e = _ ∧ Below w'.heap.size w' w''))
    by_cases hl : 0 ≤ L ∧ L ≤ 999
    · have hr : ¬ (0 ≤ R ∧ R ≤ 999) := fun hr => hk ⟨hl.1, hl.2, hr.1, hr.2⟩
      rw [decide_eq_true hl] at I1
      rw [decide_eq_false hr] at I2
      have HI1 : Hid _ := I1
      have HI2 : Hid _ := I2
      clear I1 I2 hk hl hr
      go_enter Tryd.func11, Tryd.ntmps11
      have hb : Below w.heap.size w w := Below.refl _ _
      go_wp2_with fail
      have bp : ∀ o0 o1, Below w.heap.size w ((w.alloc o0).alloc o1) := fun o0 o1 => ((Below.refl _ _).alloc (Nat.le_refl _) o0).alloc (by simp) o1
      have hbt : ∀ o0 o1, Below w.heap.size w ((w.alloc o0).alloc o1) := fun o0 o1 => hb.trans ((bp o0 o1).mono hb.size)
      refine Calls.mono (HI1.out _) ?_
      rintro e w1 ⟨rfl, hc⟩
      have s1 : w.heap.size + 2 ≤ w1.heap.size := by have := hc.size; simp at this; omega
      have bq : Below w.heap.size w w1 := (bp _ _).trans (hc.mono (bp _ _).size)
      have cs0 : w1.cell? ⟨w.heap.size, 0, none⟩ = some (.int .i64 L) := cell_later hc (by simp [go_sem])
      have cs1 : w1.cell? ⟨w.heap.size, 1, none⟩ = some (.int .i64 R) := cell_later hc (by simp [go_sem])
      have zs : w.heap.size < w1.heap.size := by omega
      have cR0 : w1.cell? ⟨w.heap.size + 1, 0, none⟩ = some (.int .i64 0) := cell_later hc (by simp [go_sem])
      have fR0 : w1.frozen? ⟨w.heap.size + 1, 0, none⟩ = false := (hc.frozen (p := ⟨w.heap.size + 1, 0, none⟩) (by first | (simp; done) | (simp; omega))).trans (by simp [go_sem])
      have cR1 : w1.cell? ⟨w.heap.size + 1, 1, none⟩ = some (.string ⟨#[]⟩) := cell_later hc (by simp [go_sem])
      have fR1 : w1.frozen? ⟨w.heap.size + 1, 1, none⟩ = false := (hc.frozen (p := ⟨w.heap.size + 1, 1, none⟩) (by first | (simp; done) | (simp; omega))).trans (by simp [go_sem])
      have zR : w.heap.size + 1 < w1.heap.size := by omega
      replace hb := hb.trans (bq.mono hb.size)
      clear hc bq bp hbt
      go_wp2_with fail
      refine Calls.mono (HI2.out _) ?_
      rintro e w2 ⟨rfl, hc⟩
      have s2 : w1.heap.size ≤ w2.heap.size := hc.size
      have bq := hc
      replace cs0 := cell_later bq cs0
      replace cs1 := cell_later bq cs1
      replace zs := Nat.lt_of_lt_of_le zs bq.size
      replace cR0 := cell_later bq cR0
      replace fR0 := (bq.frozen (p := ⟨w.heap.size + 1, 0, none⟩) zR).trans fR0
      replace cR1 := cell_later bq cR1
      replace fR1 := (bq.frozen (p := ⟨w.heap.size + 1, 1, none⟩) zR).trans fR1
      replace zR := Nat.lt_of_lt_of_le zR bq.size
      replace hb := hb.trans (bq.mono hb.size)
      clear hc bq
      go_wp2
      exact bodyPost_ret (v := .agg #[.int .i64 3, .string ⟨#[]⟩]) (by simp [results, Tryd.results11, go_sem, cR0, cR1]) rfl ⟨rfl, ((hb.setCell (by first | omega | (simp; omega) | simp) _).setCell (by first | omega | (simp; omega) | simp) _)⟩
    · rw [decide_eq_false hl] at I1
      have HI1 : Hid _ := I1
      clear I1 I2 hk hl
      go_enter Tryd.func11, Tryd.ntmps11
      have hb : Below w.heap.size w w := Below.refl _ _
      go_wp2_with fail
      have bp : ∀ o0 o1, Below w.heap.size w ((w.alloc o0).alloc o1) := fun o0 o1 => ((Below.refl _ _).alloc (Nat.le_refl _) o0).alloc (by simp) o1
      have hbt : ∀ o0 o1, Below w.heap.size w ((w.alloc o0).alloc o1) := fun o0 o1 => hb.trans ((bp o0 o1).mono hb.size)
      refine Calls.mono (HI1.out _) ?_
      rintro e w1 ⟨rfl, hc⟩
      have s1 : w.heap.size + 2 ≤ w1.heap.size := by have := hc.size; simp at this; omega
      have bq : Below w.heap.size w w1 := (bp _ _).trans (hc.mono (bp _ _).size)
      have cs0 : w1.cell? ⟨w.heap.size, 0, none⟩ = some (.int .i64 L) := cell_later hc (by simp [go_sem])
      have cs1 : w1.cell? ⟨w.heap.size, 1, none⟩ = some (.int .i64 R) := cell_later hc (by simp [go_sem])
      have zs : w.heap.size < w1.heap.size := by omega
      have cR0 : w1.cell? ⟨w.heap.size + 1, 0, none⟩ = some (.int .i64 0) := cell_later hc (by simp [go_sem])
      have fR0 : w1.frozen? ⟨w.heap.size + 1, 0, none⟩ = false := (hc.frozen (p := ⟨w.heap.size + 1, 0, none⟩) (by first | (simp; done) | (simp; omega))).trans (by simp [go_sem])
      have cR1 : w1.cell? ⟨w.heap.size + 1, 1, none⟩ = some (.string ⟨#[]⟩) := cell_later hc (by simp [go_sem])
      have fR1 : w1.frozen? ⟨w.heap.size + 1, 1, none⟩ = false := (hc.frozen (p := ⟨w.heap.size + 1, 1, none⟩) (by first | (simp; done) | (simp; omega))).trans (by simp [go_sem])
      have zR : w.heap.size + 1 < w1.heap.size := by omega
      replace hb := hb.trans (bq.mono hb.size)
      clear hc bq bp hbt
      go_wp2
      exact bodyPost_ret (v := .agg #[.int .i64 3, .string ⟨#[]⟩]) (by simp [results, Tryd.results11, go_sem, cR0, cR1]) rfl ⟨rfl, ((hb.setCell (by first | omega | (simp; omega) | simp) _).setCell (by first | omega | (simp; omega) | simp) _)⟩

set_option maxRecDepth 10000 in
set_option maxHeartbeats 3200000 in
theorem implSpotText_any (L R : Int) (w : World) (htab : TabOk w) :
    Calls Tryd.prog 9 #[.agg #[.int .i64 L, .int .i64 R]] w fun e w' => e = .returned (.agg #[.int .i64 (sptC L R), .string (sptT L R)]) ∧ Below w.heap.size w w' := by
  by_cases hk : sptOk L R
  · have e1 : sptC L R = 0 := if_pos hk
    have e2 : sptT L R = digB L.toNat ++ ⟨#[46]⟩ ++ digB R.toNat := if_pos hk
    rw [e1, e2]
    obtain ⟨h1, h2, h3, h4⟩ := hk
    obtain ⟨a, rfl⟩ : ∃ a : Nat, L = (a : Int) := ⟨L.toNat, by omega⟩
    obtain ⟨b, rfl⟩ : ∃ b : Nat, R = (b : Int) := ⟨R.toNat, by omega⟩
    rw [Int.toNat_natCast, Int.toNat_natCast]
    clear e1 e2
    have hA := digB_size a
    have hB := digB_size b
    have CA := fun w' (hb : Below w.heap.size w w') => formatInt_any a (by omega) w' (htab.below hb)
    have CB := fun w' (hb : Below w.heap.size w w') => formatInt_any b (by omega) w' (htab.below hb)
    clear htab
    generalize digB a = A at *
    generalize digB b = B at *
    have hAs : A.size ≤ 2000 := by omega
    have hBs : B.size ≤ 2000 := by omega
    have hAp : (A ++ ⟨#[46]⟩).size ≤ 2001 := by rw [ByteArray.size_append]; show A.size + 1 ≤ 2001; omega
    have HA : Hid _ := CA
    have HB : Hid _ := CB
    clear CA CB hA hB
    go_enter Tryd.func9, Tryd.ntmps9
    have hb : Below w.heap.size w w := Below.refl _ _
    go_wp2_with fail
    have bp : ∀ o0 o1, Below w.heap.size w ((w.alloc o0).alloc o1) := fun o0 o1 => ((Below.refl _ _).alloc (Nat.le_refl _) o0).alloc (by simp) o1
    have hbt : ∀ o0 o1, Below w.heap.size w ((w.alloc o0).alloc o1) := fun o0 o1 => hb.trans ((bp o0 o1).mono hb.size)
    obtain ⟨w1, hw1⟩ : ∃ x, ((w.alloc (.cells #[.int .i64 (a : Int), .int .i64 (b : Int)] 29)).alloc (.cells #[.int .i64 0, .string ⟨#[]⟩] 36)) = x := ⟨_, rfl⟩
    have hc : Below (((w.alloc (.cells #[.int .i64 (a : Int), .int .i64 (b : Int)] 29)).alloc (.cells #[.int .i64 0, .string ⟨#[]⟩] 36))).heap.size (((w.alloc (.cells #[.int .i64 (a : Int), .int .i64 (b : Int)] 29)).alloc (.cells #[.int .i64 0, .string ⟨#[]⟩] 36))) w1 := hw1 ▸ Below.refl _ _
    have s1 : w.heap.size + 2 ≤ w1.heap.size := by have := hc.size; simp at this; omega
    have bq : Below w.heap.size w w1 := (bp _ _).trans (hc.mono (bp _ _).size)
    have cs0 : w1.cell? ⟨w.heap.size, 0, none⟩ = some (.int .i64 (a : Int)) := cell_later hc (by simp [go_sem])
    have cs1 : w1.cell? ⟨w.heap.size, 1, none⟩ = some (.int .i64 (b : Int)) := cell_later hc (by simp [go_sem])
    have zs : w.heap.size < w1.heap.size := by omega
    have cR0 : w1.cell? ⟨w.heap.size + 1, 0, none⟩ = some (.int .i64 0) := cell_later hc (by simp [go_sem])
    have fR0 : w1.frozen? ⟨w.heap.size + 1, 0, none⟩ = false := (hc.frozen (p := ⟨w.heap.size + 1, 0, none⟩) (by first | (simp; done) | (simp; omega))).trans (by simp [go_sem])
    have cR1 : w1.cell? ⟨w.heap.size + 1, 1, none⟩ = some (.string ⟨#[]⟩) := cell_later hc (by simp [go_sem])
    have fR1 : w1.frozen? ⟨w.heap.size + 1, 1, none⟩ = false := (hc.frozen (p := ⟨w.heap.size + 1, 1, none⟩) (by first | (simp; done) | (simp; omega))).trans (by simp [go_sem])
    have zR : w.heap.size + 1 < w1.heap.size := by omega
    replace hb := hb.trans (bq.mono hb.size)
    clear hc bq bp hbt
    rw [hw1]
    clear hw1
    have bd : Below w1.heap.size w1 w1.drew := (Below.refl _ _).drew
    refine wp_region_held_drew (S := fun w' => Below w.heap.size w w' ∧ w'.cell? ⟨w.heap.size, 0, none⟩ = some (.int .i64 (a : Int)) ∧ w'.cell? ⟨w.heap.size, 1, none⟩ = some (.int .i64 (b : Int))) (by kernel_rfl) ⟨(hb.trans (bd.mono hb.size)), cell_later bd cs0, cell_later bd cs1⟩ (fun hS => ?_)
    obtain ⟨D1, hD⟩ : ∃ D, w1.drew = D := ⟨_, rfl⟩
    rw [hD] at hS bd ⊢
    have hc := bd
    clear hD bd
    have s2 : w1.heap.size ≤ D1.heap.size := hc.size
    have bq := hc
    replace cs0 := cell_later bq cs0
    replace cs1 := cell_later bq cs1
    replace zs := Nat.lt_of_lt_of_le zs bq.size
    replace cR0 := cell_later bq cR0
    replace fR0 := (bq.frozen (p := ⟨w.heap.size + 1, 0, none⟩) zR).trans fR0
    replace cR1 := cell_later bq cR1
    replace fR1 := (bq.frozen (p := ⟨w.heap.size + 1, 1, none⟩) zR).trans fR1
    replace zR := Nat.lt_of_lt_of_le zR bq.size
    replace hb := hb.trans (bq.mono hb.size)
    clear hc bq
    refine wpAnyH_take (i := 0) (v := (.pointer (some ⟨w.heap.size, 0, none⟩))) rfl (by as_aux_lemma => kernel_rfl) (by as_aux_lemma => kernel_rfl) (by as_aux_lemma => kernel_rfl) (fun _ _ _ h => h) (Or.inl ⟨by kernel_rfl, ?_⟩) hS ?_
    · intro w hSw; (try dsimp only at hSw); go_simp; all_goals (try omega)
    (try simp only [Act.put, List.getElem_toArray, List.getElem_cons_zero, List.getElem_cons_succ, List.setIfInBounds_toArray, List.set_cons_zero, List.set_cons_succ])
    refine wpAnyH_take (i := 1) (v := (.int .i64 (a : Int))) rfl (by as_aux_lemma => kernel_rfl) (by as_aux_lemma => kernel_rfl) (by as_aux_lemma => kernel_rfl) (fun _ _ _ h => h) (Or.inl ⟨by kernel_rfl, ?_⟩) hS ?_
    · intro w hSw; (try dsimp only at hSw); obtain ⟨hSb, hl0, hl1⟩ := hSw; go_simp; all_goals (try omega)
    (try simp only [Act.put, List.getElem_toArray, List.getElem_cons_zero, List.getElem_cons_succ, List.setIfInBounds_toArray, List.set_cons_zero, List.set_cons_succ])
    refine wpAnyH_take (i := 4) (v := (.pointer (some ⟨w.heap.size, 1, none⟩))) rfl (by as_aux_lemma => kernel_rfl) (by as_aux_lemma => kernel_rfl) (by as_aux_lemma => kernel_rfl) (fun _ _ _ h => h) (Or.inl ⟨by kernel_rfl, ?_⟩) hS ?_
    · intro w hSw; (try dsimp only at hSw); go_simp; all_goals (try omega)
    (try simp only [Act.put, List.getElem_toArray, List.getElem_cons_zero, List.getElem_cons_succ, List.setIfInBounds_toArray, List.set_cons_zero, List.set_cons_succ])
    refine wpAnyH_take (i := 5) (v := (.int .i64 (b : Int))) rfl (by as_aux_lemma => kernel_rfl) (by as_aux_lemma => kernel_rfl) (by as_aux_lemma => kernel_rfl) (fun _ _ _ h => h) (Or.inl ⟨by kernel_rfl, ?_⟩) hS ?_
    · intro w hSw; (try dsimp only at hSw); obtain ⟨hSb, hl0, hl1⟩ := hSw; go_simp; all_goals (try omega)
    (try simp only [Act.put, List.getElem_toArray, List.getElem_cons_zero, List.getElem_cons_succ, List.setIfInBounds_toArray, List.set_cons_zero, List.set_cons_succ])
    refine wpAnyH_ready (rs := [2]) (by as_aux_lemma => kernel_rfl) (by simp) ?_
    refine AllReadyH.cons rfl (fun K hK => ?_) AllReadyH.nil
    go_simp
    refine Calls.mono (HA.out _ hb) ?_
    rintro e w3 ⟨rfl, hc⟩
    have s3 : D1.heap.size ≤ w3.heap.size := hc.size
    have bq := hc
    replace cs0 := cell_later bq cs0
    replace cs1 := cell_later bq cs1
    replace zs := Nat.lt_of_lt_of_le zs bq.size
    replace cR0 := cell_later bq cR0
    replace fR0 := (bq.frozen (p := ⟨w.heap.size + 1, 0, none⟩) zR).trans fR0
    replace cR1 := cell_later bq cR1
    replace fR1 := (bq.frozen (p := ⟨w.heap.size + 1, 1, none⟩) zR).trans fR1
    replace zR := Nat.lt_of_lt_of_le zR bq.size
    replace hb := hb.trans (bq.mono hb.size)
    clear hc bq
    refine hK.out _ _ (⟨hb, cs0, cs1⟩) (fun hS => ?_)
    clear hK K
    (try simp only [Act.put, List.getElem_toArray, List.getElem_cons_zero, List.getElem_cons_succ, List.setIfInBounds_toArray, List.set_cons_zero, List.set_cons_succ])
    refine wpAnyH_take (i := 3) (v := (.string (A ++ ⟨#[46]⟩))) rfl (by as_aux_lemma => kernel_rfl) (by as_aux_lemma => kernel_rfl) (by as_aux_lemma => kernel_rfl) (fun _ _ _ h => h) (Or.inl ⟨by kernel_rfl, ?_⟩) hS ?_
    · intro w hSw; (try dsimp only at hSw); go_simp; all_goals (try omega)
    (try simp only [Act.put, List.getElem_toArray, List.getElem_cons_zero, List.getElem_cons_succ, List.setIfInBounds_toArray, List.set_cons_zero, List.set_cons_succ])
    refine wpAnyH_ready (rs := [6]) (by as_aux_lemma => kernel_rfl) (by simp) ?_
    refine AllReadyH.cons rfl (fun K hK => ?_) AllReadyH.nil
    go_simp
    refine Calls.mono (HB.out _ hb) ?_
    rintro e w4 ⟨rfl, hc⟩
    have s4 : w3.heap.size ≤ w4.heap.size := hc.size
    have bq := hc
    replace cs0 := cell_later bq cs0
    replace cs1 := cell_later bq cs1
    replace zs := Nat.lt_of_lt_of_le zs bq.size
    replace cR0 := cell_later bq cR0
    replace fR0 := (bq.frozen (p := ⟨w.heap.size + 1, 0, none⟩) zR).trans fR0
    replace cR1 := cell_later bq cR1
    replace fR1 := (bq.frozen (p := ⟨w.heap.size + 1, 1, none⟩) zR).trans fR1
    replace zR := Nat.lt_of_lt_of_le zR bq.size
    replace hb := hb.trans (bq.mono hb.size)
    clear hc bq
    refine hK.out _ _ (⟨hb, cs0, cs1⟩) (fun hS => ?_)
    clear hK K
    (try simp only [Act.put, List.getElem_toArray, List.getElem_cons_zero, List.getElem_cons_succ, List.setIfInBounds_toArray, List.set_cons_zero, List.set_cons_succ])
    refine wpAnyH_take (i := 7) (v := (.string (A ++ ⟨#[46]⟩ ++ B))) rfl (by as_aux_lemma => kernel_rfl) (by as_aux_lemma => kernel_rfl) (by as_aux_lemma => kernel_rfl) (fun _ _ _ h => h) (Or.inl ⟨by kernel_rfl, ?_⟩) hS ?_
    · intro w hSw; (try dsimp only at hSw); go_simp; all_goals (try omega)
    (try simp only [Act.put, List.getElem_toArray, List.getElem_cons_zero, List.getElem_cons_succ, List.setIfInBounds_toArray, List.set_cons_zero, List.set_cons_succ])
    refine wpAnyH_take (i := 8) (v := (.agg #[.int .i64 0, .string (A ++ ⟨#[46]⟩ ++ B)])) rfl (by as_aux_lemma => kernel_rfl) (by as_aux_lemma => kernel_rfl) (by as_aux_lemma => kernel_rfl) (fun _ _ _ h => h) (Or.inl ⟨by kernel_rfl, ?_⟩) hS ?_
    · intro w hSw; (try dsimp only at hSw); go_simp; all_goals (try omega)
    (try simp only [Act.put, List.getElem_toArray, List.getElem_cons_zero, List.getElem_cons_succ, List.setIfInBounds_toArray, List.set_cons_zero, List.set_cons_succ])
    refine wpAnyH_ready (rs := [9]) (by as_aux_lemma => kernel_rfl) (by simp) ?_
    refine AllReadyH.cons rfl (fun K hK => ?_) AllReadyH.nil
    go_simp
    refine hK.out _ _ (⟨((hb.setCell (by first | omega | (simp; omega) | simp) _).setCell (by first | omega | (simp; omega) | simp) _), (cell_set1 (cell_set1 cs0 (by omega)) (by omega)), (cell_set1 (cell_set1 cs1 (by omega)) (by omega))⟩) (fun hS => ?_)
    clear hK K
    (try simp only [Act.put, List.getElem_toArray, List.getElem_cons_zero, List.getElem_cons_succ, List.setIfInBounds_toArray, List.set_cons_zero, List.set_cons_succ])
    refine wpAnyH_done (by kernel_rfl) ?_ _
    clear hS
    go_wp2
    exact bodyPost_ret (v := .agg #[.int .i64 0, .string (A ++ ⟨#[46]⟩ ++ B)]) (by simp [results, Tryd.results9, go_sem, cR0, cR1]) rfl ⟨rfl, ((hb.setCell (by first | omega | (simp; omega) | simp) _).setCell (by first | omega | (simp; omega) | simp) _)⟩
  · have e1 : sptC L R = 3 := if_neg hk
    have e2 : sptT L R = ⟨#[]⟩ := if_neg hk
    rw [e1, e2]
    clear e1 e2 htab
    unfold sptOk at hk
    go_enter Tryd.func9, Tryd.ntmps9
    go_wp2
    all_goals first
      | exact bodyPost_ret (v := .agg #[.int .i64 3, .string ⟨#[]⟩]) (by simp [results, Tryd.results9, go_sem]) rfl ⟨rfl, ((Below.refl _ _).alloc (Nat.le_refl _) _).alloc (by simp) _⟩
      | (exfalso; omega)
end Go.Proofs.YtjgmkcmlkffjlaaDoor
