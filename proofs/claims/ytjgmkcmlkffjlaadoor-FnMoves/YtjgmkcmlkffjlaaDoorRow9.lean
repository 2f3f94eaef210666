/-
  Chapter 10's program: SpotFault, MoveSpot, LastTop.
-/
import Derived.Test.YtjgmkcmlkffjlaaDoorRow4
namespace Go.Proofs.YtjgmkcmlkffjlaaDoor
open Go.RowKit
set_option linter.unusedVariables false
set_option linter.unusedSimpArgs false

theorem wpList_max2 {P : Program} {w : World} {ops : Array Oper} {rest : List Oper} {dst : Option Nat} {ty : TypeId} {pos : String} {af : Array Edge} {a : Act} {Q : Exit → Act → World → Prop} (x y : Operand) (ats : Array TypeId) (k : IntKind) (I J z : Int)
    (hx : a.eval x = .int k I) (hy : a.eval y = .int k J) (hz : max I J = z) (h : wpList P ops Q rest (a.put dst (.int k z)) w) :
    wpList P ops Q (({ dst := dst, op := .call { callee := .builtin .max, args := #[x, y], argTypes := ats }, type := ty, pos := pos, after := af, guard := none } : Oper) :: rest) a w := by
  refine wpList_plain rfl fun K hK => ?_
  have e : (if I < J then J else I) = z := by rw [← hz]; split <;> omega
  unfold Oper.wp
  simp [execOp, resolve, invoke, builtin, hx, hy, run_max_int2, e, Result.andThen]
  exact hK _ _ h

theorem spAll_small {C : Bool} {W : Int} {xs : List Int} (hB : Bytes xs) (hn : xs.length ≤ 400) (hW : 1 ≤ W) : ∀ y ∈ spAll (cnt C W xs), smallSp y := by
  rintro ⟨L, R⟩ hy
  obtain ⟨i, j, c, h1, h2, rfl, rfl⟩ := spots_mem.1 hy
  have hs := cnt_sum (C := C) hB hn hW
  have h3 := baseN_le h1
  have h4 := cs1_len2 (List.getElem?_eq_some_iff.1 h1).1
  have h5 := cnt_len C W xs
  have h6 := lns_len xs
  refine ⟨⟨by omega, ?_⟩, by omega, ?_⟩
  · show ((0 + i : Nat) : Int) < 4503599627370496; omega
  · show (j : Int) < 4503599627370496; omega
theorem spIn_mem {cs : List Nat} {L R : Int} : spIn cs L R = 0 ↔ (L, R) ∈ spAll cs := by
  constructor
  · intro h
    obtain ⟨p, hp⟩ := spIn_at h
    exact List.mem_of_getElem? hp.get
  · intro h
    obtain ⟨i, j, c, h1, h2, rfl, rfl⟩ := spots_mem.1 h
    unfold spIn
    by_cases he : cs = []
    · subst he
      have hi := (List.getElem?_eq_some_iff.1 h1).1
      simp [cs1] at hi
      subst hi
      simp [cs1] at h1
      rw [if_pos rfl, if_pos ⟨by omega, by omega⟩]
    · have hc : cs1 cs = cs := by simp [cs1, he]
      rw [hc] at h1
      have hi := (List.getElem?_eq_some_iff.1 h1).1
      rw [if_neg he, if_pos]
      have hg : cs.getD ((0 + i : Nat) : Int).toNat 0 = c := by
        rw [show (((0 + i : Nat) : Int)).toNat = i by omega, List.getD_eq_getElem?_getD, h1]; rfl
      rw [hg]
      omega
theorem lns_nil {xs : List Int} : lns xs = [] ↔ xs.length = 0 := by
  constructor
  · intro h
    apply Classical.byContradiction
    intro hx
    have := lns_step xs 0 (by omega)
    rw [List.drop_zero] at this
    have h2 : lnsA 0 0 xs = [] := h
    rw [h2] at this
    cases this
  · intro h
    have := lns_len xs
    exact List.eq_nil_of_length_eq_zero (by omega)
theorem cnt_nil {C : Bool} {W : Int} {xs : List Int} : cnt C W xs = [] ↔ xs.length = 0 := by
  unfold cnt
  rw [List.map_eq_nil_iff, lns_nil]

set_option maxRecDepth 10000 in
set_option maxHeartbeats 3200000 in
theorem implSpotFault_any (a : Option Addr) (n ca : Nat) (xs : List Int) (W S L R : Int) (C : Bool) (hLR : i64Sp (L, R)) (w : World) (ha : Rd .u8 w a n xs) (hB : Bytes xs) (h1 : n ≤ 1073741824) (hca : n ≤ ca) (hcm : ca ≤ maxLen) :
    Calls Tryd.prog 10 #[.agg #[.slice a n ca], .agg #[.int .i64 W, .bool C, .int .i64 S], .agg #[.int .i64 L, .int .i64 R]] w fun e w' => e = .returned (.int .i64 (spotF xs W C S L R)) ∧ Below w.heap.size w w' := by
  have hlen := ha.1
  have RFt := fun w' => rowsFault_any a n ca W S C w' h1
  by_cases hF : spBase n W C S = 0
  · rw [hF] at RFt
    obtain ⟨hn, hL⟩ := spBase_ok hF
    obtain ⟨hW, hW2, hS, hS2, -⟩ := lyF_ok hL
    have e1 : spotF xs W C S L R = spIn (cnt C W xs) L R := by unfold spotF; rw [hlen, if_neg (by omega)]
    have hcm' : ca ≤ 9223372036854775807 := hcm
    have SI := fun w' h => spotsIn_any a n ca xs W S C w' h hB hn hca hcm' hW hW2
    have NO := fun w' => numberOf_any L R w'
    have hlb : (spAll (cnt C W xs)).length ≤ 1000000 := by rw [spAll_len]; exact cnt_sum hB (by omega) hW
    have CO := fun A CA w' h => cContains_any (L, R) A (spAll (cnt C W xs)).length CA (spAll (cnt C W xs)) w' h hLR (spAll_small hB (by omega) hW) (by omega)
    have hm := @spIn_mem (cnt C W xs) L R
    have hcn := @cnt_nil C W xs
    have h34 : spIn (cnt C W xs) L R ≠ 0 → spIn (cnt C W xs) L R = if n = 0 then 4 else 3 := by
      intro h0
      unfold spIn at h0 ⊢
      rw [hlen] at hcn
      by_cases h : cnt C W xs = []
      · rw [if_pos h] at h0 ⊢
        rw [if_pos (hcn.1 h)]
        split at h0
        · exact absurd rfl h0
        · rename_i hh; rw [if_neg hh]
      · rw [if_neg h] at h0 ⊢
        rw [if_neg (fun h' => h (hcn.2 h'))]
        split at h0
        · exact absurd rfl h0
        · rename_i hh; rw [if_neg hh]
    rw [e1]
    generalize cx (L, R) = X at *
    generalize spIn (cnt C W xs) L R = F at *
    generalize hsz : (spAll (cnt C W xs)).length = m at *
    generalize spAll (cnt C W xs) = ys at *
    have HRF : Hid _ := RFt
    have HSI : Hid _ := SI
    have HNO : Hid _ := NO
    by_cases h0 : F = 0
    · rw [decide_eq_true (hm.1 h0)] at CO
      subst h0
      have HCO : Hid _ := CO
      clear CO SI NO RFt hF hL e1 hm hcn h34 hsz hcm hcm' hLR
      go_enter Tryd.func10, Tryd.ntmps10
      have hb : Below w.heap.size w w := Below.refl _ _
      go_wp2_with fail
      have bp : ∀ o0 o1 o2, Below w.heap.size w (((w.alloc o0).alloc o1).alloc o2) := fun o0 o1 o2 => (((Below.refl _ _).alloc (Nat.le_refl _) o0).alloc (by simp) o1).alloc (by simp; omega) o2
      have hbt : ∀ o0 o1 o2, Below w.heap.size w (((w.alloc o0).alloc o1).alloc o2) := fun o0 o1 o2 => hb.trans ((bp o0 o1 o2).mono hb.size)
      refine Calls.mono (HRF.out _) ?_
      rintro e w1 ⟨rfl, hc⟩
      have s1 : w.heap.size + 3 ≤ w1.heap.size := by have := hc.size; simp at this; omega
      have bq : Below w.heap.size w w1 := (bp _ _ _).trans (hc.mono (bp _ _ _).size)
      have cf0 : w1.cell? ⟨w.heap.size, 0, none⟩ = some (.slice a n ca) := cell_later hc (by simp [go_sem])
      have zf : w.heap.size < w1.heap.size := by omega
      have cl0 : w1.cell? ⟨w.heap.size + 1, 0, none⟩ = some (.int .i64 W) := cell_later hc (by simp [go_sem])
      have cl1 : w1.cell? ⟨w.heap.size + 1, 1, none⟩ = some (.bool C) := cell_later hc (by simp [go_sem])
      have cl2 : w1.cell? ⟨w.heap.size + 1, 2, none⟩ = some (.int .i64 S) := cell_later hc (by simp [go_sem])
      have zl : w.heap.size + 1 < w1.heap.size := by omega
      have cs0 : w1.cell? ⟨w.heap.size + 1 + 1, 0, none⟩ = some (.int .i64 L) := cell_later hc (by simp [go_sem])
      have cs1 : w1.cell? ⟨w.heap.size + 1 + 1, 1, none⟩ = some (.int .i64 R) := cell_later hc (by simp [go_sem])
      have zs : w.heap.size + 1 + 1 < w1.heap.size := by omega
      replace hb := hb.trans (bq.mono hb.size)
      clear hc bq bp hbt
      go_wp2_with fail
      have bd : Below w1.heap.size w1 w1.drew := (Below.refl _ _).drew
      refine wp_region_held_drew (S := fun w' => Below w.heap.size w w' ∧ w'.cell? ⟨w.heap.size, 0, none⟩ = some (.slice a n ca) ∧ w'.cell? ⟨w.heap.size + 1, 0, none⟩ = some (.int .i64 W) ∧ w'.cell? ⟨w.heap.size + 1, 1, none⟩ = some (.bool C) ∧ w'.cell? ⟨w.heap.size + 1, 2, none⟩ = some (.int .i64 S) ∧ w'.cell? ⟨w.heap.size + 1 + 1, 0, none⟩ = some (.int .i64 L) ∧ w'.cell? ⟨w.heap.size + 1 + 1, 1, none⟩ = some (.int .i64 R)) (by kernel_rfl) ⟨(hb.trans (bd.mono hb.size)), cell_later bd cf0, cell_later bd cl0, cell_later bd cl1, cell_later bd cl2, cell_later bd cs0, cell_later bd cs1⟩ (fun hS => ?_)
      obtain ⟨D1, hD⟩ : ∃ D, w1.drew = D := ⟨_, rfl⟩
      rw [hD] at hS bd ⊢
      have hc := bd
      clear hD bd
      have s2 : w1.heap.size ≤ D1.heap.size := hc.size
      have bq := hc
      replace cf0 := cell_later bq cf0
      replace zf := Nat.lt_of_lt_of_le zf bq.size
      replace cl0 := cell_later bq cl0
      replace cl1 := cell_later bq cl1
      replace cl2 := cell_later bq cl2
      replace zl := Nat.lt_of_lt_of_le zl bq.size
      replace cs0 := cell_later bq cs0
      replace cs1 := cell_later bq cs1
      replace zs := Nat.lt_of_lt_of_le zs bq.size
      replace hb := hb.trans (bq.mono hb.size)
      clear hc bq
      refine wpAnyH_take (i := 0) (v := (.agg #[.int .i64 W, .bool C, .int .i64 S])) rfl (by as_aux_lemma => kernel_rfl) (by as_aux_lemma => kernel_rfl) (by as_aux_lemma => kernel_rfl) (fun _ _ _ h => h) (Or.inl ⟨by kernel_rfl, ?_⟩) hS ?_
      · intro w hSw; (try dsimp only at hSw); obtain ⟨hSb, hl0, hl1, hl2, hl3, hl4, hl5⟩ := hSw; go_simp
      (try simp only [Act.put, List.getElem_toArray, List.getElem_cons_zero, List.getElem_cons_succ, List.setIfInBounds_toArray, List.set_cons_zero, List.set_cons_succ])
      refine wpAnyH_take (i := 1) (v := (.agg #[.slice a n ca])) rfl (by as_aux_lemma => kernel_rfl) (by as_aux_lemma => kernel_rfl) (by as_aux_lemma => kernel_rfl) (fun _ _ _ h => h) (Or.inl ⟨by kernel_rfl, ?_⟩) hS ?_
      · intro w hSw; (try dsimp only at hSw); obtain ⟨hSb, hl0, hl1, hl2, hl3, hl4, hl5⟩ := hSw; go_simp
      (try simp only [Act.put, List.getElem_toArray, List.getElem_cons_zero, List.getElem_cons_succ, List.setIfInBounds_toArray, List.set_cons_zero, List.set_cons_succ])
      refine wpAnyH_take (i := 3) (v := (.agg #[.int .i64 L, .int .i64 R])) rfl (by as_aux_lemma => kernel_rfl) (by as_aux_lemma => kernel_rfl) (by as_aux_lemma => kernel_rfl) (fun _ _ _ h => h) (Or.inl ⟨by kernel_rfl, ?_⟩) hS ?_
      · intro w hSw; (try dsimp only at hSw); obtain ⟨hSb, hl0, hl1, hl2, hl3, hl4, hl5⟩ := hSw; go_simp
      (try simp only [Act.put, List.getElem_toArray, List.getElem_cons_zero, List.getElem_cons_succ, List.setIfInBounds_toArray, List.set_cons_zero, List.set_cons_succ])
      refine wpAnyH_ready (rs := [2]) (by as_aux_lemma => kernel_rfl) (by simp) ?_
      refine AllReadyH.cons rfl (fun K hK => ?_) AllReadyH.nil
      go_simp
      refine Calls.mono (HSI.out _ (ha.below hb)) ?_
      rintro e w3 ⟨v2, rfl, r2, hc⟩
      obtain ⟨a2, k2, rfl, -⟩ := RowS.shape cxE_len r2
      have s3 : D1.heap.size ≤ w3.heap.size := hc.size
      have bq := hc
      replace cf0 := cell_later bq cf0
      replace zf := Nat.lt_of_lt_of_le zf bq.size
      replace cl0 := cell_later bq cl0
      replace cl1 := cell_later bq cl1
      replace cl2 := cell_later bq cl2
      replace zl := Nat.lt_of_lt_of_le zl bq.size
      replace cs0 := cell_later bq cs0
      replace cs1 := cell_later bq cs1
      replace zs := Nat.lt_of_lt_of_le zs bq.size
      replace hb := hb.trans (bq.mono hb.size)
      clear hc bq
      refine hK.out _ _ (⟨hb, cf0, cl0, cl1, cl2, cs0, cs1⟩) (fun hS => ?_)
      clear hK K
      (try simp only [Act.put, List.getElem_toArray, List.getElem_cons_zero, List.getElem_cons_succ, List.setIfInBounds_toArray, List.set_cons_zero, List.set_cons_succ])
      refine wpAnyH_ready (rs := [4]) (by as_aux_lemma => kernel_rfl) (by simp) ?_
      refine AllReadyH.cons rfl (fun K hK => ?_) AllReadyH.nil
      go_simp
      refine Calls.mono (HNO.out _) ?_
      rintro e w4 ⟨rfl, hc⟩
      replace r2 := r2.below hc
      have s4 : w3.heap.size ≤ w4.heap.size := hc.size
      have bq := hc
      replace cf0 := cell_later bq cf0
      replace zf := Nat.lt_of_lt_of_le zf bq.size
      replace cl0 := cell_later bq cl0
      replace cl1 := cell_later bq cl1
      replace cl2 := cell_later bq cl2
      replace zl := Nat.lt_of_lt_of_le zl bq.size
      replace cs0 := cell_later bq cs0
      replace cs1 := cell_later bq cs1
      replace zs := Nat.lt_of_lt_of_le zs bq.size
      replace hb := hb.trans (bq.mono hb.size)
      clear hc bq
      refine hK.out _ _ (⟨hb, cf0, cl0, cl1, cl2, cs0, cs1⟩) (fun hS => ?_)
      clear hK K
      (try simp only [Act.put, List.getElem_toArray, List.getElem_cons_zero, List.getElem_cons_succ, List.setIfInBounds_toArray, List.set_cons_zero, List.set_cons_succ])
      refine wpAnyH_ready (rs := [5]) (by as_aux_lemma => kernel_rfl) (by simp) ?_
      refine AllReadyH.cons rfl (fun K hK => ?_) AllReadyH.nil
      go_simp
      refine Calls.mono (HCO.out _ _ _ (RowS.read cxE_len r2)) ?_
      rintro e w5 ⟨rfl, hc⟩
      have s5 : w4.heap.size ≤ w5.heap.size := hc.size
      have bq := hc
      replace cf0 := cell_later bq cf0
      replace zf := Nat.lt_of_lt_of_le zf bq.size
      replace cl0 := cell_later bq cl0
      replace cl1 := cell_later bq cl1
      replace cl2 := cell_later bq cl2
      replace zl := Nat.lt_of_lt_of_le zl bq.size
      replace cs0 := cell_later bq cs0
      replace cs1 := cell_later bq cs1
      replace zs := Nat.lt_of_lt_of_le zs bq.size
      replace hb := hb.trans (bq.mono hb.size)
      clear hc bq
      refine hK.out _ _ (⟨hb, cf0, cl0, cl1, cl2, cs0, cs1⟩) (fun hS => ?_)
      clear hK K
      (try simp only [Act.put, List.getElem_toArray, List.getElem_cons_zero, List.getElem_cons_succ, List.setIfInBounds_toArray, List.set_cons_zero, List.set_cons_succ])
      refine wpAnyH_take (i := 6) (v := (.bool true)) rfl (by as_aux_lemma => kernel_rfl) (by as_aux_lemma => kernel_rfl) (by as_aux_lemma => kernel_rfl) (fun _ _ _ h => h) (Or.inl ⟨by kernel_rfl, ?_⟩) hS ?_
      · intro w hSw; (try dsimp only at hSw); go_simp
      (try simp only [Act.put, List.getElem_toArray, List.getElem_cons_zero, List.getElem_cons_succ, List.setIfInBounds_toArray, List.set_cons_zero, List.set_cons_succ])
      refine wpAnyH_done (by kernel_rfl) ?_ _
      clear hS
      go_wp2
      go_ret
      exact ⟨rfl, hb⟩
    · rw [decide_eq_false (fun h => h0 (hm.2 h))] at CO
      have HCO : Hid _ := CO
      have hF2 := h34 h0
      by_cases hn0 : n = 0
      · rw [if_pos hn0] at hF2
        subst hF2
        have hni : (n : Int) = 0 := by omega
        clear CO SI NO RFt hF hL e1 hm hcn h34 hsz hcm hcm' hLR h0 hn0
        go_enter Tryd.func10, Tryd.ntmps10
        have hb : Below w.heap.size w w := Below.refl _ _
        go_wp2_with fail
        have bp : ∀ o0 o1 o2, Below w.heap.size w (((w.alloc o0).alloc o1).alloc o2) := fun o0 o1 o2 => (((Below.refl _ _).alloc (Nat.le_refl _) o0).alloc (by simp) o1).alloc (by simp; omega) o2
        have hbt : ∀ o0 o1 o2, Below w.heap.size w (((w.alloc o0).alloc o1).alloc o2) := fun o0 o1 o2 => hb.trans ((bp o0 o1 o2).mono hb.size)
        refine Calls.mono (HRF.out _) ?_
        rintro e w1 ⟨rfl, hc⟩
        have s1 : w.heap.size + 3 ≤ w1.heap.size := by have := hc.size; simp at this; omega
        have bq : Below w.heap.size w w1 := (bp _ _ _).trans (hc.mono (bp _ _ _).size)
        have cf0 : w1.cell? ⟨w.heap.size, 0, none⟩ = some (.slice a n ca) := cell_later hc (by simp [go_sem])
        have zf : w.heap.size < w1.heap.size := by omega
        have cl0 : w1.cell? ⟨w.heap.size + 1, 0, none⟩ = some (.int .i64 W) := cell_later hc (by simp [go_sem])
        have cl1 : w1.cell? ⟨w.heap.size + 1, 1, none⟩ = some (.bool C) := cell_later hc (by simp [go_sem])
        have cl2 : w1.cell? ⟨w.heap.size + 1, 2, none⟩ = some (.int .i64 S) := cell_later hc (by simp [go_sem])
        have zl : w.heap.size + 1 < w1.heap.size := by omega
        have cs0 : w1.cell? ⟨w.heap.size + 1 + 1, 0, none⟩ = some (.int .i64 L) := cell_later hc (by simp [go_sem])
        have cs1 : w1.cell? ⟨w.heap.size + 1 + 1, 1, none⟩ = some (.int .i64 R) := cell_later hc (by simp [go_sem])
        have zs : w.heap.size + 1 + 1 < w1.heap.size := by omega
        replace hb := hb.trans (bq.mono hb.size)
        clear hc bq bp hbt
        go_wp2_with fail
        have bd : Below w1.heap.size w1 w1.drew := (Below.refl _ _).drew
        refine wp_region_held_drew (S := fun w' => Below w.heap.size w w' ∧ w'.cell? ⟨w.heap.size, 0, none⟩ = some (.slice a n ca) ∧ w'.cell? ⟨w.heap.size + 1, 0, none⟩ = some (.int .i64 W) ∧ w'.cell? ⟨w.heap.size + 1, 1, none⟩ = some (.bool C) ∧ w'.cell? ⟨w.heap.size + 1, 2, none⟩ = some (.int .i64 S) ∧ w'.cell? ⟨w.heap.size + 1 + 1, 0, none⟩ = some (.int .i64 L) ∧ w'.cell? ⟨w.heap.size + 1 + 1, 1, none⟩ = some (.int .i64 R)) (by kernel_rfl) ⟨(hb.trans (bd.mono hb.size)), cell_later bd cf0, cell_later bd cl0, cell_later bd cl1, cell_later bd cl2, cell_later bd cs0, cell_later bd cs1⟩ (fun hS => ?_)
        obtain ⟨D1, hD⟩ : ∃ D, w1.drew = D := ⟨_, rfl⟩
        rw [hD] at hS bd ⊢
        have hc := bd
        clear hD bd
        have s2 : w1.heap.size ≤ D1.heap.size := hc.size
        have bq := hc
        replace cf0 := cell_later bq cf0
        replace zf := Nat.lt_of_lt_of_le zf bq.size
        replace cl0 := cell_later bq cl0
        replace cl1 := cell_later bq cl1
        replace cl2 := cell_later bq cl2
        replace zl := Nat.lt_of_lt_of_le zl bq.size
        replace cs0 := cell_later bq cs0
        replace cs1 := cell_later bq cs1
        replace zs := Nat.lt_of_lt_of_le zs bq.size
        replace hb := hb.trans (bq.mono hb.size)
        clear hc bq
        refine wpAnyH_take (i := 0) (v := (.agg #[.int .i64 W, .bool C, .int .i64 S])) rfl (by as_aux_lemma => kernel_rfl) (by as_aux_lemma => kernel_rfl) (by as_aux_lemma => kernel_rfl) (fun _ _ _ h => h) (Or.inl ⟨by kernel_rfl, ?_⟩) hS ?_
        · intro w hSw; (try dsimp only at hSw); obtain ⟨hSb, hl0, hl1, hl2, hl3, hl4, hl5⟩ := hSw; go_simp
        (try simp only [Act.put, List.getElem_toArray, List.getElem_cons_zero, List.getElem_cons_succ, List.setIfInBounds_toArray, List.set_cons_zero, List.set_cons_succ])
        refine wpAnyH_take (i := 1) (v := (.agg #[.slice a n ca])) rfl (by as_aux_lemma => kernel_rfl) (by as_aux_lemma => kernel_rfl) (by as_aux_lemma => kernel_rfl) (fun _ _ _ h => h) (Or.inl ⟨by kernel_rfl, ?_⟩) hS ?_
        · intro w hSw; (try dsimp only at hSw); obtain ⟨hSb, hl0, hl1, hl2, hl3, hl4, hl5⟩ := hSw; go_simp
        (try simp only [Act.put, List.getElem_toArray, List.getElem_cons_zero, List.getElem_cons_succ, List.setIfInBounds_toArray, List.set_cons_zero, List.set_cons_succ])
        refine wpAnyH_take (i := 3) (v := (.agg #[.int .i64 L, .int .i64 R])) rfl (by as_aux_lemma => kernel_rfl) (by as_aux_lemma => kernel_rfl) (by as_aux_lemma => kernel_rfl) (fun _ _ _ h => h) (Or.inl ⟨by kernel_rfl, ?_⟩) hS ?_
        · intro w hSw; (try dsimp only at hSw); obtain ⟨hSb, hl0, hl1, hl2, hl3, hl4, hl5⟩ := hSw; go_simp
        (try simp only [Act.put, List.getElem_toArray, List.getElem_cons_zero, List.getElem_cons_succ, List.setIfInBounds_toArray, List.set_cons_zero, List.set_cons_succ])
        refine wpAnyH_ready (rs := [2]) (by as_aux_lemma => kernel_rfl) (by simp) ?_
        refine AllReadyH.cons rfl (fun K hK => ?_) AllReadyH.nil
        go_simp
        refine Calls.mono (HSI.out _ (ha.below hb)) ?_
        rintro e w3 ⟨v2, rfl, r2, hc⟩
        obtain ⟨a2, k2, rfl, -⟩ := RowS.shape cxE_len r2
        have s3 : D1.heap.size ≤ w3.heap.size := hc.size
        have bq := hc
        replace cf0 := cell_later bq cf0
        replace zf := Nat.lt_of_lt_of_le zf bq.size
        replace cl0 := cell_later bq cl0
        replace cl1 := cell_later bq cl1
        replace cl2 := cell_later bq cl2
        replace zl := Nat.lt_of_lt_of_le zl bq.size
        replace cs0 := cell_later bq cs0
        replace cs1 := cell_later bq cs1
        replace zs := Nat.lt_of_lt_of_le zs bq.size
        replace hb := hb.trans (bq.mono hb.size)
        clear hc bq
        refine hK.out _ _ (⟨hb, cf0, cl0, cl1, cl2, cs0, cs1⟩) (fun hS => ?_)
        clear hK K
        (try simp only [Act.put, List.getElem_toArray, List.getElem_cons_zero, List.getElem_cons_succ, List.setIfInBounds_toArray, List.set_cons_zero, List.set_cons_succ])
        refine wpAnyH_ready (rs := [4]) (by as_aux_lemma => kernel_rfl) (by simp) ?_
        refine AllReadyH.cons rfl (fun K hK => ?_) AllReadyH.nil
        go_simp
        refine Calls.mono (HNO.out _) ?_
        rintro e w4 ⟨rfl, hc⟩
        replace r2 := r2.below hc
        have s4 : w3.heap.size ≤ w4.heap.size := hc.size
        have bq := hc
        replace cf0 := cell_later bq cf0
        replace zf := Nat.lt_of_lt_of_le zf bq.size
        replace cl0 := cell_later bq cl0
        replace cl1 := cell_later bq cl1
        replace cl2 := cell_later bq cl2
        replace zl := Nat.lt_of_lt_of_le zl bq.size
        replace cs0 := cell_later bq cs0
        replace cs1 := cell_later bq cs1
        replace zs := Nat.lt_of_lt_of_le zs bq.size
        replace hb := hb.trans (bq.mono hb.size)
        clear hc bq
        refine hK.out _ _ (⟨hb, cf0, cl0, cl1, cl2, cs0, cs1⟩) (fun hS => ?_)
        clear hK K
        (try simp only [Act.put, List.getElem_toArray, List.getElem_cons_zero, List.getElem_cons_succ, List.setIfInBounds_toArray, List.set_cons_zero, List.set_cons_succ])
        refine wpAnyH_ready (rs := [5]) (by as_aux_lemma => kernel_rfl) (by simp) ?_
        refine AllReadyH.cons rfl (fun K hK => ?_) AllReadyH.nil
        go_simp
        refine Calls.mono (HCO.out _ _ _ (RowS.read cxE_len r2)) ?_
        rintro e w5 ⟨rfl, hc⟩
        have s5 : w4.heap.size ≤ w5.heap.size := hc.size
        have bq := hc
        replace cf0 := cell_later bq cf0
        replace zf := Nat.lt_of_lt_of_le zf bq.size
        replace cl0 := cell_later bq cl0
        replace cl1 := cell_later bq cl1
        replace cl2 := cell_later bq cl2
        replace zl := Nat.lt_of_lt_of_le zl bq.size
        replace cs0 := cell_later bq cs0
        replace cs1 := cell_later bq cs1
        replace zs := Nat.lt_of_lt_of_le zs bq.size
        replace hb := hb.trans (bq.mono hb.size)
        clear hc bq
        refine hK.out _ _ (⟨hb, cf0, cl0, cl1, cl2, cs0, cs1⟩) (fun hS => ?_)
        clear hK K
        (try simp only [Act.put, List.getElem_toArray, List.getElem_cons_zero, List.getElem_cons_succ, List.setIfInBounds_toArray, List.set_cons_zero, List.set_cons_succ])
        refine wpAnyH_take (i := 6) (v := (.bool false)) rfl (by as_aux_lemma => kernel_rfl) (by as_aux_lemma => kernel_rfl) (by as_aux_lemma => kernel_rfl) (fun _ _ _ h => h) (Or.inl ⟨by kernel_rfl, ?_⟩) hS ?_
        · intro w hSw; (try dsimp only at hSw); go_simp
        (try simp only [Act.put, List.getElem_toArray, List.getElem_cons_zero, List.getElem_cons_succ, List.setIfInBounds_toArray, List.set_cons_zero, List.set_cons_succ])
        refine wpAnyH_done (by kernel_rfl) ?_ _
        clear hS
        go_wp2
        go_ret
        exact ⟨rfl, hb⟩
      · rw [if_neg hn0] at hF2
        subst hF2
        have hni : ¬ (n : Int) = 0 := by omega
        clear CO SI NO RFt hF hL e1 hm hcn h34 hsz hcm hcm' hLR h0 hn0
        go_enter Tryd.func10, Tryd.ntmps10
        have hb : Below w.heap.size w w := Below.refl _ _
        go_wp2_with fail
        have bp : ∀ o0 o1 o2, Below w.heap.size w (((w.alloc o0).alloc o1).alloc o2) := fun o0 o1 o2 => (((Below.refl _ _).alloc (Nat.le_refl _) o0).alloc (by simp) o1).alloc (by simp; omega) o2
        have hbt : ∀ o0 o1 o2, Below w.heap.size w (((w.alloc o0).alloc o1).alloc o2) := fun o0 o1 o2 => hb.trans ((bp o0 o1 o2).mono hb.size)
        refine Calls.mono (HRF.out _) ?_
        rintro e w1 ⟨rfl, hc⟩
        have s1 : w.heap.size + 3 ≤ w1.heap.size := by have := hc.size; simp at this; omega
        have bq : Below w.heap.size w w1 := (bp _ _ _).trans (hc.mono (bp _ _ _).size)
        have cf0 : w1.cell? ⟨w.heap.size, 0, none⟩ = some (.slice a n ca) := cell_later hc (by simp [go_sem])
        have zf : w.heap.size < w1.heap.size := by omega
        have cl0 : w1.cell? ⟨w.heap.size + 1, 0, none⟩ = some (.int .i64 W) := cell_later hc (by simp [go_sem])
        have cl1 : w1.cell? ⟨w.heap.size + 1, 1, none⟩ = some (.bool C) := cell_later hc (by simp [go_sem])
        have cl2 : w1.cell? ⟨w.heap.size + 1, 2, none⟩ = some (.int .i64 S) := cell_later hc (by simp [go_sem])
        have zl : w.heap.size + 1 < w1.heap.size := by omega
        have cs0 : w1.cell? ⟨w.heap.size + 1 + 1, 0, none⟩ = some (.int .i64 L) := cell_later hc (by simp [go_sem])
        have cs1 : w1.cell? ⟨w.heap.size + 1 + 1, 1, none⟩ = some (.int .i64 R) := cell_later hc (by simp [go_sem])
        have zs : w.heap.size + 1 + 1 < w1.heap.size := by omega
        replace hb := hb.trans (bq.mono hb.size)
        clear hc bq bp hbt
        go_wp2_with fail
        have bd : Below w1.heap.size w1 w1.drew := (Below.refl _ _).drew
        refine wp_region_held_drew (S := fun w' => Below w.heap.size w w' ∧ w'.cell? ⟨w.heap.size, 0, none⟩ = some (.slice a n ca) ∧ w'.cell? ⟨w.heap.size + 1, 0, none⟩ = some (.int .i64 W) ∧ w'.cell? ⟨w.heap.size + 1, 1, none⟩ = some (.bool C) ∧ w'.cell? ⟨w.heap.size + 1, 2, none⟩ = some (.int .i64 S) ∧ w'.cell? ⟨w.heap.size + 1 + 1, 0, none⟩ = some (.int .i64 L) ∧ w'.cell? ⟨w.heap.size + 1 + 1, 1, none⟩ = some (.int .i64 R)) (by kernel_rfl) ⟨(hb.trans (bd.mono hb.size)), cell_later bd cf0, cell_later bd cl0, cell_later bd cl1, cell_later bd cl2, cell_later bd cs0, cell_later bd cs1⟩ (fun hS => ?_)
        obtain ⟨D1, hD⟩ : ∃ D, w1.drew = D := ⟨_, rfl⟩
        rw [hD] at hS bd ⊢
        have hc := bd
        clear hD bd
        have s2 : w1.heap.size ≤ D1.heap.size := hc.size
        have bq := hc
        replace cf0 := cell_later bq cf0
        replace zf := Nat.lt_of_lt_of_le zf bq.size
        replace cl0 := cell_later bq cl0
        replace cl1 := cell_later bq cl1
        replace cl2 := cell_later bq cl2
        replace zl := Nat.lt_of_lt_of_le zl bq.size
        replace cs0 := cell_later bq cs0
        replace cs1 := cell_later bq cs1
        replace zs := Nat.lt_of_lt_of_le zs bq.size
        replace hb := hb.trans (bq.mono hb.size)
        clear hc bq
        refine wpAnyH_take (i := 0) (v := (.agg #[.int .i64 W, .bool C, .int .i64 S])) rfl (by as_aux_lemma => kernel_rfl) (by as_aux_lemma => kernel_rfl) (by as_aux_lemma => kernel_rfl) (fun _ _ _ h => h) (Or.inl ⟨by kernel_rfl, ?_⟩) hS ?_
        · intro w hSw; (try dsimp only at hSw); obtain ⟨hSb, hl0, hl1, hl2, hl3, hl4, hl5⟩ := hSw; go_simp
        (try simp only [Act.put, List.getElem_toArray, List.getElem_cons_zero, List.getElem_cons_succ, List.setIfInBounds_toArray, List.set_cons_zero, List.set_cons_succ])
        refine wpAnyH_take (i := 1) (v := (.agg #[.slice a n ca])) rfl (by as_aux_lemma => kernel_rfl) (by as_aux_lemma => kernel_rfl) (by as_aux_lemma => kernel_rfl) (fun _ _ _ h => h) (Or.inl ⟨by kernel_rfl, ?_⟩) hS ?_
        · intro w hSw; (try dsimp only at hSw); obtain ⟨hSb, hl0, hl1, hl2, hl3, hl4, hl5⟩ := hSw; go_simp
        (try simp only [Act.put, List.getElem_toArray, List.getElem_cons_zero, List.getElem_cons_succ, List.setIfInBounds_toArray, List.set_cons_zero, List.set_cons_succ])
        refine wpAnyH_take (i := 3) (v := (.agg #[.int .i64 L, .int .i64 R])) rfl (by as_aux_lemma => kernel_rfl) (by as_aux_lemma => kernel_rfl) (by as_aux_lemma => kernel_rfl) (fun _ _ _ h => h) (Or.inl ⟨by kernel_rfl, ?_⟩) hS ?_
        · intro w hSw; (try dsimp only at hSw); obtain ⟨hSb, hl0, hl1, hl2, hl3, hl4, hl5⟩ := hSw; go_simp
        (try simp only [Act.put, List.getElem_toArray, List.getElem_cons_zero, List.getElem_cons_succ, List.setIfInBounds_toArray, List.set_cons_zero, List.set_cons_succ])
        refine wpAnyH_ready (rs := [2]) (by as_aux_lemma => kernel_rfl) (by simp) ?_
        refine AllReadyH.cons rfl (fun K hK => ?_) AllReadyH.nil
        go_simp
        refine Calls.mono (HSI.out _ (ha.below hb)) ?_
        rintro e w3 ⟨v2, rfl, r2, hc⟩
        obtain ⟨a2, k2, rfl, -⟩ := RowS.shape cxE_len r2
        have s3 : D1.heap.size ≤ w3.heap.size := hc.size
        have bq := hc
        replace cf0 := cell_later bq cf0
        replace zf := Nat.lt_of_lt_of_le zf bq.size
        replace cl0 := cell_later bq cl0
        replace cl1 := cell_later bq cl1
        replace cl2 := cell_later bq cl2
        replace zl := Nat.lt_of_lt_of_le zl bq.size
        replace cs0 := cell_later bq cs0
        replace cs1 := cell_later bq cs1
        replace zs := Nat.lt_of_lt_of_le zs bq.size
        replace hb := hb.trans (bq.mono hb.size)
        clear hc bq
        refine hK.out _ _ (⟨hb, cf0, cl0, cl1, cl2, cs0, cs1⟩) (fun hS => ?_)
        clear hK K
        (try simp only [Act.put, List.getElem_toArray, List.getElem_cons_zero, List.getElem_cons_succ, List.setIfInBounds_toArray, List.set_cons_zero, List.set_cons_succ])
        refine wpAnyH_ready (rs := [4]) (by as_aux_lemma => kernel_rfl) (by simp) ?_
        refine AllReadyH.cons rfl (fun K hK => ?_) AllReadyH.nil
        go_simp
        refine Calls.mono (HNO.out _) ?_
        rintro e w4 ⟨rfl, hc⟩
        replace r2 := r2.below hc
        have s4 : w3.heap.size ≤ w4.heap.size := hc.size
        have bq := hc
        replace cf0 := cell_later bq cf0
        replace zf := Nat.lt_of_lt_of_le zf bq.size
        replace cl0 := cell_later bq cl0
        replace cl1 := cell_later bq cl1
        replace cl2 := cell_later bq cl2
        replace zl := Nat.lt_of_lt_of_le zl bq.size
        replace cs0 := cell_later bq cs0
        replace cs1 := cell_later bq cs1
        replace zs := Nat.lt_of_lt_of_le zs bq.size
        replace hb := hb.trans (bq.mono hb.size)
        clear hc bq
        refine hK.out _ _ (⟨hb, cf0, cl0, cl1, cl2, cs0, cs1⟩) (fun hS => ?_)
        clear hK K
        (try simp only [Act.put, List.getElem_toArray, List.getElem_cons_zero, List.getElem_cons_succ, List.setIfInBounds_toArray, List.set_cons_zero, List.set_cons_succ])
        refine wpAnyH_ready (rs := [5]) (by as_aux_lemma => kernel_rfl) (by simp) ?_
        refine AllReadyH.cons rfl (fun K hK => ?_) AllReadyH.nil
        go_simp
        refine Calls.mono (HCO.out _ _ _ (RowS.read cxE_len r2)) ?_
        rintro e w5 ⟨rfl, hc⟩
        have s5 : w4.heap.size ≤ w5.heap.size := hc.size
        have bq := hc
        replace cf0 := cell_later bq cf0
        replace zf := Nat.lt_of_lt_of_le zf bq.size
        replace cl0 := cell_later bq cl0
        replace cl1 := cell_later bq cl1
        replace cl2 := cell_later bq cl2
        replace zl := Nat.lt_of_lt_of_le zl bq.size
        replace cs0 := cell_later bq cs0
        replace cs1 := cell_later bq cs1
        replace zs := Nat.lt_of_lt_of_le zs bq.size
        replace hb := hb.trans (bq.mono hb.size)
        clear hc bq
        refine hK.out _ _ (⟨hb, cf0, cl0, cl1, cl2, cs0, cs1⟩) (fun hS => ?_)
        clear hK K
        (try simp only [Act.put, List.getElem_toArray, List.getElem_cons_zero, List.getElem_cons_succ, List.setIfInBounds_toArray, List.set_cons_zero, List.set_cons_succ])
        refine wpAnyH_take (i := 6) (v := (.bool false)) rfl (by as_aux_lemma => kernel_rfl) (by as_aux_lemma => kernel_rfl) (by as_aux_lemma => kernel_rfl) (fun _ _ _ h => h) (Or.inl ⟨by kernel_rfl, ?_⟩) hS ?_
        · intro w hSw; (try dsimp only at hSw); go_simp
        (try simp only [Act.put, List.getElem_toArray, List.getElem_cons_zero, List.getElem_cons_succ, List.setIfInBounds_toArray, List.set_cons_zero, List.set_cons_succ])
        refine wpAnyH_done (by kernel_rfl) ?_ _
        clear hS
        go_wp2
        go_ret
        exact ⟨rfl, hb⟩
  · have e1 : spotF xs W C S L R = spBase n W C S := by unfold spotF; rw [hlen, if_pos hF]
    rw [e1]
    generalize spBase n W C S = F at *
    have HRF : Hid _ := RFt
    clear RFt e1 hcm
    go_enter Tryd.func10, Tryd.ntmps10
    have hb : Below w.heap.size w w := Below.refl _ _
    go_wp2_with fail
    have bp : ∀ o0 o1 o2, Below w.heap.size w (((w.alloc o0).alloc o1).alloc o2) := fun o0 o1 o2 => (((Below.refl _ _).alloc (Nat.le_refl _) o0).alloc (by simp) o1).alloc (by simp; omega) o2
    have hbt : ∀ o0 o1 o2, Below w.heap.size w (((w.alloc o0).alloc o1).alloc o2) := fun o0 o1 o2 => hb.trans ((bp o0 o1 o2).mono hb.size)
    refine Calls.mono (HRF.out _) ?_
    rintro e w1 ⟨rfl, hc⟩
    have s1 : w.heap.size + 3 ≤ w1.heap.size := by have := hc.size; simp at this; omega
    have bq : Below w.heap.size w w1 := (bp _ _ _).trans (hc.mono (bp _ _ _).size)
    have cf0 : w1.cell? ⟨w.heap.size, 0, none⟩ = some (.slice a n ca) := cell_later hc (by simp [go_sem])
    have zf : w.heap.size < w1.heap.size := by omega
    have cl0 : w1.cell? ⟨w.heap.size + 1, 0, none⟩ = some (.int .i64 W) := cell_later hc (by simp [go_sem])
    have cl1 : w1.cell? ⟨w.heap.size + 1, 1, none⟩ = some (.bool C) := cell_later hc (by simp [go_sem])
    have cl2 : w1.cell? ⟨w.heap.size + 1, 2, none⟩ = some (.int .i64 S) := cell_later hc (by simp [go_sem])
    have zl : w.heap.size + 1 < w1.heap.size := by omega
    have cs0 : w1.cell? ⟨w.heap.size + 1 + 1, 0, none⟩ = some (.int .i64 L) := cell_later hc (by simp [go_sem])
    have cs1 : w1.cell? ⟨w.heap.size + 1 + 1, 1, none⟩ = some (.int .i64 R) := cell_later hc (by simp [go_sem])
    have zs : w.heap.size + 1 + 1 < w1.heap.size := by omega
    replace hb := hb.trans (bq.mono hb.size)
    clear hc bq bp hbt
    go_wp2
    go_ret
    exact ⟨rfl, hb⟩

/-- no spot stands twice among all -/
theorem spots_inj : ∀ {cs : List Nat} {k i j : Nat} {s : Int × Int}, (spots k cs)[i]? = some s → (spots k cs)[j]? = some s → i = j := by
  intro cs k i j s hi hj
  obtain ⟨i1, j1, c1, e1, h1, h2, h3⟩ := spots_find hi
  obtain ⟨i2, j2, c2, e2, h4, h5, h6⟩ := spots_find hj
  rw [e1] at e2
  simp only [Prod.mk.injEq] at e2
  have : i1 = i2 := by omega
  subst this
  omega
theorem spAll_inj {cs : List Nat} {i j : Nat} {s : Int × Int} (hi : (spAll cs)[i]? = some s) (hj : (spAll cs)[j]? = some s) : i = j := spots_inj hi hj

set_option maxRecDepth 10000 in
set_option maxHeartbeats 3200000 in
theorem moved_any (a : Option Addr) (n ca : Nat) (xs : List Int) (W S L R M : Int) (C : Bool) (hLR : i64Sp (L, R)) (hn : n ≤ 400) (hW : 1 ≤ W) (hW2 : W ≤ 40) (hM : -9999 ≤ M ∧ M ≤ 9999) (hF2 : spIn (cnt C W xs) L R = 0) (w : World) (ha : Rd .u8 w a n xs) (hB : Bytes xs) (h1 : n ≤ 1073741824) (hca : n ≤ ca) (hcm : ca ≤ maxLen) :
    Calls Tryd.prog 18 #[.agg #[.int .i64 W, .bool C, .int .i64 S], .agg #[.slice a n ca], .agg #[.int .i64 L, .int .i64 R], .int .i64 M] w fun e w' => e = .returned (.agg #[.int .i64 (spMove (cnt C W xs) (L, R) M).1, .int .i64 (spMove (cnt C W xs) (L, R) M).2]) ∧ Below w.heap.size w w' := by
  have hlen := ha.1
  have hcm' : ca ≤ 9223372036854775807 := hcm
  have SI := fun w' h => spotsIn_any a n ca xs W S C w' h hB (by omega) hca hcm' hW hW2
  have NO := fun w' => numberOf_any L R w'
  have hlb : (spAll (cnt C W xs)).length ≤ 1000000 := by rw [spAll_len]; exact cnt_sum hB (by omega) hW
  have IX := fun A CA w' h => (cIndex_any (L, R) A (spAll (cnt C W xs)).length CA (spAll (cnt C W xs)) w' h hLR (spAll_small hB (by omega) hW) (by omega)).mono (fun e w'' h => (by obtain ⟨r, h1, h2, h3⟩ := h; exact ⟨r, h1, h2 ▸ Below.refl _ _, h3⟩ : ∃ r : Int, e = .returned (.int .i64 r) ∧ Below w'.heap.size w' w'' ∧ ((r = -1 ∧ (L, R) ∉ spAll (cnt C W xs)) ∨ ∃ k : Nat, r = k ∧ (spAll (cnt C W xs))[k]? = some (L, R))))
  have hmem := spIn_mem.1 hF2
  have hpos := cnt_pos (C := C) (xs := xs) hW
  obtain ⟨p0, hp0⟩ := List.getElem?_of_mem hmem
  have hl0 := (List.getElem?_eq_some_iff.1 hp0).1
  -- the place one comes to is the same from whatever place of the spot
  have key : ∀ k : Nat, (spAll (cnt C W xs))[k]? = some (L, R) → (spAll (cnt C W xs))[(min (max ((k : Int) + M) 0) (((spAll (cnt C W xs)).length : Int) - 1)).toNat]? = some (spMove (cnt C W xs) (L, R) M) := fun k hk => (spMove_at hpos (SpAt.of hk) M).get
  have hsm := spAll_small (C := C) hB (by omega) hW _ (List.mem_of_getElem? (key p0 hp0))
  have uniq : ∀ k : Nat, (spAll (cnt C W xs))[k]? = some (L, R) → k = p0 := fun k hk => spAll_inj hk hp0
  have SO := fun w' => spotOf_any (spMove (cnt C W xs) (L, R) M) hsm w'
  have hQ := key p0 hp0
  generalize spMove (cnt C W xs) (L, R) M = GG at *
  obtain ⟨G1, G2⟩ := GG
  simp only at SO ⊢
  generalize cx (L, R) = X at *
  generalize hsz : (spAll (cnt C W xs)).length = m at *
  generalize spAll (cnt C W xs) = ys at *
  obtain ⟨q, hqd⟩ : ∃ q : Nat, q = (min (max ((p0 : Int) + M) 0) ((m : Int) - 1)).toNat := ⟨_, rfl⟩
  rw [← hqd] at hQ
  have hq : q < m := by omega
  have HQ : Hid _ := hQ
  have HSI : Hid _ := SI
  have HNO : Hid _ := NO
  have HIX : Hid _ := IX
  have HSO0 : Hid _ := SO
  have HAT : Hid (∀ p : Int, ((p = -1 ∧ (L, R) ∉ ys) ∨ ∃ k : Nat, p = k ∧ ys[k]? = some (L, R)) → ∃ pk : Nat, p = pk ∧ (pk ≤ 1000000 ∧ min (max ((pk : Int) + M) 0) ((m : Int) - 1) = (q : Int))) := fun p hp => by
    rcases hp with ⟨_, h⟩ | ⟨k, rfl, h⟩
    · exact absurd hmem h
    · have := uniq k h
      subst this
      exact ⟨k, rfl, by omega, by omega⟩
  clear SI NO IX SO hF2 key hsm uniq hQ hp0 hmem hpos hsz hqd hcm hcm' hLR hl0
  go_enter Tryd.func18, Tryd.ntmps18
  have hb : Below w.heap.size w w := Below.refl _ _
  go_wp2_with fail
  have bp : ∀ o0 o1 o2 o3, Below w.heap.size w ((((w.alloc o0).alloc o1).alloc o2).alloc o3) := fun o0 o1 o2 o3 => ((((Below.refl _ _).alloc (Nat.le_refl _) o0).alloc (by simp) o1).alloc (by simp; omega) o2).alloc (by simp; omega) o3
  have hbt : ∀ o0 o1 o2 o3, Below w.heap.size w ((((w.alloc o0).alloc o1).alloc o2).alloc o3) := fun o0 o1 o2 o3 => hb.trans ((bp o0 o1 o2 o3).mono hb.size)
  refine Calls.mono (HSI.out _ (ha.below (hbt _ _ _ _))) ?_
  rintro e w1 ⟨v2, rfl, r2, hc⟩
  obtain ⟨a2, k2, rfl, -⟩ := RowS.shape cxE_len r2
  have s1 : w.heap.size + 4 ≤ w1.heap.size := by have := hc.size; simp at this; omega
  have bq : Below w.heap.size w w1 := (bp _ _ _ _).trans (hc.mono (bp _ _ _ _).size)
  have cl0 : w1.cell? ⟨w.heap.size, 0, none⟩ = some (.int .i64 W) := cell_later hc (by simp [go_sem])
  have cl1 : w1.cell? ⟨w.heap.size, 1, none⟩ = some (.bool C) := cell_later hc (by simp [go_sem])
  have cl2 : w1.cell? ⟨w.heap.size, 2, none⟩ = some (.int .i64 S) := cell_later hc (by simp [go_sem])
  have zl : w.heap.size < w1.heap.size := by omega
  have cf0 : w1.cell? ⟨w.heap.size + 1, 0, none⟩ = some (.slice a n ca) := cell_later hc (by simp [go_sem])
  have zf : w.heap.size + 1 < w1.heap.size := by omega
  have cs0 : w1.cell? ⟨w.heap.size + 1 + 1, 0, none⟩ = some (.int .i64 L) := cell_later hc (by simp [go_sem])
  have cs1 : w1.cell? ⟨w.heap.size + 1 + 1, 1, none⟩ = some (.int .i64 R) := cell_later hc (by simp [go_sem])
  have zs : w.heap.size + 1 + 1 < w1.heap.size := by omega
  have cR0 : w1.cell? ⟨w.heap.size + 1 + 1 + 1, 0, none⟩ = some (.int .i64 0) := cell_later hc (by simp [go_sem])
  have fR0 : w1.frozen? ⟨w.heap.size + 1 + 1 + 1, 0, none⟩ = false := (hc.frozen (p := ⟨w.heap.size + 1 + 1 + 1, 0, none⟩) (by first | (simp; done) | (simp; omega))).trans (by simp [go_sem])
  have cR1 : w1.cell? ⟨w.heap.size + 1 + 1 + 1, 1, none⟩ = some (.int .i64 0) := cell_later hc (by simp [go_sem])
  have fR1 : w1.frozen? ⟨w.heap.size + 1 + 1 + 1, 1, none⟩ = false := (hc.frozen (p := ⟨w.heap.size + 1 + 1 + 1, 1, none⟩) (by first | (simp; done) | (simp; omega))).trans (by simp [go_sem])
  have zR : w.heap.size + 1 + 1 + 1 < w1.heap.size := by omega
  replace hb := hb.trans (bq.mono hb.size)
  clear hc bq bp hbt
  go_wp2_with fail
  refine Calls.mono (HNO.out _) ?_
  rintro e w2 ⟨rfl, hc⟩
  have s2 : w1.heap.size ≤ w2.heap.size := hc.size
  have bq := hc
  replace cl0 := cell_later bq cl0
  replace cl1 := cell_later bq cl1
  replace cl2 := cell_later bq cl2
  replace zl := Nat.lt_of_lt_of_le zl bq.size
  replace cf0 := cell_later bq cf0
  replace zf := Nat.lt_of_lt_of_le zf bq.size
  replace cs0 := cell_later bq cs0
  replace cs1 := cell_later bq cs1
  replace zs := Nat.lt_of_lt_of_le zs bq.size
  replace cR0 := cell_later bq cR0
  replace fR0 := (bq.frozen (p := ⟨w.heap.size + 1 + 1 + 1, 0, none⟩) zR).trans fR0
  replace cR1 := cell_later bq cR1
  replace fR1 := (bq.frozen (p := ⟨w.heap.size + 1 + 1 + 1, 1, none⟩) zR).trans fR1
  replace zR := Nat.lt_of_lt_of_le zR bq.size
  replace r2 := r2.below bq
  replace hb := hb.trans (bq.mono hb.size)
  clear hc bq
  go_wp2_with fail
  refine Calls.mono (HIX.out _ _ _ (RowS.read cxE_len r2)) ?_
  rintro e w3 ⟨p, rfl, hc, hp⟩
  have hat := HAT.out p hp
  obtain ⟨pk, rfl, hpk, hpq⟩ := hat
  obtain ⟨B, o, x, ha2, hx, hcx⟩ := (RowS.read cxE_len r2).at hq
  rw [HQ.out] at hx
  obtain rfl := Option.some.inj hx
  have hcx0 := hcx 0 _ rfl
  simp only [Nat.mul_one, Nat.add_zero] at hcx0
  subst ha2
  have hcx1 := cell_later hc hcx0
  obtain ⟨A1, A2, hAB⟩ : ∃ A1 A2, cx (G1, G2) = .complex .f64 A1 A2 := ⟨_, _, rfl⟩
  rw [hAB] at hcx1
  have HSO : Hid _ := hAB ▸ HSO0.out
  clear hcx hcx0 hx hAB hp
  have HPQ := hid hpq
  have hplt : (pk : Int) + M ≤ 2000000 ∧ -2000000 ≤ (pk : Int) + M := by omega
  have s3 : w2.heap.size ≤ w3.heap.size := hc.size
  have bq := hc
  replace cl0 := cell_later bq cl0
  replace cl1 := cell_later bq cl1
  replace cl2 := cell_later bq cl2
  replace zl := Nat.lt_of_lt_of_le zl bq.size
  replace cf0 := cell_later bq cf0
  replace zf := Nat.lt_of_lt_of_le zf bq.size
  replace cs0 := cell_later bq cs0
  replace cs1 := cell_later bq cs1
  replace zs := Nat.lt_of_lt_of_le zs bq.size
  replace cR0 := cell_later bq cR0
  replace fR0 := (bq.frozen (p := ⟨w.heap.size + 1 + 1 + 1, 0, none⟩) zR).trans fR0
  replace cR1 := cell_later bq cR1
  replace fR1 := (bq.frozen (p := ⟨w.heap.size + 1 + 1 + 1, 1, none⟩) zR).trans fR1
  replace zR := Nat.lt_of_lt_of_le zR bq.size
  replace r2 := r2.below bq
  replace hb := hb.trans (bq.mono hb.size)
  clear hc bq
  go_wp2_with (first | ((with_reducible show wpList _ _ _ (({ dst := _, op := .call { callee := .builtin .max, args := #[_, _], argTypes := _ }, type := _, pos := _, after := _, guard := _ } : Oper) :: _) _ _); refine wpList_max2 _ _ _ .i64 ((pk : Int) + M) 0 _ rfl rfl rfl ?_; simp only [Act.put, List.setIfInBounds_toArray, List.set_cons_zero, List.set_cons_succ]) | ((with_reducible show wpList _ _ _ (({ dst := _, op := .call { callee := .builtin .min, args := #[_, _], argTypes := _ }, type := _, pos := _, after := _, guard := _ } : Oper) :: _) _ _); refine wpList_min2 _ _ _ .i64 (max ((pk : Int) + M) 0) ((m : Int) - 1) _ rfl rfl HPQ.out ?_; simp only [Act.put, List.setIfInBounds_toArray, List.set_cons_zero, List.set_cons_succ]))
  refine Calls.mono (HSO.out _) ?_
  rintro e w4 ⟨rfl, hc⟩
  have s4 : w3.heap.size ≤ w4.heap.size := hc.size
  have bq := hc
  replace cl0 := cell_later bq cl0
  replace cl1 := cell_later bq cl1
  replace cl2 := cell_later bq cl2
  replace zl := Nat.lt_of_lt_of_le zl bq.size
  replace cf0 := cell_later bq cf0
  replace zf := Nat.lt_of_lt_of_le zf bq.size
  replace cs0 := cell_later bq cs0
  replace cs1 := cell_later bq cs1
  replace zs := Nat.lt_of_lt_of_le zs bq.size
  replace cR0 := cell_later bq cR0
  replace fR0 := (bq.frozen (p := ⟨w.heap.size + 1 + 1 + 1, 0, none⟩) zR).trans fR0
  replace cR1 := cell_later bq cR1
  replace fR1 := (bq.frozen (p := ⟨w.heap.size + 1 + 1 + 1, 1, none⟩) zR).trans fR1
  replace zR := Nat.lt_of_lt_of_le zR bq.size
  replace r2 := r2.below bq
  replace hb := hb.trans (bq.mono hb.size)
  clear hc bq
  go_wp2
  exact bodyPost_ret (v := .agg #[.int .i64 G1, .int .i64 G2]) (by simp [results, Tryd.results18, go_sem, cR0, cR1]) rfl ⟨rfl, ((hb.setCell (by first | omega | (simp; omega) | simp) _).setCell (by first | omega | (simp; omega) | simp) _)⟩

set_option maxRecDepth 10000 in
set_option maxHeartbeats 3200000 in
theorem implMoveSpot_any (a : Option Addr) (n ca : Nat) (xs : List Int) (W S L R M : Int) (C : Bool) (hLR : i64Sp (L, R)) (w : World) (ha : Rd .u8 w a n xs) (hB : Bytes xs) (h1 : n ≤ 1073741824) (hca : n ≤ ca) (hcm : ca ≤ maxLen) :
    Calls Tryd.prog 7 #[.agg #[.slice a n ca], .agg #[.int .i64 W, .bool C, .int .i64 S], .agg #[.int .i64 L, .int .i64 R], .int .i64 M] w fun e w' => e = .returned (.agg #[.int .i64 (mvC xs W C S L R M), .int .i64 (mvS xs W C S L R M).1, .int .i64 (mvS xs W C S L R M).2]) ∧ Below w.heap.size w w' := by
  have hlen := ha.1
  have SFt := fun w' h => implSpotFault_any a n ca xs W S L R C hLR w' h hB h1 hca hcm
  by_cases hF : spotF xs W C S L R = 0
  · rw [hF] at SFt
    have HSF : Hid _ := SFt
    by_cases hM : -9999 ≤ M ∧ M ≤ 9999
    · have e1 : mvC xs W C S L R M = 0 := by unfold mvC; rw [if_neg (by omega), if_neg (by omega)]
      have e2 : mvS xs W C S L R M = spMove (cnt C W xs) (L, R) M := by unfold mvS; rw [if_pos e1]
      rw [e1, e2]
      have hF2 := hF
      unfold spotF at hF2
      have hb0 : spBase xs.length W C S = 0 := by
        apply Classical.byContradiction; intro h; rw [if_pos h] at hF2; exact h hF2
      rw [if_neg (by omega)] at hF2
      obtain ⟨hn, hL⟩ := spBase_ok hb0
      obtain ⟨hW, hW2, hS, hS2, -⟩ := lyF_ok hL
      have MV := fun w' h => moved_any a n ca xs W S L R M C hLR (by omega) hW hW2 hM hF2 w' h hB h1 hca hcm
      generalize spMove (cnt C W xs) (L, R) M = GG at *
      obtain ⟨G1, G2⟩ := GG
      simp only at MV ⊢
      have HMV : Hid _ := MV
      clear SFt MV e1 e2 hF hF2 hL hb0 hcm hLR
      go_enter Tryd.func7, Tryd.ntmps7
      have hb : Below w.heap.size w w := Below.refl _ _
      go_wp2_with fail
      have bp : ∀ o0 o1 o2 o3, Below w.heap.size w ((((w.alloc o0).alloc o1).alloc o2).alloc o3) := fun o0 o1 o2 o3 => ((((Below.refl _ _).alloc (Nat.le_refl _) o0).alloc (by simp) o1).alloc (by simp; omega) o2).alloc (by simp; omega) o3
      have hbt : ∀ o0 o1 o2 o3, Below w.heap.size w ((((w.alloc o0).alloc o1).alloc o2).alloc o3) := fun o0 o1 o2 o3 => hb.trans ((bp o0 o1 o2 o3).mono hb.size)
      refine Calls.mono (HSF.out _ (ha.below (hbt _ _ _ _))) ?_
      rintro e w1 ⟨rfl, hc⟩
      have s1 : w.heap.size + 4 ≤ w1.heap.size := by have := hc.size; simp at this; omega
      have bq : Below w.heap.size w w1 := (bp _ _ _ _).trans (hc.mono (bp _ _ _ _).size)
      have cf0 : w1.cell? ⟨w.heap.size, 0, none⟩ = some (.slice a n ca) := cell_later hc (by simp [go_sem])
      have zf : w.heap.size < w1.heap.size := by omega
      have cl0 : w1.cell? ⟨w.heap.size + 1, 0, none⟩ = some (.int .i64 W) := cell_later hc (by simp [go_sem])
      have cl1 : w1.cell? ⟨w.heap.size + 1, 1, none⟩ = some (.bool C) := cell_later hc (by simp [go_sem])
      have cl2 : w1.cell? ⟨w.heap.size + 1, 2, none⟩ = some (.int .i64 S) := cell_later hc (by simp [go_sem])
      have zl : w.heap.size + 1 < w1.heap.size := by omega
      have cs0 : w1.cell? ⟨w.heap.size + 1 + 1, 0, none⟩ = some (.int .i64 L) := cell_later hc (by simp [go_sem])
      have cs1 : w1.cell? ⟨w.heap.size + 1 + 1, 1, none⟩ = some (.int .i64 R) := cell_later hc (by simp [go_sem])
      have zs : w.heap.size + 1 + 1 < w1.heap.size := by omega
      have cR0 : w1.cell? ⟨w.heap.size + 1 + 1 + 1, 0, none⟩ = some (.int .i64 0) := cell_later hc (by simp [go_sem])
      have fR0 : w1.frozen? ⟨w.heap.size + 1 + 1 + 1, 0, none⟩ = false := (hc.frozen (p := ⟨w.heap.size + 1 + 1 + 1, 0, none⟩) (by first | (simp; done) | (simp; omega))).trans (by simp [go_sem])
      have cR1 : w1.cell? ⟨w.heap.size + 1 + 1 + 1, 1, none⟩ = some (.int .i64 0) := cell_later hc (by simp [go_sem])
      have fR1 : w1.frozen? ⟨w.heap.size + 1 + 1 + 1, 1, none⟩ = false := (hc.frozen (p := ⟨w.heap.size + 1 + 1 + 1, 1, none⟩) (by first | (simp; done) | (simp; omega))).trans (by simp [go_sem])
      have cR2 : w1.cell? ⟨w.heap.size + 1 + 1 + 1, 2, none⟩ = some (.int .i64 0) := cell_later hc (by simp [go_sem])
      have fR2 : w1.frozen? ⟨w.heap.size + 1 + 1 + 1, 2, none⟩ = false := (hc.frozen (p := ⟨w.heap.size + 1 + 1 + 1, 2, none⟩) (by first | (simp; done) | (simp; omega))).trans (by simp [go_sem])
      have zR : w.heap.size + 1 + 1 + 1 < w1.heap.size := by omega
      replace hb := hb.trans (bq.mono hb.size)
      clear hc bq bp hbt
      go_wp2_with fail
      refine Calls.mono (HMV.out _ (ha.below hb)) ?_
      rintro e w2 ⟨rfl, hc⟩
      have s2 : w1.heap.size ≤ w2.heap.size := hc.size
      have bq := hc
      replace cf0 := cell_later bq cf0
      replace zf := Nat.lt_of_lt_of_le zf bq.size
      replace cl0 := cell_later bq cl0
      replace cl1 := cell_later bq cl1
      replace cl2 := cell_later bq cl2
      replace zl := Nat.lt_of_lt_of_le zl bq.size
      replace cs0 := cell_later bq cs0
      replace cs1 := cell_later bq cs1
      replace zs := Nat.lt_of_lt_of_le zs bq.size
      replace cR0 := cell_later bq cR0
      replace fR0 := (bq.frozen (p := ⟨w.heap.size + 1 + 1 + 1, 0, none⟩) zR).trans fR0
      replace cR1 := cell_later bq cR1
      replace fR1 := (bq.frozen (p := ⟨w.heap.size + 1 + 1 + 1, 1, none⟩) zR).trans fR1
      replace cR2 := cell_later bq cR2
      replace fR2 := (bq.frozen (p := ⟨w.heap.size + 1 + 1 + 1, 2, none⟩) zR).trans fR2
      replace zR := Nat.lt_of_lt_of_le zR bq.size
      replace hb := hb.trans (bq.mono hb.size)
      clear hc bq
      go_wp2
      exact bodyPost_ret (v := .agg #[.int .i64 0, .int .i64 G1, .int .i64 G2]) (by simp [results, Tryd.results7, go_sem, cR0, cR1, cR2]) rfl ⟨rfl, (((hb.setCell (by first | omega | (simp; omega) | simp) _).setCell (by first | omega | (simp; omega) | simp) _).setCell (by first | omega | (simp; omega) | simp) _)⟩
    · have e1 : mvC xs W C S L R M = 3 := by unfold mvC; rw [if_neg (by omega), if_pos (by omega)]
      have e2 : mvS xs W C S L R M = (0, 0) := by unfold mvS; rw [if_neg (by omega)]
      rw [e1, e2]
      clear SFt e1 e2 hF hcm
      by_cases hM1 : M < -9999
      · clear hM
        go_enter Tryd.func7, Tryd.ntmps7
        have hb : Below w.heap.size w w := Below.refl _ _
        go_wp2_with fail
        have bp : ∀ o0 o1 o2 o3, Below w.heap.size w ((((w.alloc o0).alloc o1).alloc o2).alloc o3) := fun o0 o1 o2 o3 => ((((Below.refl _ _).alloc (Nat.le_refl _) o0).alloc (by simp) o1).alloc (by simp; omega) o2).alloc (by simp; omega) o3
        have hbt : ∀ o0 o1 o2 o3, Below w.heap.size w ((((w.alloc o0).alloc o1).alloc o2).alloc o3) := fun o0 o1 o2 o3 => hb.trans ((bp o0 o1 o2 o3).mono hb.size)
        refine Calls.mono (HSF.out _ (ha.below (hbt _ _ _ _))) ?_
        rintro e w1 ⟨rfl, hc⟩
        have s1 : w.heap.size + 4 ≤ w1.heap.size := by have := hc.size; simp at this; omega
        have bq : Below w.heap.size w w1 := (bp _ _ _ _).trans (hc.mono (bp _ _ _ _).size)
        have cf0 : w1.cell? ⟨w.heap.size, 0, none⟩ = some (.slice a n ca) := cell_later hc (by simp [go_sem])
        have zf : w.heap.size < w1.heap.size := by omega
        have cl0 : w1.cell? ⟨w.heap.size + 1, 0, none⟩ = some (.int .i64 W) := cell_later hc (by simp [go_sem])
        have cl1 : w1.cell? ⟨w.heap.size + 1, 1, none⟩ = some (.bool C) := cell_later hc (by simp [go_sem])
        have cl2 : w1.cell? ⟨w.heap.size + 1, 2, none⟩ = some (.int .i64 S) := cell_later hc (by simp [go_sem])
        have zl : w.heap.size + 1 < w1.heap.size := by omega
        have cs0 : w1.cell? ⟨w.heap.size + 1 + 1, 0, none⟩ = some (.int .i64 L) := cell_later hc (by simp [go_sem])
        have cs1 : w1.cell? ⟨w.heap.size + 1 + 1, 1, none⟩ = some (.int .i64 R) := cell_later hc (by simp [go_sem])
        have zs : w.heap.size + 1 + 1 < w1.heap.size := by omega
        have cR0 : w1.cell? ⟨w.heap.size + 1 + 1 + 1, 0, none⟩ = some (.int .i64 0) := cell_later hc (by simp [go_sem])
        have fR0 : w1.frozen? ⟨w.heap.size + 1 + 1 + 1, 0, none⟩ = false := (hc.frozen (p := ⟨w.heap.size + 1 + 1 + 1, 0, none⟩) (by first | (simp; done) | (simp; omega))).trans (by simp [go_sem])
        have cR1 : w1.cell? ⟨w.heap.size + 1 + 1 + 1, 1, none⟩ = some (.int .i64 0) := cell_later hc (by simp [go_sem])
        have fR1 : w1.frozen? ⟨w.heap.size + 1 + 1 + 1, 1, none⟩ = false := (hc.frozen (p := ⟨w.heap.size + 1 + 1 + 1, 1, none⟩) (by first | (simp; done) | (simp; omega))).trans (by simp [go_sem])
        have cR2 : w1.cell? ⟨w.heap.size + 1 + 1 + 1, 2, none⟩ = some (.int .i64 0) := cell_later hc (by simp [go_sem])
        have fR2 : w1.frozen? ⟨w.heap.size + 1 + 1 + 1, 2, none⟩ = false := (hc.frozen (p := ⟨w.heap.size + 1 + 1 + 1, 2, none⟩) (by first | (simp; done) | (simp; omega))).trans (by simp [go_sem])
        have zR : w.heap.size + 1 + 1 + 1 < w1.heap.size := by omega
        replace hb := hb.trans (bq.mono hb.size)
        clear hc bq bp hbt
        go_wp2
        exact bodyPost_ret (v := .agg #[.int .i64 3, .int .i64 0, .int .i64 0]) (by simp [results, Tryd.results7, go_sem, cR0, cR1, cR2]) rfl ⟨rfl, (((hb.setCell (by first | omega | (simp; omega) | simp) _).setCell (by first | omega | (simp; omega) | simp) _).setCell (by first | omega | (simp; omega) | simp) _)⟩
      · have hM2 : 9999 < M := by omega
        clear hM
        go_enter Tryd.func7, Tryd.ntmps7
        have hb : Below w.heap.size w w := Below.refl _ _
        go_wp2_with fail
        have bp : ∀ o0 o1 o2 o3, Below w.heap.size w ((((w.alloc o0).alloc o1).alloc o2).alloc o3) := fun o0 o1 o2 o3 => ((((Below.refl _ _).alloc (Nat.le_refl _) o0).alloc (by simp) o1).alloc (by simp; omega) o2).alloc (by simp; omega) o3
        have hbt : ∀ o0 o1 o2 o3, Below w.heap.size w ((((w.alloc o0).alloc o1).alloc o2).alloc o3) := fun o0 o1 o2 o3 => hb.trans ((bp o0 o1 o2 o3).mono hb.size)
        refine Calls.mono (HSF.out _ (ha.below (hbt _ _ _ _))) ?_
        rintro e w1 ⟨rfl, hc⟩
        have s1 : w.heap.size + 4 ≤ w1.heap.size := by have := hc.size; simp at this; omega
        have bq : Below w.heap.size w w1 := (bp _ _ _ _).trans (hc.mono (bp _ _ _ _).size)
        have cf0 : w1.cell? ⟨w.heap.size, 0, none⟩ = some (.slice a n ca) := cell_later hc (by simp [go_sem])
        have zf : w.heap.size < w1.heap.size := by omega
        have cl0 : w1.cell? ⟨w.heap.size + 1, 0, none⟩ = some (.int .i64 W) := cell_later hc (by simp [go_sem])
        have cl1 : w1.cell? ⟨w.heap.size + 1, 1, none⟩ = some (.bool C) := cell_later hc (by simp [go_sem])
        have cl2 : w1.cell? ⟨w.heap.size + 1, 2, none⟩ = some (.int .i64 S) := cell_later hc (by simp [go_sem])
        have zl : w.heap.size + 1 < w1.heap.size := by omega
        have cs0 : w1.cell? ⟨w.heap.size + 1 + 1, 0, none⟩ = some (.int .i64 L) := cell_later hc (by simp [go_sem])
        have cs1 : w1.cell? ⟨w.heap.size + 1 + 1, 1, none⟩ = some (.int .i64 R) := cell_later hc (by simp [go_sem])
        have zs : w.heap.size + 1 + 1 < w1.heap.size := by omega
        have cR0 : w1.cell? ⟨w.heap.size + 1 + 1 + 1, 0, none⟩ = some (.int .i64 0) := cell_later hc (by simp [go_sem])
        have fR0 : w1.frozen? ⟨w.heap.size + 1 + 1 + 1, 0, none⟩ = false := (hc.frozen (p := ⟨w.heap.size + 1 + 1 + 1, 0, none⟩) (by first | (simp; done) | (simp; omega))).trans (by simp [go_sem])
        have cR1 : w1.cell? ⟨w.heap.size + 1 + 1 + 1, 1, none⟩ = some (.int .i64 0) := cell_later hc (by simp [go_sem])
        have fR1 : w1.frozen? ⟨w.heap.size + 1 + 1 + 1, 1, none⟩ = false := (hc.frozen (p := ⟨w.heap.size + 1 + 1 + 1, 1, none⟩) (by first | (simp; done) | (simp; omega))).trans (by simp [go_sem])
        have cR2 : w1.cell? ⟨w.heap.size + 1 + 1 + 1, 2, none⟩ = some (.int .i64 0) := cell_later hc (by simp [go_sem])
        have fR2 : w1.frozen? ⟨w.heap.size + 1 + 1 + 1, 2, none⟩ = false := (hc.frozen (p := ⟨w.heap.size + 1 + 1 + 1, 2, none⟩) (by first | (simp; done) | (simp; omega))).trans (by simp [go_sem])
        have zR : w.heap.size + 1 + 1 + 1 < w1.heap.size := by omega
        replace hb := hb.trans (bq.mono hb.size)
        clear hc bq bp hbt
        go_wp2
        exact bodyPost_ret (v := .agg #[.int .i64 3, .int .i64 0, .int .i64 0]) (by simp [results, Tryd.results7, go_sem, cR0, cR1, cR2]) rfl ⟨rfl, (((hb.setCell (by first | omega | (simp; omega) | simp) _).setCell (by first | omega | (simp; omega) | simp) _).setCell (by first | omega | (simp; omega) | simp) _)⟩
  · have e1 : mvC xs W C S L R M = spotF xs W C S L R := by unfold mvC; rw [if_pos hF]
    have e2 : mvS xs W C S L R M = (0, 0) := by unfold mvS; rw [if_neg (by omega)]
    rw [e1, e2]
    generalize spotF xs W C S L R = F at *
    have HSF : Hid _ := SFt
    clear SFt e1 e2 hcm
    go_enter Tryd.func7, Tryd.ntmps7
    have hb : Below w.heap.size w w := Below.refl _ _
    go_wp2_with fail
    have bp : ∀ o0 o1 o2 o3, Below w.heap.size w ((((w.alloc o0).alloc o1).alloc o2).alloc o3) := fun o0 o1 o2 o3 => ((((Below.refl _ _).alloc (Nat.le_refl _) o0).alloc (by simp) o1).alloc (by simp; omega) o2).alloc (by simp; omega) o3
    have hbt : ∀ o0 o1 o2 o3, Below w.heap.size w ((((w.alloc o0).alloc o1).alloc o2).alloc o3) := fun o0 o1 o2 o3 => hb.trans ((bp o0 o1 o2 o3).mono hb.size)
    refine Calls.mono (HSF.out _ (ha.below (hbt _ _ _ _))) ?_
    rintro e w1 ⟨rfl, hc⟩
    have s1 : w.heap.size + 4 ≤ w1.heap.size := by have := hc.size; simp at this; omega
    have bq : Below w.heap.size w w1 := (bp _ _ _ _).trans (hc.mono (bp _ _ _ _).size)
    have cf0 : w1.cell? ⟨w.heap.size, 0, none⟩ = some (.slice a n ca) := cell_later hc (by simp [go_sem])
    have zf : w.heap.size < w1.heap.size := by omega
    have cl0 : w1.cell? ⟨w.heap.size + 1, 0, none⟩ = some (.int .i64 W) := cell_later hc (by simp [go_sem])
    have cl1 : w1.cell? ⟨w.heap.size + 1, 1, none⟩ = some (.bool C) := cell_later hc (by simp [go_sem])
    have cl2 : w1.cell? ⟨w.heap.size + 1, 2, none⟩ = some (.int .i64 S) := cell_later hc (by simp [go_sem])
    have zl : w.heap.size + 1 < w1.heap.size := by omega
    have cs0 : w1.cell? ⟨w.heap.size + 1 + 1, 0, none⟩ = some (.int .i64 L) := cell_later hc (by simp [go_sem])
    have cs1 : w1.cell? ⟨w.heap.size + 1 + 1, 1, none⟩ = some (.int .i64 R) := cell_later hc (by simp [go_sem])
    have zs : w.heap.size + 1 + 1 < w1.heap.size := by omega
    have cR0 : w1.cell? ⟨w.heap.size + 1 + 1 + 1, 0, none⟩ = some (.int .i64 0) := cell_later hc (by simp [go_sem])
    have fR0 : w1.frozen? ⟨w.heap.size + 1 + 1 + 1, 0, none⟩ = false := (hc.frozen (p := ⟨w.heap.size + 1 + 1 + 1, 0, none⟩) (by first | (simp; done) | (simp; omega))).trans (by simp [go_sem])
    have cR1 : w1.cell? ⟨w.heap.size + 1 + 1 + 1, 1, none⟩ = some (.int .i64 0) := cell_later hc (by simp [go_sem])
    have fR1 : w1.frozen? ⟨w.heap.size + 1 + 1 + 1, 1, none⟩ = false := (hc.frozen (p := ⟨w.heap.size + 1 + 1 + 1, 1, none⟩) (by first | (simp; done) | (simp; omega))).trans (by simp [go_sem])
    have cR2 : w1.cell? ⟨w.heap.size + 1 + 1 + 1, 2, none⟩ = some (.int .i64 0) := cell_later hc (by simp [go_sem])
    have fR2 : w1.frozen? ⟨w.heap.size + 1 + 1 + 1, 2, none⟩ = false := (hc.frozen (p := ⟨w.heap.size + 1 + 1 + 1, 2, none⟩) (by first | (simp; done) | (simp; omega))).trans (by simp [go_sem])
    have zR : w.heap.size + 1 + 1 + 1 < w1.heap.size := by omega
    replace hb := hb.trans (bq.mono hb.size)
    clear hc bq bp hbt
    go_wp2
    exact bodyPost_ret (v := .agg #[.int .i64 F, .int .i64 0, .int .i64 0]) (by simp [results, Tryd.results7, go_sem, cR0, cR1, cR2]) rfl ⟨rfl, (((hb.setCell (by first | omega | (simp; omega) | simp) _).setCell (by first | omega | (simp; omega) | simp) _).setCell (by first | omega | (simp; omega) | simp) _)⟩

theorem lt_at {cs : List Nat} {H : Int} (hpos : ∀ c ∈ cs, 1 ≤ c) (h1 : 1 ≤ H) : (spAll cs)[(max (((spAll cs).length : Int) - H) 0).toNat]? = some (if cs = [] then (0, 0) else spMove cs (lastSp cs) (1 - H)) := by
  by_cases he : cs = []
  · subst he
    rw [if_pos rfl]
    have e : spAll [] = [((0 : Int), (0 : Int))] := by simp [spAll, cs1, spots]
    rw [e]
    have : (max ((([((0 : Int), (0 : Int))].length : Nat) : Int) - H) 0).toNat = 0 := by simp; omega
    rw [this]; rfl
  · rw [if_neg he]
    have h := (spMove_at hpos (lastSp_at he hpos) (1 - H)).get
    have hl := (lastSp_at he hpos).len
    rw [show (max (((spAll cs).length : Int) - H) 0).toNat = (min (max ((((spAll cs).length - 1 : Nat) : Int) + (1 - H)) 0) (((spAll cs).length : Int) - 1)).toNat by omega]
    exact h

end Go.Proofs.YtjgmkcmlkffjlaaDoor