/-
  Chapter 10's specification: MoveSpot and LastTop.
-/
import Derived.Test.YtjgmkcmlkffjlaaDoorRow7
namespace Go.Proofs.YtjgmkcmlkffjlaaDoor
open Go.RowKit
set_option linter.unusedVariables false
set_option linter.unusedSimpArgs false

/-- what MoveSpot tells -/
def mvC (xs : List Int) (W : Int) (C : Bool) (S L R M : Int) : Int := if spotF xs W C S L R ≠ 0 then spotF xs W C S L R else if M < -9999 ∨ 9999 < M then 3 else 0
def mvS (xs : List Int) (W : Int) (C : Bool) (S L R M : Int) : Int × Int := if mvC xs W C S L R M = 0 then spMove (cnt C W xs) (L, R) M else (0, 0)
/-- what LastTop tells -/
def ltC (xs : List Int) (W : Int) (C : Bool) (S H : Int) : Int := if spBase xs.length W C S ≠ 0 then spBase xs.length W C S else if H < 1 ∨ 20 < H then 3 else 0
def lastSp (cs : List Nat) : Int × Int := if cs = [] then (0, 0) else (((cs.length - 1 : Nat) : Int), ((cs.getD (cs.length - 1) 0 : Nat) : Int) - 1)
def ltS (xs : List Int) (W : Int) (C : Bool) (S H : Int) : Int × Int := if ltC xs W C S H = 0 then (if cnt C W xs = [] then (0, 0) else spMove (cnt C W xs) (lastSp (cnt C W xs)) (1 - H)) else (0, 0)

theorem spIn_at {cs : List Nat} {L R : Int} (h : spIn cs L R = 0) : ∃ p, SpAt cs p (L, R) := by
  unfold spIn at h
  split at h
  · rename_i he
    split at h
    · rename_i hz
      obtain ⟨rfl, rfl⟩ := hz
      subst he
      exact ⟨0, 0, 0, 1, by simp, by simp [cs1], by omega, by simp [baseN]⟩
    · omega
  · rename_i he
    split at h
    · rename_i hz
      obtain ⟨h1, h2, h3, h4⟩ := hz
      obtain ⟨l, rfl⟩ : ∃ l : Nat, L = (l : Int) := ⟨L.toNat, by omega⟩
      obtain ⟨r, rfl⟩ : ∃ r : Nat, R = (r : Int) := ⟨R.toNat, by omega⟩
      rw [Int.toNat_natCast] at h4
      have hc : cs1 cs = cs := by simp [cs1, he]
      refine ⟨_, l, r, cs.getD l 0, rfl, ?_, by omega, rfl⟩
      rw [hc, List.getD_eq_getElem?_getD, List.getElem?_eq_getElem (by omega)]; rfl
    · omega
theorem sum_le {cs : List Nat} {m : Nat} (h : ∀ c ∈ cs, c ≤ m) : cs.sum ≤ cs.length * m := by
  induction cs with
  | nil => simp
  | cons c cs ih =>
    have := ih (fun d hd => h d (List.mem_cons_of_mem _ hd))
    have := h c (List.mem_cons_self ..)
    rw [List.sum_cons, List.length_cons, Nat.add_mul]; omega
theorem cnt_sum {C : Bool} {W : Int} {xs : List Int} (hB : Bytes xs) (hn : xs.length ≤ 400) (hW : 1 ≤ W) : (cs1 (cnt C W xs)).sum ≤ 1000000 := by
  unfold cs1
  split
  · simp
  · have h1 := sum_le (cnt_le (C := C) hB hn hW)
    have h2 := cnt_len C W xs
    have h3 := lns_len xs
    have : (cnt C W xs).length * 1601 ≤ 400 * 1601 := Nat.mul_le_mul_right _ (by omega)
    omega
theorem lastSp_at {cs : List Nat} (he : cs ≠ []) (hpos : ∀ c ∈ cs, 1 ≤ c) : SpAt cs ((spAll cs).length - 1) (lastSp cs) := by
  have hl : 0 < cs.length := List.length_pos_iff.2 he
  have hc : cs1 cs = cs := by simp [cs1, he]
  have hg : cs[cs.length - 1]? = some cs[cs.length - 1] := List.getElem?_eq_getElem (by omega)
  have hp := hpos _ (List.getElem_mem (show cs.length - 1 < cs.length by omega))
  have hgd : cs.getD (cs.length - 1) 0 = cs[cs.length - 1] := by rw [List.getD_eq_getElem?_getD, hg]; rfl
  refine ⟨cs.length - 1, cs[cs.length - 1] - 1, cs[cs.length - 1], ?_, by rw [hc]; exact hg, by omega, ?_⟩
  · unfold lastSp
    rw [if_neg he, hgd]
    refine Prod.ext rfl ?_
    simp; omega
  · rw [spAll_len, hc]
    have h1 := baseN_succ hg
    rw [show cs.length - 1 + 1 = cs.length by omega, baseN_len] at h1
    omega

set_option maxRecDepth 10000 in
set_option maxHeartbeats 3200000 in
theorem specMoveSpot_any (a : Option Addr) (n ca : Nat) (xs : List Int) (W S L R M : Int) (C : Bool) (w : World) (ha : Rd .u8 w a n xs) (hB : Bytes xs) (h1 : n ≤ 1073741824) (hca : n ≤ ca) (hcm : ca ≤ maxLen) :
    Calls Tryd.prog 8 #[.agg #[.slice a n ca], .agg #[.int .i64 W, .bool C, .int .i64 S], .agg #[.int .i64 L, .int .i64 R], .int .i64 M] w fun e w' => e = .returned (.agg #[.int .i64 (mvC xs W C S L R M), .int .i64 (mvS xs W C S L R M).1, .int .i64 (mvS xs W C S L R M).2]) ∧ Below w.heap.size w w' := by
  have hlen := ha.1
  have SP := fun w' hc c0 c1 c2 h => l10Spot_any w.heap.size (w.heap.size + 1) a n ca xs W S L R C w' hc c0 c1 c2 h hB h1 hca hcm
  by_cases hF : spotF xs W C S L R = 0
  · rw [hF] at SP
    have HSP : Hid _ := SP
    have IN := fun w' => (l1In_any M (-9999) 9999 w').mono (fun e w'' h => (⟨h.1, h.2 ▸ Below.refl _ _⟩ : e = .returned (.bool (decide (-9999 ≤ M ∧ M ≤ 9999))) ∧ Below w'.heap.size w' w''))
    by_cases hM : -9999 ≤ M ∧ M ≤ 9999
    · have e1 : mvC xs W C S L R M = 0 := by unfold mvC; rw [if_neg (by omega), if_neg (by omega)]
      have e2 : mvS xs W C S L R M = spMove (cnt C W xs) (L, R) M := by unfold mvS; rw [if_pos e1]
      rw [e1, e2]
      rw [decide_eq_true hM] at IN
      have hF2 := hF
      unfold spotF at hF2
      have hb0 : spBase xs.length W C S = 0 := by
        apply Classical.byContradiction; intro h; rw [if_pos h] at hF2; exact h hF2
      rw [if_neg (by omega)] at hF2
      obtain ⟨hn, hL⟩ := spBase_ok hb0
      obtain ⟨hW, hW2, hS, hS2, -⟩ := lyF_ok hL
      obtain ⟨p, hp⟩ := spIn_at hF2
      have CN := fun w' hc c0 c1 c2 h => l10Counts_any w.heap.size (w.heap.size + 1) a n ca xs W S C w' hc c0 c1 c2 h hB (by omega) hca hcm hW hW2
      have hcl := cnt_len C W xs
      have hll := lns_len xs
      have MV := fun A CA w' h => l10Move_any A (cnt C W xs).length CA (cnt C W xs) (L, R) p M w' h (by omega) (cnt_pos hW) (by have := cnt_sum (C := C) hB hn hW; omega) hp (by omega) (by omega)
      generalize spMove (cnt C W xs) (L, R) M = GG at *
      obtain ⟨G1, G2⟩ := GG
      simp only at MV ⊢
      generalize cnt C W xs = cs at *
      generalize hm : cs.length = m at *
      have HCN : Hid _ := CN
      have HIN : Hid _ := IN
      have HMV : Hid _ := MV
      clear SP IN CN MV e1 e2 hF hF2 hm hcm hL hp hcl hll hM hb0
      go_enter Tryd.func8, Tryd.ntmps8
      have hb : Below w.heap.size w w := Below.refl _ _
      go_wp2_with fail
      have bp : ∀ o0 o1 o2 o3, Below w.heap.size w ((((w.alloc o0).alloc o1).alloc o2).alloc o3) := fun o0 o1 o2 o3 => ((((Below.refl _ _).alloc (Nat.le_refl _) o0).alloc (by simp) o1).alloc (by simp; omega) o2).alloc (by simp; omega) o3
      have hbt : ∀ o0 o1 o2 o3, Below w.heap.size w ((((w.alloc o0).alloc o1).alloc o2).alloc o3) := fun o0 o1 o2 o3 => hb.trans ((bp o0 o1 o2 o3).mono hb.size)
      refine Calls.mono (HSP.out _ (by simp [go_sem]) (by simp [go_sem]) (by simp [go_sem]) (by simp [go_sem]) (ha.below (hbt _ _ _ _))) ?_
      rintro e w1 ⟨rfl, hc⟩
      have s1 : w.heap.size + 4 ≤ w1.heap.size := by have := hc.size; simp at this; omega
      have bq : Below w.heap.size w w1 := (bp _ _ _ _).trans (hc.mono (bp _ _ _ _).size)
      have cf0 : w1.cell? ⟨w.heap.size, 0, none⟩ = some (.slice a n ca) := cell_later hc (by simp [go_sem])
      have zf : w.heap.size < w1.heap.size := by omega
      have cl0 : w1.cell? ⟨w.heap.size + 1, 0, none⟩ = some (.int .i64 W) := cell_later hc (by simp [go_sem])
      have cl1 : w1.cell? ⟨w.heap.size + 1, 1, none⟩ = some (.bool C) := cell_later hc (by simp [go_sem])
      have cl2 : w1.cell? ⟨w.heap.size + 1, 2, none⟩ = some (.int .i64 S) := cell_later hc (by simp [go_sem])
      have zl : w.heap.size + 1 < w1.heap.size := by omega
      have cs0 : w1.cell? ⟨w.heap.size + 1 + 1, 0, none⟩ = some (.int .i64 L) := cell_later hc (by simp [go_sem])
      have cs1 : w1.cell? ⟨w.heap.size + 1 + 1, 1, none⟩ = some (.int .i64 R) := cell_later hc (by simp [go_sem])
      have zs : w.heap.size + 1 + 1 < w1.heap.size := by omega
      have cR0 : w1.cell? ⟨w.heap.size + 1 + 1 + 1, 0, none⟩ = some (.int .i64 0) := cell_later hc (by simp [go_sem])
      have fR0 : w1.frozen? ⟨w.heap.size + 1 + 1 + 1, 0, none⟩ = false := (hc.frozen (p := ⟨w.heap.size + 1 + 1 + 1, 0, none⟩) (by first | (simp; done) | (simp; omega))).trans (by simp [go_sem])
      have cR1 : w1.cell? ⟨w.heap.size + 1 + 1 + 1, 1, none⟩ = some (.int .i64 0) := cell_later hc (by simp [go_sem])
      have fR1 : w1.frozen? ⟨w.heap.size + 1 + 1 + 1, 1, none⟩ = false := (hc.frozen (p := ⟨w.heap.size + 1 + 1 + 1, 1, none⟩) (by first | (simp; done) | (simp; omega))).trans (by simp [go_sem])
      have cR2 : w1.cell? ⟨w.heap.size + 1 + 1 + 1, 2, none⟩ = some (.int .i64 0) := cell_later hc (by simp [go_sem])
      have fR2 : w1.frozen? ⟨w.heap.size + 1 + 1 + 1, 2, none⟩ = false := (hc.frozen (p := ⟨w.heap.size + 1 + 1 + 1, 2, none⟩) (by first | (simp; done) | (simp; omega))).trans (by simp [go_sem])
      have zR : w.heap.size + 1 + 1 + 1 < w1.heap.size := by omega
      replace hb := hb.trans (bq.mono hb.size)
      clear hc bq bp hbt
      go_wp2_with fail
      refine Calls.mono (HIN.out _) ?_
      rintro e w2 ⟨rfl, hc⟩
      have s2 : w1.heap.size ≤ w2.heap.size := hc.size
      have bq := hc
      replace cf0 := cell_later bq cf0
      replace zf := Nat.lt_of_lt_of_le zf bq.size
      replace cl0 := cell_later bq cl0
      replace cl1 := cell_later bq cl1
      replace cl2 := cell_later bq cl2
      replace zl := Nat.lt_of_lt_of_le zl bq.size
      replace cs0 := cell_later bq cs0
      replace cs1 := cell_later bq cs1
      replace zs := Nat.lt_of_lt_of_le zs bq.size
      replace cR0 := cell_later bq cR0
      replace fR0 := (bq.frozen (p := ⟨w.heap.size + 1 + 1 + 1, 0, none⟩) zR).trans fR0
      replace cR1 := cell_later bq cR1
      replace fR1 := (bq.frozen (p := ⟨w.heap.size + 1 + 1 + 1, 1, none⟩) zR).trans fR1
      replace cR2 := cell_later bq cR2
      replace fR2 := (bq.frozen (p := ⟨w.heap.size + 1 + 1 + 1, 2, none⟩) zR).trans fR2
      replace zR := Nat.lt_of_lt_of_le zR bq.size
      replace hb := hb.trans (bq.mono hb.size)
      clear hc bq
      go_wp2_with fail
      have bd : Below w2.heap.size w2 w2.drew := (Below.refl _ _).drew
      refine wp_region_held_drew (S := fun w' => Below w.heap.size w w' ∧ w'.cell? ⟨w.heap.size + 1 + 1, 0, none⟩ = some (.int .i64 L) ∧ w'.cell? ⟨w.heap.size + 1 + 1, 1, none⟩ = some (.int .i64 R)) (by kernel_rfl) ⟨(hb.trans (bd.mono hb.size)), cell_later bd cs0, cell_later bd cs1⟩ (fun hS => ?_)
      obtain ⟨D2, hD⟩ : ∃ D, w2.drew = D := ⟨_, rfl⟩
      rw [hD] at hS bd ⊢
      have hc := bd
      clear hD bd
      have s3 : w2.heap.size ≤ D2.heap.size := hc.size
      have bq := hc
      replace cf0 := cell_later bq cf0
      replace zf := Nat.lt_of_lt_of_le zf bq.size
      replace cl0 := cell_later bq cl0
      replace cl1 := cell_later bq cl1
      replace cl2 := cell_later bq cl2
      replace zl := Nat.lt_of_lt_of_le zl bq.size
      replace cs0 := cell_later bq cs0
      replace cs1 := cell_later bq cs1
      replace zs := Nat.lt_of_lt_of_le zs bq.size
      replace cR0 := cell_later bq cR0
      replace fR0 := (bq.frozen (p := ⟨w.heap.size + 1 + 1 + 1, 0, none⟩) zR).trans fR0
      replace cR1 := cell_later bq cR1
      replace fR1 := (bq.frozen (p := ⟨w.heap.size + 1 + 1 + 1, 1, none⟩) zR).trans fR1
      replace cR2 := cell_later bq cR2
      replace fR2 := (bq.frozen (p := ⟨w.heap.size + 1 + 1 + 1, 2, none⟩) zR).trans fR2
      replace zR := Nat.lt_of_lt_of_le zR bq.size
      replace hb := hb.trans (bq.mono hb.size)
      clear hc bq
      refine wpAnyH_take (i := 1) (v := (.agg #[.int .i64 L, .int .i64 R])) rfl (by as_aux_lemma => kernel_rfl) (by as_aux_lemma => kernel_rfl) (by as_aux_lemma => kernel_rfl) (fun _ _ _ h => h) (Or.inl ⟨by kernel_rfl, ?_⟩) hS ?_
      · intro w hSw; (try dsimp only at hSw); obtain ⟨hSb, hl0, hl1⟩ := hSw; go_simp
      (try simp only [Act.put, List.getElem_toArray, List.getElem_cons_zero, List.getElem_cons_succ, List.setIfInBounds_toArray, List.set_cons_zero, List.set_cons_succ])
      refine wpAnyH_take (i := 2) (v := (.int .i64 M)) rfl (by as_aux_lemma => kernel_rfl) (by as_aux_lemma => kernel_rfl) (by as_aux_lemma => kernel_rfl) (fun _ _ _ h => h) (Or.inl ⟨by kernel_rfl, ?_⟩) hS ?_
      · intro w hSw; (try dsimp only at hSw); go_simp
      (try simp only [Act.put, List.getElem_toArray, List.getElem_cons_zero, List.getElem_cons_succ, List.setIfInBounds_toArray, List.set_cons_zero, List.set_cons_succ])
      refine wpAnyH_ready (rs := [0]) (by as_aux_lemma => kernel_rfl) (by simp) ?_
      refine AllReadyH.cons rfl (fun K hK => ?_) AllReadyH.nil
      go_simp
      refine Calls.mono (HCN.out _ cf0 cl0 cl1 cl2 (ha.below hb)) ?_
      rintro e w4 ⟨v2, rfl, r2, hc⟩
      obtain ⟨a2, k2, rfl, -⟩ := r2.shape
      have s4 : D2.heap.size ≤ w4.heap.size := hc.size
      have bq := hc
      replace cf0 := cell_later bq cf0
      replace zf := Nat.lt_of_lt_of_le zf bq.size
      replace cl0 := cell_later bq cl0
      replace cl1 := cell_later bq cl1
      replace cl2 := cell_later bq cl2
      replace zl := Nat.lt_of_lt_of_le zl bq.size
      replace cs0 := cell_later bq cs0
      replace cs1 := cell_later bq cs1
      replace zs := Nat.lt_of_lt_of_le zs bq.size
      replace cR0 := cell_later bq cR0
      replace fR0 := (bq.frozen (p := ⟨w.heap.size + 1 + 1 + 1, 0, none⟩) zR).trans fR0
      replace cR1 := cell_later bq cR1
      replace fR1 := (bq.frozen (p := ⟨w.heap.size + 1 + 1 + 1, 1, none⟩) zR).trans fR1
      replace cR2 := cell_later bq cR2
      replace fR2 := (bq.frozen (p := ⟨w.heap.size + 1 + 1 + 1, 2, none⟩) zR).trans fR2
      replace zR := Nat.lt_of_lt_of_le zR bq.size
      replace hb := hb.trans (bq.mono hb.size)
      clear hc bq
      refine hK.out _ _ (⟨hb, cs0, cs1⟩) (fun hS => ?_)
      clear hK K
      (try simp only [Act.put, List.getElem_toArray, List.getElem_cons_zero, List.getElem_cons_succ, List.setIfInBounds_toArray, List.set_cons_zero, List.set_cons_succ])
      refine wpAnyH_ready (rs := [3]) (by as_aux_lemma => kernel_rfl) (by simp) ?_
      refine AllReadyH.cons rfl (fun K hK => ?_) AllReadyH.nil
      go_simp
      refine Calls.mono (HMV.out a2 k2 _ r2.read) ?_
      rintro e w5 ⟨rfl, hc⟩
      have s5 : w4.heap.size ≤ w5.heap.size := hc.size
      have bq := hc
      replace cf0 := cell_later bq cf0
      replace zf := Nat.lt_of_lt_of_le zf bq.size
      replace cl0 := cell_later bq cl0
      replace cl1 := cell_later bq cl1
      replace cl2 := cell_later bq cl2
      replace zl := Nat.lt_of_lt_of_le zl bq.size
      replace cs0 := cell_later bq cs0
      replace cs1 := cell_later bq cs1
      replace zs := Nat.lt_of_lt_of_le zs bq.size
      replace cR0 := cell_later bq cR0
      replace fR0 := (bq.frozen (p := ⟨w.heap.size + 1 + 1 + 1, 0, none⟩) zR).trans fR0
      replace cR1 := cell_later bq cR1
      replace fR1 := (bq.frozen (p := ⟨w.heap.size + 1 + 1 + 1, 1, none⟩) zR).trans fR1
      replace cR2 := cell_later bq cR2
      replace fR2 := (bq.frozen (p := ⟨w.heap.size + 1 + 1 + 1, 2, none⟩) zR).trans fR2
      replace zR := Nat.lt_of_lt_of_le zR bq.size
      replace hb := hb.trans (bq.mono hb.size)
      clear hc bq
      refine hK.out _ _ (⟨hb, cs0, cs1⟩) (fun hS => ?_)
      clear hK K
      (try simp only [Act.put, List.getElem_toArray, List.getElem_cons_zero, List.getElem_cons_succ, List.setIfInBounds_toArray, List.set_cons_zero, List.set_cons_succ])
      refine wpAnyH_take (i := 4) (v := (.agg #[.int .i64 0, .int .i64 G1, .int .i64 G2])) rfl (by as_aux_lemma => kernel_rfl) (by as_aux_lemma => kernel_rfl) (by as_aux_lemma => kernel_rfl) (fun _ _ _ h => h) (Or.inl ⟨by kernel_rfl, ?_⟩) hS ?_
      · intro w hSw; (try dsimp only at hSw); go_simp
      (try simp only [Act.put, List.getElem_toArray, List.getElem_cons_zero, List.getElem_cons_succ, List.setIfInBounds_toArray, List.set_cons_zero, List.set_cons_succ])
      refine wpAnyH_ready (rs := [5]) (by as_aux_lemma => kernel_rfl) (by simp) ?_
      refine AllReadyH.cons rfl (fun K hK => ?_) AllReadyH.nil
      go_simp
      refine hK.out _ _ (⟨(((hb.setCell (by first | omega | (simp; omega) | simp) _).setCell (by first | omega | (simp; omega) | simp) _).setCell (by first | omega | (simp; omega) | simp) _), (cell_set1 (cell_set1 (cell_set1 cs0 (by omega)) (by omega)) (by omega)), (cell_set1 (cell_set1 (cell_set1 cs1 (by omega)) (by omega)) (by omega))⟩) (fun hS => ?_)
      clear hK K
      (try simp only [Act.put, List.getElem_toArray, List.getElem_cons_zero, List.getElem_cons_succ, List.setIfInBounds_toArray, List.set_cons_zero, List.set_cons_succ])
      refine wpAnyH_done (by kernel_rfl) ?_ _
      clear hS
      go_wp2
      exact bodyPost_ret (v := .agg #[.int .i64 0, .int .i64 G1, .int .i64 G2]) (by simp [results, Tryd.results8, go_sem, cR0, cR1, cR2]) rfl ⟨rfl, (((hb.setCell (by first | omega | (simp; omega) | simp) _).setCell (by first | omega | (simp; omega) | simp) _).setCell (by first | omega | (simp; omega) | simp) _)⟩
    · have e1 : mvC xs W C S L R M = 3 := by unfold mvC; rw [if_neg (by omega), if_pos (by omega)]
      have e2 : mvS xs W C S L R M = (0, 0) := by unfold mvS; rw [if_neg (by omega)]
      rw [e1, e2]
      rw [decide_eq_false hM] at IN
      have HIN : Hid _ := IN
      clear SP IN e1 e2 hF hM hcm
      go_enter Tryd.func8, Tryd.ntmps8
      have hb : Below w.heap.size w w := Below.refl _ _
      go_wp2_with fail
      have bp : ∀ o0 o1 o2 o3, Below w.heap.size w ((((w.alloc o0).alloc o1).alloc o2).alloc o3) := fun o0 o1 o2 o3 => ((((Below.refl _ _).alloc (Nat.le_refl _) o0).alloc (by simp) o1).alloc (by simp; omega) o2).alloc (by simp; omega) o3
      have hbt : ∀ o0 o1 o2 o3, Below w.heap.size w ((((w.alloc o0).alloc o1).alloc o2).alloc o3) := fun o0 o1 o2 o3 => hb.trans ((bp o0 o1 o2 o3).mono hb.size)
      refine Calls.mono (HSP.out _ (by simp [go_sem]) (by simp [go_sem]) (by simp [go_sem]) (by simp [go_sem]) (ha.below (hbt _ _ _ _))) ?_
      rintro e w1 ⟨rfl, hc⟩
      have s1 : w.heap.size + 4 ≤ w1.heap.size := by have := hc.size; simp at this; omega
      have bq : Below w.heap.size w w1 := (bp _ _ _ _).trans (hc.mono (bp _ _ _ _).size)
      have cf0 : w1.cell? ⟨w.heap.size, 0, none⟩ = some (.slice a n ca) := cell_later hc (by simp [go_sem])
      have zf : w.heap.size < w1.heap.size := by omega
      have cl0 : w1.cell? ⟨w.heap.size + 1, 0, none⟩ = some (.int .i64 W) := cell_later hc (by simp [go_sem])
      have cl1 : w1.cell? ⟨w.heap.size + 1, 1, none⟩ = some (.bool C) := cell_later hc (by simp [go_sem])
      have cl2 : w1.cell? ⟨w.heap.size + 1, 2, none⟩ = some (.int .i64 S) := cell_later hc (by simp [go_sem])
      have zl : w.heap.size + 1 < w1.heap.size := by omega
      have cs0 : w1.cell? ⟨w.heap.size + 1 + 1, 0, none⟩ = some (.int .i64 L) := cell_later hc (by simp [go_sem])
      have cs1 : w1.cell? ⟨w.heap.size + 1 + 1, 1, none⟩ = some (.int .i64 R) := cell_later hc (by simp [go_sem])
      have zs : w.heap.size + 1 + 1 < w1.heap.size := by omega
      have cR0 : w1.cell? ⟨w.heap.size + 1 + 1 + 1, 0, none⟩ = some (.int .i64 0) := cell_later hc (by simp [go_sem])
      have fR0 : w1.frozen? ⟨w.heap.size + 1 + 1 + 1, 0, none⟩ = false := (hc.frozen (p := ⟨w.heap.size + 1 + 1 + 1, 0, none⟩) (by first | (simp; done) | (simp; omega))).trans (by simp [go_sem])
      have cR1 : w1.cell? ⟨w.heap.size + 1 + 1 + 1, 1, none⟩ = some (.int .i64 0) := cell_later hc (by simp [go_sem])
      have fR1 : w1.frozen? ⟨w.heap.size + 1 + 1 + 1, 1, none⟩ = false := (hc.frozen (p := ⟨w.heap.size + 1 + 1 + 1, 1, none⟩) (by first | (simp; done) | (simp; omega))).trans (by simp [go_sem])
      have cR2 : w1.cell? ⟨w.heap.size + 1 + 1 + 1, 2, none⟩ = some (.int .i64 0) := cell_later hc (by simp [go_sem])
      have fR2 : w1.frozen? ⟨w.heap.size + 1 + 1 + 1, 2, none⟩ = false := (hc.frozen (p := ⟨w.heap.size + 1 + 1 + 1, 2, none⟩) (by first | (simp; done) | (simp; omega))).trans (by simp [go_sem])
      have zR : w.heap.size + 1 + 1 + 1 < w1.heap.size := by omega
      replace hb := hb.trans (bq.mono hb.size)
      clear hc bq bp hbt
      go_wp2_with fail
      refine Calls.mono (HIN.out _) ?_
      rintro e w2 ⟨rfl, hc⟩
      have s2 : w1.heap.size ≤ w2.heap.size := hc.size
      have bq := hc
      replace cf0 := cell_later bq cf0
      replace zf := Nat.lt_of_lt_of_le zf bq.size
      replace cl0 := cell_later bq cl0
      replace cl1 := cell_later bq cl1
      replace cl2 := cell_later bq cl2
      replace zl := Nat.lt_of_lt_of_le zl bq.size
      replace cs0 := cell_later bq cs0
      replace cs1 := cell_later bq cs1
      replace zs := Nat.lt_of_lt_of_le zs bq.size
      replace cR0 := cell_later bq cR0
      replace fR0 := (bq.frozen (p := ⟨w.heap.size + 1 + 1 + 1, 0, none⟩) zR).trans fR0
      replace cR1 := cell_later bq cR1
      replace fR1 := (bq.frozen (p := ⟨w.heap.size + 1 + 1 + 1, 1, none⟩) zR).trans fR1
      replace cR2 := cell_later bq cR2
      replace fR2 := (bq.frozen (p := ⟨w.heap.size + 1 + 1 + 1, 2, none⟩) zR).trans fR2
      replace zR := Nat.lt_of_lt_of_le zR bq.size
      replace hb := hb.trans (bq.mono hb.size)
      clear hc bq
      go_wp2
      exact bodyPost_ret (v := .agg #[.int .i64 3, .int .i64 0, .int .i64 0]) (by simp [results, Tryd.results8, go_sem, cR0, cR1, cR2]) rfl ⟨rfl, (((hb.setCell (by first | omega | (simp; omega) | simp) _).setCell (by first | omega | (simp; omega) | simp) _).setCell (by first | omega | (simp; omega) | simp) _)⟩
  · have e1 : mvC xs W C S L R M = spotF xs W C S L R := by unfold mvC; rw [if_pos hF]
    have e2 : mvS xs W C S L R M = (0, 0) := by unfold mvS; rw [if_neg (by omega)]
    rw [e1, e2]
    generalize spotF xs W C S L R = F at *
    have HSP : Hid _ := SP
    clear SP e1 e2 hcm
    go_enter Tryd.func8, Tryd.ntmps8
    have hb : Below w.heap.size w w := Below.refl _ _
    go_wp2_with fail
    have bp : ∀ o0 o1 o2 o3, Below w.heap.size w ((((w.alloc o0).alloc o1).alloc o2).alloc o3) := fun o0 o1 o2 o3 => ((((Below.refl _ _).alloc (Nat.le_refl _) o0).alloc (by simp) o1).alloc (by simp; omega) o2).alloc (by simp; omega) o3
    have hbt : ∀ o0 o1 o2 o3, Below w.heap.size w ((((w.alloc o0).alloc o1).alloc o2).alloc o3) := fun o0 o1 o2 o3 => hb.trans ((bp o0 o1 o2 o3).mono hb.size)
    refine Calls.mono (HSP.out _ (by simp [go_sem]) (by simp [go_sem]) (by simp [go_sem]) (by simp [go_sem]) (ha.below (hbt _ _ _ _))) ?_
    rintro e w1 ⟨rfl, hc⟩
    have s1 : w.heap.size + 4 ≤ w1.heap.size := by have := hc.size; simp at this; omega
    have bq : Below w.heap.size w w1 := (bp _ _ _ _).trans (hc.mono (bp _ _ _ _).size)
    have cf0 : w1.cell? ⟨w.heap.size, 0, none⟩ = some (.slice a n ca) := cell_later hc (by simp [go_sem])
    have zf : w.heap.size < w1.heap.size := by omega
    have cl0 : w1.cell? ⟨w.heap.size + 1, 0, none⟩ = some (.int .i64 W) := cell_later hc (by simp [go_sem])
    have cl1 : w1.cell? ⟨w.heap.size + 1, 1, none⟩ = some (.bool C) := cell_later hc (by simp [go_sem])
    have cl2 : w1.cell? ⟨w.heap.size + 1, 2, none⟩ = some (.int .i64 S) := cell_later hc (by simp [go_sem])
    have zl : w.heap.size + 1 < w1.heap.size := by omega
    have cs0 : w1.cell? ⟨w.heap.size + 1 + 1, 0, none⟩ = some (.int .i64 L) := cell_later hc (by simp [go_sem])
    have cs1 : w1.cell? ⟨w.heap.size + 1 + 1, 1, none⟩ = some (.int .i64 R) := cell_later hc (by simp [go_sem])
    have zs : w.heap.size + 1 + 1 < w1.heap.size := by omega
    have cR0 : w1.cell? ⟨w.heap.size + 1 + 1 + 1, 0, none⟩ = some (.int .i64 0) := cell_later hc (by simp [go_sem])
    have fR0 : w1.frozen? ⟨w.heap.size + 1 + 1 + 1, 0, none⟩ = false := (hc.frozen (p := ⟨w.heap.size + 1 + 1 + 1, 0, none⟩) (by first | (simp; done) | (simp; omega))).trans (by simp [go_sem])
    have cR1 : w1.cell? ⟨w.heap.size + 1 + 1 + 1, 1, none⟩ = some (.int .i64 0) := cell_later hc (by simp [go_sem])
    have fR1 : w1.frozen? ⟨w.heap.size + 1 + 1 + 1, 1, none⟩ = false := (hc.frozen (p := ⟨w.heap.size + 1 + 1 + 1, 1, none⟩) (by first | (simp; done) | (simp; omega))).trans (by simp [go_sem])
    have cR2 : w1.cell? ⟨w.heap.size + 1 + 1 + 1, 2, none⟩ = some (.int .i64 0) := cell_later hc (by simp [go_sem])
    have fR2 : w1.frozen? ⟨w.heap.size + 1 + 1 + 1, 2, none⟩ = false := (hc.frozen (p := ⟨w.heap.size + 1 + 1 + 1, 2, none⟩) (by first | (simp; done) | (simp; omega))).trans (by simp [go_sem])
    have zR : w.heap.size + 1 + 1 + 1 < w1.heap.size := by omega
    replace hb := hb.trans (bq.mono hb.size)
    clear hc bq bp hbt
    go_wp2
    exact bodyPost_ret (v := .agg #[.int .i64 F, .int .i64 0, .int .i64 0]) (by simp [results, Tryd.results8, go_sem, cR0, cR1, cR2]) rfl ⟨rfl, (((hb.setCell (by first | omega | (simp; omega) | simp) _).setCell (by first | omega | (simp; omega) | simp) _).setCell (by first | omega | (simp; omega) | simp) _)⟩

end Go.Proofs.YtjgmkcmlkffjlaaDoor