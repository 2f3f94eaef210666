/-
  Chapter 5: the program's text of a tree: the whole.
-/
import Derived.Test.YtjjapnggdfiinaaNode8f0
namespace Go.Proofs.Ytjjapnggdfiinaa
open Go.RowKit
set_option linter.unusedVariables false
set_option linter.unusedSimpArgs false

set_option maxHeartbeats 3200000 in
set_option maxRecDepth 20000 in
theorem textOfTree_any (a : Option Addr) (n ca : Nat) (cs : List Nd) (bs : List Int) (hb : Beg cs cs.length bs) (hlen : cs.length = n) (h24 : n ≤ 24) (i : Nat) (hi : i < n) : ∀ (w : World), RdR ndE 5 w a n cs →
    Calls Try.prog 42 #[.slice a n ca, .int .i64 i] w fun e w' => e = .returned (.string (txtV cs i).1) ∧ Below w.heap.size w w' := by
  induction i using Nat.strongRecOn with
  | ind i ih =>
    intro w ha
    obtain ⟨b, off, x, rfl, hx, hc⟩ := ha.at hi
    obtain ⟨c0, c1, c2, c3, c4⟩ := five hc
    have hil : i < cs.length := by omega
    have hat := hb.at_ i x hil hx
    have hf := hat.1.1
    have hlt : (i : Int) < (n : Int) := by omega
    have W : ∀ (p : Int) (right : Bool), 0 ≤ p → p.toNat < i → 8 ≤ x.k ∧ x.k ≤ 12 → (x.k = 11 ∨ x.k = 12 → decide (p = x.r) = right) → ∀ w', RdR ndE 5 w' (some ⟨b, off, none⟩) n cs →
        Calls Try.prog 72 #[.agg #[.int .i64 x.k, .int .i64 x.c, .string x.s, .int .i64 x.l, .int .i64 x.r], .slice (some ⟨b, off, none⟩) n ca, .int .i64 p] w' fun e w'' => e = .returned (.string (wrapT x.k right (txtV cs p.toNat))) ∧ Below w'.heap.size w' w'' := by
      intro p right hp hpi hup hri w' h'
      obtain ⟨b', off', y, e', hy, _⟩ := h'.at (show p.toNat < n by omega)
      have hz := pow_bd (by omega) (txtV_size hb p.toNat (by omega))
      have h := textWithin_any x (some ⟨b, off, none⟩) n ca cs p.toNat y (txtV cs p.toNat).1 right w' h' hy (by omega) (by omega) hup (by rw [Int.toNat_of_nonneg hp]; exact hri) (by omega) (fun w'' h'' => ih p.toNat hpi (by omega) w'' h'')
      rw [Int.toNat_of_nonneg hp] at h
      have e3 : ((txtV cs p.toNat).1, y.k) = txtV cs p.toNat := by rw [← txtV_kind hb hy]
      rw [e3] at h
      exact h
    have L : 8 ≤ x.k → 0 ≤ x.l ∧ x.l.toNat < i := fun h8 => by
      by_cases h2 : x.k = 11 ∨ x.k = 12
      · have := hb.two hil hx h2; omega
      · have := hb.one hil hx (by omega); omega
    have Rr : 11 ≤ x.k → 0 ≤ x.r ∧ x.r.toNat < i := fun h8 => by
      have := hb.two hil hx (by omega); omega
    have Lr : x.k = 11 ∨ x.k = 12 → decide (x.l = x.r) = false := fun h8 => decide_eq_false (by have := hb.two hil hx h8; omega)
    have ZL : ∀ (p : Int) (up : Int) (right : Bool), 0 ≤ p → p.toNat < i → (wrapT up right (txtV cs p.toNat)).size ≤ 4900000000000 := fun p up right hp hpi => by
      have h1 := pow_bd (by omega) (txtV_size hb p.toNat (by omega))
      have h2 := wrapT_size up right (txtV cs p.toNat)
      omega
    have hrange := hat.2.1
    have hT := txtV_at hb hx
    have hk12 : x.k = 1 ∨ x.k = 2 ∨ x.k = 3 ∨ x.k = 4 ∨ x.k = 5 ∨ x.k = 6 ∨ x.k = 7 ∨ x.k = 8 ∨ x.k = 9 ∨ x.k = 10 ∨ x.k = 11 ∨ x.k = 12 := by omega
    have BR := Below.refl w.heap.size w
    have B1 : ∀ o, Below w.heap.size w (w.alloc o) := fun o => BR.alloc (Nat.le_refl _) o
    rcases hk12 with hk | hk | hk | hk | hk | hk | hk | hk | hk | hk | hk | hk
    · rw [hT, txtF_1 hk]
      clear hT hrange W L Rr Lr ZL ih hat hc hx
      obtain ⟨k', c', s', l', r'⟩ := x
      simp only at c0 c1 c2 c3 c4 hk
      subst hk
      go_enter Try.func42, Try.ntmps42
      go_wp2
      go_ret
      exact ⟨rfl, B1 _⟩
    · rw [hT, txtF_2 hk]
      unfold rangeB at hrange
      rw [if_pos hk] at hrange
      have hcr : 32 ≤ x.c ∧ x.c ≤ 126 := by simpa using hrange
      clear hT hrange W L Rr Lr ZL ih hat hc hx
      obtain ⟨k', c', s', l', r'⟩ := x
      simp only at c0 c1 c2 c3 c4 hk hcr ⊢
      subst hk
      have hblt : b < w.heap.size := block_lt_of_cell c0
      have hwr : IntKind.u8.wrap c' = c' := by rw [IntKind.wrap_u8]; omega
      have hcv : ∀ w' : World, (convert 22 9 (.slice (some ⟨w'.heap.size, 0, none⟩) 1 1)).run Try.prog (w'.alloc (.cells #[.int .u8 c'] 5)) = .ok (.string (strOf [c'])) (w'.alloc (.cells #[.int .u8 c'] 5)) := fun w' => conv_str (P := Try.prog) (S := 22) (D := 9) (cap := 1) (lit5_rd (k := .u8) (e := 5) w' [c'] 1 rfl (by simp [maxLen])) Try.underlying22 Try.underlying5 Try.underlying9
      have hcv2 := fun o => hcv (w.alloc o)
      simp only [World.size_alloc] at hcv2
      have CS : Hid _ := fun w' => withSlashes_any (strOf [c']) sg12 w' (by show 1 ≤ 1048576; omega)
      unfold charT
      generalize hU : slash sg12 (strOf [c']) = U at CS ⊢
      clear hU
      unfold sg12 at CS
      generalize strOf [c'] = T at hcv hcv2 CS
      go_enter Try.func42, Try.ntmps42
      go_wp2_with fail
      refine (CS.out _).mono ?_
      rintro e w2 ⟨rfl, hb2⟩
      go_wp2
      go_ret
      exact ⟨rfl, (((B1 _).alloc (by simp) _).trans (hb2.mono (by simp; omega)))⟩
    · rw [hT, txtF_3 hk]
      clear hT hrange W L Rr Lr ZL ih hat hc hx
      obtain ⟨k', c', s', l', r'⟩ := x
      simp only at c0 c1 c2 c3 c4 hk
      subst hk
      go_enter Try.func42, Try.ntmps42
      go_wp2
      go_ret
      exact ⟨rfl, B1 _⟩
    · rw [hT, txtF_4 hk]
      have hss : x.s.size ≤ 20 := by
        unfold rangeB at hrange
        rw [if_neg (by omega), if_pos (by omega)] at hrange
        unfold setB at hrange
        simp at hrange
        omega
      have hsl := slash_size sg3 x.s
      have CL : Hid _ := fun w' => withSlashes_any x.s sg3 w' (by omega)
      clear hT hrange W L Rr Lr ZL ih hat hc hx
      obtain ⟨k', c', s', l', r'⟩ := x
      simp only at c0 c1 c2 c3 c4 hk hss hsl CL ⊢
      subst hk
      generalize hU : slash sg3 s' = T at CL hsl ⊢
      clear hU
      unfold sg3 at CL
      go_enter Try.func42, Try.ntmps42
      go_wp2_with fail
      refine (CL.out _).mono ?_
      rintro e w2 ⟨rfl, hb2⟩
      go_wp2
      go_ret
      exact ⟨rfl, (B1 _).trans (hb2.mono (by simp))⟩
    · rw [hT, txtF_5 hk]
      have hss : x.s.size ≤ 20 := by
        unfold rangeB at hrange
        rw [if_neg (by omega), if_pos (by omega)] at hrange
        unfold setB at hrange
        simp at hrange
        omega
      have hsl := slash_size sg3 x.s
      have CL : Hid _ := fun w' => withSlashes_any x.s sg3 w' (by omega)
      clear hT hrange W L Rr Lr ZL ih hat hc hx
      obtain ⟨k', c', s', l', r'⟩ := x
      simp only at c0 c1 c2 c3 c4 hk hss hsl CL ⊢
      subst hk
      generalize hU : slash sg3 s' = T at CL hsl ⊢
      clear hU
      unfold sg3 at CL
      go_enter Try.func42, Try.ntmps42
      go_wp2_with fail
      refine (CL.out _).mono ?_
      rintro e w2 ⟨rfl, hb2⟩
      go_wp2
      go_ret
      exact ⟨rfl, (B1 _).trans (hb2.mono (by simp))⟩
    · rw [hT, txtF_6 hk]
      clear hT hrange W L Rr Lr ZL ih hat hc hx
      obtain ⟨k', c', s', l', r'⟩ := x
      simp only at c0 c1 c2 c3 c4 hk
      subst hk
      go_enter Try.func42, Try.ntmps42
      go_wp2
      go_ret
      exact ⟨rfl, B1 _⟩
    · rw [hT, txtF_7 hk]
      clear hT hrange W L Rr Lr ZL ih hat hc hx
      obtain ⟨k', c', s', l', r'⟩ := x
      simp only at c0 c1 c2 c3 c4 hk
      subst hk
      go_enter Try.func42, Try.ntmps42
      go_wp2
      go_ret
      exact ⟨rfl, B1 _⟩
    · rw [hT, txtF_8 hk]
      have HWL : Hid _ := W x.l false (L (by omega)).1 (L (by omega)).2 (by omega) (fun h => by omega)
      have hzl := ZL x.l 8 false (L (by omega)).1 (L (by omega)).2
      clear hT hrange W L Rr Lr ZL ih hat hc hx
      have HA : Hid (RdR ndE 5 w (some ⟨b, off, none⟩) n cs) := ha
      clear ha
      obtain ⟨k', c', s', l', r'⟩ := x
      simp only at c0 c1 c2 c3 c4 hk HWL hzl ⊢
      subst hk
      generalize wrapT 8 false (txtV cs l'.toNat) = T at HWL hzl ⊢
      have d0 : (w.alloc (Obj.cells #[Value.int .i64 8, Value.int .i64 c', Value.string s', Value.int .i64 l', Value.int .i64 r'] 48)).cell? ⟨w.heap.size, 0, none⟩ = some (.int .i64 8) := by simp
      have d1 : (w.alloc (Obj.cells #[Value.int .i64 8, Value.int .i64 c', Value.string s', Value.int .i64 l', Value.int .i64 r'] 48)).cell? ⟨w.heap.size, 1, none⟩ = some (.int .i64 c') := by simp
      have d2 : (w.alloc (Obj.cells #[Value.int .i64 8, Value.int .i64 c', Value.string s', Value.int .i64 l', Value.int .i64 r'] 48)).cell? ⟨w.heap.size, 2, none⟩ = some (.string s') := by simp
      have d3 : (w.alloc (Obj.cells #[Value.int .i64 8, Value.int .i64 c', Value.string s', Value.int .i64 l', Value.int .i64 r'] 48)).cell? ⟨w.heap.size, 3, none⟩ = some (.int .i64 l') := by simp
      have d4 : (w.alloc (Obj.cells #[Value.int .i64 8, Value.int .i64 c', Value.string s', Value.int .i64 l', Value.int .i64 r'] 48)).cell? ⟨w.heap.size, 4, none⟩ = some (.int .i64 r') := by simp
      have hb9 := B1 (Obj.cells #[Value.int .i64 8, Value.int .i64 c', Value.string s', Value.int .i64 l', Value.int .i64 r'] 48)
      go_enter Try.func42, Try.ntmps42
      go_wp2_with fail
      generalize w.alloc (Obj.cells #[Value.int .i64 8, Value.int .i64 c', Value.string s', Value.int .i64 l', Value.int .i64 r'] 48) = w9 at d0 d1 d2 d3 d4 hb9 ⊢
      refine wp_region_held_drew (S := fun w' => w'.cell? ⟨w.heap.size, 0, none⟩ = some (.int .i64 8) ∧ w'.cell? ⟨w.heap.size, 1, none⟩ = some (.int .i64 (c')) ∧ w'.cell? ⟨w.heap.size, 2, none⟩ = some (.string s') ∧ w'.cell? ⟨w.heap.size, 3, none⟩ = some (.int .i64 (l')) ∧ w'.cell? ⟨w.heap.size, 4, none⟩ = some (.int .i64 (r')) ∧ Below w9.heap.size w9 w') (by kernel_rfl) (by exact ⟨d0, d1, d2, d3, d4, (Below.refl _ _).drew⟩) (fun hS => ?_)
      refine wpAnyH_take (i := 0) (v := (.agg #[.int .i64 8, .int .i64 c', .string s', .int .i64 l', .int .i64 r'])) rfl (by as_aux_lemma => kernel_rfl) (by as_aux_lemma => kernel_rfl) (by as_aux_lemma => kernel_rfl) (fun _ _ _ h => h) (Or.inl ⟨by kernel_rfl, ?_⟩) hS ?_
      · intro w hSw; (try dsimp only at hSw); go_simp; all_goals first | rfl | omega
      simp only [Act.put, List.getElem_toArray, List.getElem_cons_zero, List.getElem_cons_succ, List.setIfInBounds_toArray, List.set_cons_zero, List.set_cons_succ]
      refine wpAnyH_take (i := 1) (v := (.slice (some ⟨b, off, none⟩) n ca)) rfl (by as_aux_lemma => kernel_rfl) (by as_aux_lemma => kernel_rfl) (by as_aux_lemma => kernel_rfl) (fun _ _ _ h => h) (Or.inl ⟨by kernel_rfl, ?_⟩) hS ?_
      · intro w hSw; (try dsimp only at hSw); go_simp; all_goals first | rfl | omega
      simp only [Act.put, List.getElem_toArray, List.getElem_cons_zero, List.getElem_cons_succ, List.setIfInBounds_toArray, List.set_cons_zero, List.set_cons_succ]
      refine wpAnyH_take (i := 2) (v := (.pointer (some ⟨w.heap.size, 3, none⟩))) rfl (by as_aux_lemma => kernel_rfl) (by as_aux_lemma => kernel_rfl) (by as_aux_lemma => kernel_rfl) (fun _ _ _ h => h) (Or.inl ⟨by kernel_rfl, ?_⟩) hS ?_
      · intro w hSw; (try dsimp only at hSw); go_simp; all_goals first | rfl | omega
      simp only [Act.put, List.getElem_toArray, List.getElem_cons_zero, List.getElem_cons_succ, List.setIfInBounds_toArray, List.set_cons_zero, List.set_cons_succ]
      refine wpAnyH_take (i := 3) (v := (.int .i64 (l'))) rfl (by as_aux_lemma => kernel_rfl) (by as_aux_lemma => kernel_rfl) (by as_aux_lemma => kernel_rfl) (fun _ _ _ h => h) (Or.inl ⟨by kernel_rfl, ?_⟩) hS ?_
      · intro w hSw; (try dsimp only at hSw); go_simp; all_goals first | rfl | omega
      simp only [Act.put, List.getElem_toArray, List.getElem_cons_zero, List.getElem_cons_succ, List.setIfInBounds_toArray, List.set_cons_zero, List.set_cons_succ]
      refine wpAnyH_take (i := 5) (v := (.pointer (some ⟨w.heap.size, 0, none⟩))) rfl (by as_aux_lemma => kernel_rfl) (by as_aux_lemma => kernel_rfl) (by as_aux_lemma => kernel_rfl) (fun _ _ _ h => h) (Or.inl ⟨by kernel_rfl, ?_⟩) hS ?_
      · intro w hSw; (try dsimp only at hSw); go_simp; all_goals first | rfl | omega
      simp only [Act.put, List.getElem_toArray, List.getElem_cons_zero, List.getElem_cons_succ, List.setIfInBounds_toArray, List.set_cons_zero, List.set_cons_succ]
      refine wpAnyH_take (i := 6) (v := (.int .i64 8)) rfl (by as_aux_lemma => kernel_rfl) (by as_aux_lemma => kernel_rfl) (by as_aux_lemma => kernel_rfl) (fun _ _ _ h => h) (Or.inl ⟨by kernel_rfl, ?_⟩) hS ?_
      · intro w hSw; (try dsimp only at hSw); go_simp; all_goals first | rfl | omega
      simp only [Act.put, List.getElem_toArray, List.getElem_cons_zero, List.getElem_cons_succ, List.setIfInBounds_toArray, List.set_cons_zero, List.set_cons_succ]
      refine wpAnyH_take (i := 7) (v := (.int .i64 0)) rfl (by as_aux_lemma => kernel_rfl) (by as_aux_lemma => kernel_rfl) (by as_aux_lemma => kernel_rfl) (fun _ _ _ h => h) (Or.inl ⟨by kernel_rfl, ?_⟩) hS ?_
      · intro w hSw; (try dsimp only at hSw); go_simp; all_goals first | rfl | omega
      simp only [Act.put, List.getElem_toArray, List.getElem_cons_zero, List.getElem_cons_succ, List.setIfInBounds_toArray, List.set_cons_zero, List.set_cons_succ]
      refine wpAnyH_take (i := 8) (v := (.int .u8 42)) rfl (by as_aux_lemma => kernel_rfl) (by as_aux_lemma => kernel_rfl) (by as_aux_lemma => kernel_rfl) (fun _ _ _ h => h) (Or.inl ⟨by kernel_rfl, ?_⟩) hS ?_
      · intro w hSw; (try dsimp only at hSw); go_simp; all_goals first | rfl | omega
      simp only [Act.put, List.getElem_toArray, List.getElem_cons_zero, List.getElem_cons_succ, List.setIfInBounds_toArray, List.set_cons_zero, List.set_cons_succ]
      refine wpAnyH_take (i := 9) (v := (.string ⟨#[42]⟩)) rfl (by as_aux_lemma => kernel_rfl) (by as_aux_lemma => kernel_rfl) (by as_aux_lemma => kernel_rfl) (fun _ _ _ h => h) (Or.inl ⟨by kernel_rfl, ?_⟩) hS ?_
      · intro w hSw; (try dsimp only at hSw); go_simp; all_goals first | rfl | omega
      simp only [Act.put, List.getElem_toArray, List.getElem_cons_zero, List.getElem_cons_succ, List.setIfInBounds_toArray, List.set_cons_zero, List.set_cons_succ]
      refine wpAnyH_ready (rs := [4]) (by as_aux_lemma => kernel_rfl) (by simp) ?_
      refine AllReadyH.cons rfl (fun K hK => ?_) AllReadyH.nil
      go_simp
      refine Calls.mono (HWL.out _ (by exact RdR.below HA.out (hb9.trans (Below.mono hS.2.2.2.2.2 hb9.size)))) ?_
      rintro e v' ⟨rfl, hv'⟩
      refine hK.out _ _ ⟨cell_later hv' hS.1, cell_later hv' hS.2.1, cell_later hv' hS.2.2.1, cell_later hv' hS.2.2.2.1, cell_later hv' hS.2.2.2.2.1, hS.2.2.2.2.2.trans (hv'.mono hS.2.2.2.2.2.size)⟩ (fun hS => ?_)
      clear hK K hv'
      refine wpAnyH_take (i := 10) (v := (.string (T ++ ⟨#[42]⟩))) rfl (by as_aux_lemma => kernel_rfl) (by as_aux_lemma => kernel_rfl) (by as_aux_lemma => kernel_rfl) (fun _ _ _ h => h) (Or.inl ⟨by kernel_rfl, ?_⟩) hS ?_
      · intro w hSw; (try dsimp only at hSw); go_simp; all_goals first | rfl | omega
      simp only [Act.put, List.getElem_toArray, List.getElem_cons_zero, List.getElem_cons_succ, List.setIfInBounds_toArray, List.set_cons_zero, List.set_cons_succ]
      refine wpAnyH_take (i := 11) (v := (.string (T ++ ⟨#[42]⟩))) rfl (by as_aux_lemma => kernel_rfl) (by as_aux_lemma => kernel_rfl) (by as_aux_lemma => kernel_rfl) (fun _ _ _ h => h) (Or.inl ⟨by kernel_rfl, ?_⟩) hS ?_
      · intro w hSw; (try dsimp only at hSw); go_simp; all_goals first | rfl | omega
      simp only [Act.put, List.getElem_toArray, List.getElem_cons_zero, List.getElem_cons_succ, List.setIfInBounds_toArray, List.set_cons_zero, List.set_cons_succ]
      refine wpAnyH_done (by kernel_rfl) ?_ _
      have hfin := hb9.trans (Below.mono hS.2.2.2.2.2 hb9.size)
      clear hS
      go_wp2
      go_ret
      exact ⟨rfl, hfin⟩
    · rw [hT, txtF_9 hk]
      have HWL : Hid _ := W x.l false (L (by omega)).1 (L (by omega)).2 (by omega) (fun h => by omega)
      have hzl := ZL x.l 9 false (L (by omega)).1 (L (by omega)).2
      clear hT hrange W L Rr Lr ZL ih hat hc hx
      have HA : Hid (RdR ndE 5 w (some ⟨b, off, none⟩) n cs) := ha
      clear ha
      obtain ⟨k', c', s', l', r'⟩ := x
      simp only at c0 c1 c2 c3 c4 hk HWL hzl ⊢
      subst hk
      generalize wrapT 9 false (txtV cs l'.toNat) = T at HWL hzl ⊢
      have d0 : (w.alloc (Obj.cells #[Value.int .i64 9, Value.int .i64 c', Value.string s', Value.int .i64 l', Value.int .i64 r'] 48)).cell? ⟨w.heap.size, 0, none⟩ = some (.int .i64 9) := by simp
      have d1 : (w.alloc (Obj.cells #[Value.int .i64 9, Value.int .i64 c', Value.string s', Value.int .i64 l', Value.int .i64 r'] 48)).cell? ⟨w.heap.size, 1, none⟩ = some (.int .i64 c') := by simp
      have d2 : (w.alloc (Obj.cells #[Value.int .i64 9, Value.int .i64 c', Value.string s', Value.int .i64 l', Value.int .i64 r'] 48)).cell? ⟨w.heap.size, 2, none⟩ = some (.string s') := by simp
      have d3 : (w.alloc (Obj.cells #[Value.int .i64 9, Value.int .i64 c', Value.string s', Value.int .i64 l', Value.int .i64 r'] 48)).cell? ⟨w.heap.size, 3, none⟩ = some (.int .i64 l') := by simp
      have d4 : (w.alloc (Obj.cells #[Value.int .i64 9, Value.int .i64 c', Value.string s', Value.int .i64 l', Value.int .i64 r'] 48)).cell? ⟨w.heap.size, 4, none⟩ = some (.int .i64 r') := by simp
      have hb9 := B1 (Obj.cells #[Value.int .i64 9, Value.int .i64 c', Value.string s', Value.int .i64 l', Value.int .i64 r'] 48)
      go_enter Try.func42, Try.ntmps42
      go_wp2_with fail
      generalize w.alloc (Obj.cells #[Value.int .i64 9, Value.int .i64 c', Value.string s', Value.int .i64 l', Value.int .i64 r'] 48) = w9 at d0 d1 d2 d3 d4 hb9 ⊢
      refine wp_region_held_drew (S := fun w' => w'.cell? ⟨w.heap.size, 0, none⟩ = some (.int .i64 9) ∧ w'.cell? ⟨w.heap.size, 1, none⟩ = some (.int .i64 (c')) ∧ w'.cell? ⟨w.heap.size, 2, none⟩ = some (.string s') ∧ w'.cell? ⟨w.heap.size, 3, none⟩ = some (.int .i64 (l')) ∧ w'.cell? ⟨w.heap.size, 4, none⟩ = some (.int .i64 (r')) ∧ Below w9.heap.size w9 w') (by kernel_rfl) (by exact ⟨d0, d1, d2, d3, d4, (Below.refl _ _).drew⟩) (fun hS => ?_)
      refine wpAnyH_take (i := 0) (v := (.agg #[.int .i64 9, .int .i64 c', .string s', .int .i64 l', .int .i64 r'])) rfl (by as_aux_lemma => kernel_rfl) (by as_aux_lemma => kernel_rfl) (by as_aux_lemma => kernel_rfl) (fun _ _ _ h => h) (Or.inl ⟨by kernel_rfl, ?_⟩) hS ?_
      · intro w hSw; (try dsimp only at hSw); go_simp; all_goals first | rfl | omega
      simp only [Act.put, List.getElem_toArray, List.getElem_cons_zero, List.getElem_cons_succ, List.setIfInBounds_toArray, List.set_cons_zero, List.set_cons_succ]
      refine wpAnyH_take (i := 1) (v := (.slice (some ⟨b, off, none⟩) n ca)) rfl (by as_aux_lemma => kernel_rfl) (by as_aux_lemma => kernel_rfl) (by as_aux_lemma => kernel_rfl) (fun _ _ _ h => h) (Or.inl ⟨by kernel_rfl, ?_⟩) hS ?_
      · intro w hSw; (try dsimp only at hSw); go_simp; all_goals first | rfl | omega
      simp only [Act.put, List.getElem_toArray, List.getElem_cons_zero, List.getElem_cons_succ, List.setIfInBounds_toArray, List.set_cons_zero, List.set_cons_succ]
      refine wpAnyH_take (i := 2) (v := (.pointer (some ⟨w.heap.size, 3, none⟩))) rfl (by as_aux_lemma => kernel_rfl) (by as_aux_lemma => kernel_rfl) (by as_aux_lemma => kernel_rfl) (fun _ _ _ h => h) (Or.inl ⟨by kernel_rfl, ?_⟩) hS ?_
      · intro w hSw; (try dsimp only at hSw); go_simp; all_goals first | rfl | omega
      simp only [Act.put, List.getElem_toArray, List.getElem_cons_zero, List.getElem_cons_succ, List.setIfInBounds_toArray, List.set_cons_zero, List.set_cons_succ]
      refine wpAnyH_take (i := 3) (v := (.int .i64 (l'))) rfl (by as_aux_lemma => kernel_rfl) (by as_aux_lemma => kernel_rfl) (by as_aux_lemma => kernel_rfl) (fun _ _ _ h => h) (Or.inl ⟨by kernel_rfl, ?_⟩) hS ?_
      · intro w hSw; (try dsimp only at hSw); go_simp; all_goals first | rfl | omega
      simp only [Act.put, List.getElem_toArray, List.getElem_cons_zero, List.getElem_cons_succ, List.setIfInBounds_toArray, List.set_cons_zero, List.set_cons_succ]
      refine wpAnyH_take (i := 5) (v := (.pointer (some ⟨w.heap.size, 0, none⟩))) rfl (by as_aux_lemma => kernel_rfl) (by as_aux_lemma => kernel_rfl) (by as_aux_lemma => kernel_rfl) (fun _ _ _ h => h) (Or.inl ⟨by kernel_rfl, ?_⟩) hS ?_
      · intro w hSw; (try dsimp only at hSw); go_simp; all_goals first | rfl | omega
      simp only [Act.put, List.getElem_toArray, List.getElem_cons_zero, List.getElem_cons_succ, List.setIfInBounds_toArray, List.set_cons_zero, List.set_cons_succ]
      refine wpAnyH_take (i := 6) (v := (.int .i64 9)) rfl (by as_aux_lemma => kernel_rfl) (by as_aux_lemma => kernel_rfl) (by as_aux_lemma => kernel_rfl) (fun _ _ _ h => h) (Or.inl ⟨by kernel_rfl, ?_⟩) hS ?_
      · intro w hSw; (try dsimp only at hSw); go_simp; all_goals first | rfl | omega
      simp only [Act.put, List.getElem_toArray, List.getElem_cons_zero, List.getElem_cons_succ, List.setIfInBounds_toArray, List.set_cons_zero, List.set_cons_succ]
      refine wpAnyH_take (i := 7) (v := (.int .i64 1)) rfl (by as_aux_lemma => kernel_rfl) (by as_aux_lemma => kernel_rfl) (by as_aux_lemma => kernel_rfl) (fun _ _ _ h => h) (Or.inl ⟨by kernel_rfl, ?_⟩) hS ?_
      · intro w hSw; (try dsimp only at hSw); go_simp; all_goals first | rfl | omega
      simp only [Act.put, List.getElem_toArray, List.getElem_cons_zero, List.getElem_cons_succ, List.setIfInBounds_toArray, List.set_cons_zero, List.set_cons_succ]
      refine wpAnyH_take (i := 8) (v := (.int .u8 43)) rfl (by as_aux_lemma => kernel_rfl) (by as_aux_lemma => kernel_rfl) (by as_aux_lemma => kernel_rfl) (fun _ _ _ h => h) (Or.inl ⟨by kernel_rfl, ?_⟩) hS ?_
      · intro w hSw; (try dsimp only at hSw); go_simp; all_goals first | rfl | omega
      simp only [Act.put, List.getElem_toArray, List.getElem_cons_zero, List.getElem_cons_succ, List.setIfInBounds_toArray, List.set_cons_zero, List.set_cons_succ]
      refine wpAnyH_take (i := 9) (v := (.string ⟨#[43]⟩)) rfl (by as_aux_lemma => kernel_rfl) (by as_aux_lemma => kernel_rfl) (by as_aux_lemma => kernel_rfl) (fun _ _ _ h => h) (Or.inl ⟨by kernel_rfl, ?_⟩) hS ?_
      · intro w hSw; (try dsimp only at hSw); go_simp; all_goals first | rfl | omega
      simp only [Act.put, List.getElem_toArray, List.getElem_cons_zero, List.getElem_cons_succ, List.setIfInBounds_toArray, List.set_cons_zero, List.set_cons_succ]
      refine wpAnyH_ready (rs := [4]) (by as_aux_lemma => kernel_rfl) (by simp) ?_
      refine AllReadyH.cons rfl (fun K hK => ?_) AllReadyH.nil
      go_simp
      refine Calls.mono (HWL.out _ (by exact RdR.below HA.out (hb9.trans (Below.mono hS.2.2.2.2.2 hb9.size)))) ?_
      rintro e v' ⟨rfl, hv'⟩
      refine hK.out _ _ ⟨cell_later hv' hS.1, cell_later hv' hS.2.1, cell_later hv' hS.2.2.1, cell_later hv' hS.2.2.2.1, cell_later hv' hS.2.2.2.2.1, hS.2.2.2.2.2.trans (hv'.mono hS.2.2.2.2.2.size)⟩ (fun hS => ?_)
      clear hK K hv'
      refine wpAnyH_take (i := 10) (v := (.string (T ++ ⟨#[43]⟩))) rfl (by as_aux_lemma => kernel_rfl) (by as_aux_lemma => kernel_rfl) (by as_aux_lemma => kernel_rfl) (fun _ _ _ h => h) (Or.inl ⟨by kernel_rfl, ?_⟩) hS ?_
      · intro w hSw; (try dsimp only at hSw); go_simp; all_goals first | rfl | omega
      simp only [Act.put, List.getElem_toArray, List.getElem_cons_zero, List.getElem_cons_succ, List.setIfInBounds_toArray, List.set_cons_zero, List.set_cons_succ]
      refine wpAnyH_take (i := 11) (v := (.string (T ++ ⟨#[43]⟩))) rfl (by as_aux_lemma => kernel_rfl) (by as_aux_lemma => kernel_rfl) (by as_aux_lemma => kernel_rfl) (fun _ _ _ h => h) (Or.inl ⟨by kernel_rfl, ?_⟩) hS ?_
      · intro w hSw; (try dsimp only at hSw); go_simp; all_goals first | rfl | omega
      simp only [Act.put, List.getElem_toArray, List.getElem_cons_zero, List.getElem_cons_succ, List.setIfInBounds_toArray, List.set_cons_zero, List.set_cons_succ]
      refine wpAnyH_done (by kernel_rfl) ?_ _
      have hfin := hb9.trans (Below.mono hS.2.2.2.2.2 hb9.size)
      clear hS
      go_wp2
      go_ret
      exact ⟨rfl, hfin⟩
    · rw [hT, txtF_10 hk]
      have HWL : Hid _ := W x.l false (L (by omega)).1 (L (by omega)).2 (by omega) (fun h => by omega)
      have hzl := ZL x.l 10 false (L (by omega)).1 (L (by omega)).2
      clear hT hrange W L Rr Lr ZL ih hat hc hx
      have HA : Hid (RdR ndE 5 w (some ⟨b, off, none⟩) n cs) := ha
      clear ha
      obtain ⟨k', c', s', l', r'⟩ := x
      simp only at c0 c1 c2 c3 c4 hk HWL hzl ⊢
      subst hk
      generalize wrapT 10 false (txtV cs l'.toNat) = T at HWL hzl ⊢
      have d0 : (w.alloc (Obj.cells #[Value.int .i64 10, Value.int .i64 c', Value.string s', Value.int .i64 l', Value.int .i64 r'] 48)).cell? ⟨w.heap.size, 0, none⟩ = some (.int .i64 10) := by simp
      have d1 : (w.alloc (Obj.cells #[Value.int .i64 10, Value.int .i64 c', Value.string s', Value.int .i64 l', Value.int .i64 r'] 48)).cell? ⟨w.heap.size, 1, none⟩ = some (.int .i64 c') := by simp
      have d2 : (w.alloc (Obj.cells #[Value.int .i64 10, Value.int .i64 c', Value.string s', Value.int .i64 l', Value.int .i64 r'] 48)).cell? ⟨w.heap.size, 2, none⟩ = some (.string s') := by simp
      have d3 : (w.alloc (Obj.cells #[Value.int .i64 10, Value.int .i64 c', Value.string s', Value.int .i64 l', Value.int .i64 r'] 48)).cell? ⟨w.heap.size, 3, none⟩ = some (.int .i64 l') := by simp
      have d4 : (w.alloc (Obj.cells #[Value.int .i64 10, Value.int .i64 c', Value.string s', Value.int .i64 l', Value.int .i64 r'] 48)).cell? ⟨w.heap.size, 4, none⟩ = some (.int .i64 r') := by simp
      have hb9 := B1 (Obj.cells #[Value.int .i64 10, Value.int .i64 c', Value.string s', Value.int .i64 l', Value.int .i64 r'] 48)
      go_enter Try.func42, Try.ntmps42
      go_wp2_with fail
      generalize w.alloc (Obj.cells #[Value.int .i64 10, Value.int .i64 c', Value.string s', Value.int .i64 l', Value.int .i64 r'] 48) = w9 at d0 d1 d2 d3 d4 hb9 ⊢
      refine wp_region_held_drew (S := fun w' => w'.cell? ⟨w.heap.size, 0, none⟩ = some (.int .i64 10) ∧ w'.cell? ⟨w.heap.size, 1, none⟩ = some (.int .i64 (c')) ∧ w'.cell? ⟨w.heap.size, 2, none⟩ = some (.string s') ∧ w'.cell? ⟨w.heap.size, 3, none⟩ = some (.int .i64 (l')) ∧ w'.cell? ⟨w.heap.size, 4, none⟩ = some (.int .i64 (r')) ∧ Below w9.heap.size w9 w') (by kernel_rfl) (by exact ⟨d0, d1, d2, d3, d4, (Below.refl _ _).drew⟩) (fun hS => ?_)
      refine wpAnyH_take (i := 0) (v := (.agg #[.int .i64 10, .int .i64 c', .string s', .int .i64 l', .int .i64 r'])) rfl (by as_aux_lemma => kernel_rfl) (by as_aux_lemma => kernel_rfl) (by as_aux_lemma => kernel_rfl) (fun _ _ _ h => h) (Or.inl ⟨by kernel_rfl, ?_⟩) hS ?_
      · intro w hSw; (try dsimp only at hSw); go_simp; all_goals first | rfl | omega
      simp only [Act.put, List.getElem_toArray, List.getElem_cons_zero, List.getElem_cons_succ, List.setIfInBounds_toArray, List.set_cons_zero, List.set_cons_succ]
      refine wpAnyH_take (i := 1) (v := (.slice (some ⟨b, off, none⟩) n ca)) rfl (by as_aux_lemma => kernel_rfl) (by as_aux_lemma => kernel_rfl) (by as_aux_lemma => kernel_rfl) (fun _ _ _ h => h) (Or.inl ⟨by kernel_rfl, ?_⟩) hS ?_
      · intro w hSw; (try dsimp only at hSw); go_simp; all_goals first | rfl | omega
      simp only [Act.put, List.getElem_toArray, List.getElem_cons_zero, List.getElem_cons_succ, List.setIfInBounds_toArray, List.set_cons_zero, List.set_cons_succ]
      refine wpAnyH_take (i := 2) (v := (.pointer (some ⟨w.heap.size, 3, none⟩))) rfl (by as_aux_lemma => kernel_rfl) (by as_aux_lemma => kernel_rfl) (by as_aux_lemma => kernel_rfl) (fun _ _ _ h => h) (Or.inl ⟨by kernel_rfl, ?_⟩) hS ?_
      · intro w hSw; (try dsimp only at hSw); go_simp; all_goals first | rfl | omega
      simp only [Act.put, List.getElem_toArray, List.getElem_cons_zero, List.getElem_cons_succ, List.setIfInBounds_toArray, List.set_cons_zero, List.set_cons_succ]
      refine wpAnyH_take (i := 3) (v := (.int .i64 (l'))) rfl (by as_aux_lemma => kernel_rfl) (by as_aux_lemma => kernel_rfl) (by as_aux_lemma => kernel_rfl) (fun _ _ _ h => h) (Or.inl ⟨by kernel_rfl, ?_⟩) hS ?_
      · intro w hSw; (try dsimp only at hSw); go_simp; all_goals first | rfl | omega
      simp only [Act.put, List.getElem_toArray, List.getElem_cons_zero, List.getElem_cons_succ, List.setIfInBounds_toArray, List.set_cons_zero, List.set_cons_succ]
      refine wpAnyH_take (i := 5) (v := (.pointer (some ⟨w.heap.size, 0, none⟩))) rfl (by as_aux_lemma => kernel_rfl) (by as_aux_lemma => kernel_rfl) (by as_aux_lemma => kernel_rfl) (fun _ _ _ h => h) (Or.inl ⟨by kernel_rfl, ?_⟩) hS ?_
      · intro w hSw; (try dsimp only at hSw); go_simp; all_goals first | rfl | omega
      simp only [Act.put, List.getElem_toArray, List.getElem_cons_zero, List.getElem_cons_succ, List.setIfInBounds_toArray, List.set_cons_zero, List.set_cons_succ]
      refine wpAnyH_take (i := 6) (v := (.int .i64 10)) rfl (by as_aux_lemma => kernel_rfl) (by as_aux_lemma => kernel_rfl) (by as_aux_lemma => kernel_rfl) (fun _ _ _ h => h) (Or.inl ⟨by kernel_rfl, ?_⟩) hS ?_
      · intro w hSw; (try dsimp only at hSw); go_simp; all_goals first | rfl | omega
      simp only [Act.put, List.getElem_toArray, List.getElem_cons_zero, List.getElem_cons_succ, List.setIfInBounds_toArray, List.set_cons_zero, List.set_cons_succ]
      refine wpAnyH_take (i := 7) (v := (.int .i64 2)) rfl (by as_aux_lemma => kernel_rfl) (by as_aux_lemma => kernel_rfl) (by as_aux_lemma => kernel_rfl) (fun _ _ _ h => h) (Or.inl ⟨by kernel_rfl, ?_⟩) hS ?_
      · intro w hSw; (try dsimp only at hSw); go_simp; all_goals first | rfl | omega
      simp only [Act.put, List.getElem_toArray, List.getElem_cons_zero, List.getElem_cons_succ, List.setIfInBounds_toArray, List.set_cons_zero, List.set_cons_succ]
      refine wpAnyH_take (i := 8) (v := (.int .u8 63)) rfl (by as_aux_lemma => kernel_rfl) (by as_aux_lemma => kernel_rfl) (by as_aux_lemma => kernel_rfl) (fun _ _ _ h => h) (Or.inl ⟨by kernel_rfl, ?_⟩) hS ?_
      · intro w hSw; (try dsimp only at hSw); go_simp; all_goals first | rfl | omega
      simp only [Act.put, List.getElem_toArray, List.getElem_cons_zero, List.getElem_cons_succ, List.setIfInBounds_toArray, List.set_cons_zero, List.set_cons_succ]
      refine wpAnyH_take (i := 9) (v := (.string ⟨#[63]⟩)) rfl (by as_aux_lemma => kernel_rfl) (by as_aux_lemma => kernel_rfl) (by as_aux_lemma => kernel_rfl) (fun _ _ _ h => h) (Or.inl ⟨by kernel_rfl, ?_⟩) hS ?_
      · intro w hSw; (try dsimp only at hSw); go_simp; all_goals first | rfl | omega
      simp only [Act.put, List.getElem_toArray, List.getElem_cons_zero, List.getElem_cons_succ, List.setIfInBounds_toArray, List.set_cons_zero, List.set_cons_succ]
      refine wpAnyH_ready (rs := [4]) (by as_aux_lemma => kernel_rfl) (by simp) ?_
      refine AllReadyH.cons rfl (fun K hK => ?_) AllReadyH.nil
      go_simp
      refine Calls.mono (HWL.out _ (by exact RdR.below HA.out (hb9.trans (Below.mono hS.2.2.2.2.2 hb9.size)))) ?_
      rintro e v' ⟨rfl, hv'⟩
      refine hK.out _ _ ⟨cell_later hv' hS.1, cell_later hv' hS.2.1, cell_later hv' hS.2.2.1, cell_later hv' hS.2.2.2.1, cell_later hv' hS.2.2.2.2.1, hS.2.2.2.2.2.trans (hv'.mono hS.2.2.2.2.2.size)⟩ (fun hS => ?_)
      clear hK K hv'
      refine wpAnyH_take (i := 10) (v := (.string (T ++ ⟨#[63]⟩))) rfl (by as_aux_lemma => kernel_rfl) (by as_aux_lemma => kernel_rfl) (by as_aux_lemma => kernel_rfl) (fun _ _ _ h => h) (Or.inl ⟨by kernel_rfl, ?_⟩) hS ?_
      · intro w hSw; (try dsimp only at hSw); go_simp; all_goals first | rfl | omega
      simp only [Act.put, List.getElem_toArray, List.getElem_cons_zero, List.getElem_cons_succ, List.setIfInBounds_toArray, List.set_cons_zero, List.set_cons_succ]
      refine wpAnyH_take (i := 11) (v := (.string (T ++ ⟨#[63]⟩))) rfl (by as_aux_lemma => kernel_rfl) (by as_aux_lemma => kernel_rfl) (by as_aux_lemma => kernel_rfl) (fun _ _ _ h => h) (Or.inl ⟨by kernel_rfl, ?_⟩) hS ?_
      · intro w hSw; (try dsimp only at hSw); go_simp; all_goals first | rfl | omega
      simp only [Act.put, List.getElem_toArray, List.getElem_cons_zero, List.getElem_cons_succ, List.setIfInBounds_toArray, List.set_cons_zero, List.set_cons_succ]
      refine wpAnyH_done (by kernel_rfl) ?_ _
      have hfin := hb9.trans (Below.mono hS.2.2.2.2.2 hb9.size)
      clear hS
      go_wp2
      go_ret
      exact ⟨rfl, hfin⟩
    · rw [hT, txtF_11 hk]
      have HWL : Hid _ := W x.l false (L (by omega)).1 (L (by omega)).2 (by omega) Lr
      have HWR : Hid _ := W x.r true (Rr (by omega)).1 (Rr (by omega)).2 (by omega) (fun _ => decide_eq_true rfl)
      have hzr := ZL x.r 11 true (Rr (by omega)).1 (Rr (by omega)).2
      have hzl := ZL x.l 11 false (L (by omega)).1 (L (by omega)).2
      clear hT hrange W L Rr Lr ZL ih hat hc hx
      have HA : Hid (RdR ndE 5 w (some ⟨b, off, none⟩) n cs) := ha
      clear ha
      obtain ⟨k', c', s', l', r'⟩ := x
      simp only at c0 c1 c2 c3 c4 hk HWL hzl HWR hzr ⊢
      subst hk
      generalize wrapT 11 false (txtV cs l'.toNat) = T at HWL hzl ⊢
      generalize wrapT 11 true (txtV cs r'.toNat) = U at HWR hzr ⊢
      have d0 : (w.alloc (Obj.cells #[Value.int .i64 11, Value.int .i64 c', Value.string s', Value.int .i64 l', Value.int .i64 r'] 48)).cell? ⟨w.heap.size, 0, none⟩ = some (.int .i64 11) := by simp
      have d1 : (w.alloc (Obj.cells #[Value.int .i64 11, Value.int .i64 c', Value.string s', Value.int .i64 l', Value.int .i64 r'] 48)).cell? ⟨w.heap.size, 1, none⟩ = some (.int .i64 c') := by simp
      have d2 : (w.alloc (Obj.cells #[Value.int .i64 11, Value.int .i64 c', Value.string s', Value.int .i64 l', Value.int .i64 r'] 48)).cell? ⟨w.heap.size, 2, none⟩ = some (.string s') := by simp
      have d3 : (w.alloc (Obj.cells #[Value.int .i64 11, Value.int .i64 c', Value.string s', Value.int .i64 l', Value.int .i64 r'] 48)).cell? ⟨w.heap.size, 3, none⟩ = some (.int .i64 l') := by simp
      have d4 : (w.alloc (Obj.cells #[Value.int .i64 11, Value.int .i64 c', Value.string s', Value.int .i64 l', Value.int .i64 r'] 48)).cell? ⟨w.heap.size, 4, none⟩ = some (.int .i64 r') := by simp
      have hb9 := B1 (Obj.cells #[Value.int .i64 11, Value.int .i64 c', Value.string s', Value.int .i64 l', Value.int .i64 r'] 48)
      go_enter Try.func42, Try.ntmps42
      go_wp2_with fail
      generalize w.alloc (Obj.cells #[Value.int .i64 11, Value.int .i64 c', Value.string s', Value.int .i64 l', Value.int .i64 r'] 48) = w9 at d0 d1 d2 d3 d4 hb9 ⊢
      refine wp_region_held_drew (S := fun w' => w'.cell? ⟨w.heap.size, 0, none⟩ = some (.int .i64 11) ∧ w'.cell? ⟨w.heap.size, 1, none⟩ = some (.int .i64 (c')) ∧ w'.cell? ⟨w.heap.size, 2, none⟩ = some (.string s') ∧ w'.cell? ⟨w.heap.size, 3, none⟩ = some (.int .i64 (l')) ∧ w'.cell? ⟨w.heap.size, 4, none⟩ = some (.int .i64 (r')) ∧ Below w9.heap.size w9 w') (by kernel_rfl) (by exact ⟨d0, d1, d2, d3, d4, (Below.refl _ _).drew⟩) (fun hS => ?_)
      refine wpAnyH_take (i := 0) (v := (.agg #[.int .i64 11, .int .i64 c', .string s', .int .i64 l', .int .i64 r'])) rfl (by as_aux_lemma => kernel_rfl) (by as_aux_lemma => kernel_rfl) (by as_aux_lemma => kernel_rfl) (fun _ _ _ h => h) (Or.inl ⟨by kernel_rfl, ?_⟩) hS ?_
      · intro w hSw; (try dsimp only at hSw); go_simp; all_goals first | rfl | omega
      simp only [Act.put, List.getElem_toArray, List.getElem_cons_zero, List.getElem_cons_succ, List.setIfInBounds_toArray, List.set_cons_zero, List.set_cons_succ]
      refine wpAnyH_take (i := 1) (v := (.slice (some ⟨b, off, none⟩) n ca)) rfl (by as_aux_lemma => kernel_rfl) (by as_aux_lemma => kernel_rfl) (by as_aux_lemma => kernel_rfl) (fun _ _ _ h => h) (Or.inl ⟨by kernel_rfl, ?_⟩) hS ?_
      · intro w hSw; (try dsimp only at hSw); go_simp; all_goals first | rfl | omega
      simp only [Act.put, List.getElem_toArray, List.getElem_cons_zero, List.getElem_cons_succ, List.setIfInBounds_toArray, List.set_cons_zero, List.set_cons_succ]
      refine wpAnyH_take (i := 2) (v := (.pointer (some ⟨w.heap.size, 3, none⟩))) rfl (by as_aux_lemma => kernel_rfl) (by as_aux_lemma => kernel_rfl) (by as_aux_lemma => kernel_rfl) (fun _ _ _ h => h) (Or.inl ⟨by kernel_rfl, ?_⟩) hS ?_
      · intro w hSw; (try dsimp only at hSw); go_simp; all_goals first | rfl | omega
      simp only [Act.put, List.getElem_toArray, List.getElem_cons_zero, List.getElem_cons_succ, List.setIfInBounds_toArray, List.set_cons_zero, List.set_cons_succ]
      refine wpAnyH_take (i := 3) (v := (.int .i64 (l'))) rfl (by as_aux_lemma => kernel_rfl) (by as_aux_lemma => kernel_rfl) (by as_aux_lemma => kernel_rfl) (fun _ _ _ h => h) (Or.inl ⟨by kernel_rfl, ?_⟩) hS ?_
      · intro w hSw; (try dsimp only at hSw); go_simp; all_goals first | rfl | omega
      simp only [Act.put, List.getElem_toArray, List.getElem_cons_zero, List.getElem_cons_succ, List.setIfInBounds_toArray, List.set_cons_zero, List.set_cons_succ]
      refine wpAnyH_take (i := 5) (v := (.agg #[.int .i64 11, .int .i64 c', .string s', .int .i64 l', .int .i64 r'])) rfl (by as_aux_lemma => kernel_rfl) (by as_aux_lemma => kernel_rfl) (by as_aux_lemma => kernel_rfl) (fun _ _ _ h => h) (Or.inl ⟨by kernel_rfl, ?_⟩) hS ?_
      · intro w hSw; (try dsimp only at hSw); go_simp; all_goals first | rfl | omega
      simp only [Act.put, List.getElem_toArray, List.getElem_cons_zero, List.getElem_cons_succ, List.setIfInBounds_toArray, List.set_cons_zero, List.set_cons_succ]
      refine wpAnyH_take (i := 6) (v := (.slice (some ⟨b, off, none⟩) n ca)) rfl (by as_aux_lemma => kernel_rfl) (by as_aux_lemma => kernel_rfl) (by as_aux_lemma => kernel_rfl) (fun _ _ _ h => h) (Or.inl ⟨by kernel_rfl, ?_⟩) hS ?_
      · intro w hSw; (try dsimp only at hSw); go_simp; all_goals first | rfl | omega
      simp only [Act.put, List.getElem_toArray, List.getElem_cons_zero, List.getElem_cons_succ, List.setIfInBounds_toArray, List.set_cons_zero, List.set_cons_succ]
      refine wpAnyH_take (i := 7) (v := (.pointer (some ⟨w.heap.size, 4, none⟩))) rfl (by as_aux_lemma => kernel_rfl) (by as_aux_lemma => kernel_rfl) (by as_aux_lemma => kernel_rfl) (fun _ _ _ h => h) (Or.inl ⟨by kernel_rfl, ?_⟩) hS ?_
      · intro w hSw; (try dsimp only at hSw); go_simp; all_goals first | rfl | omega
      simp only [Act.put, List.getElem_toArray, List.getElem_cons_zero, List.getElem_cons_succ, List.setIfInBounds_toArray, List.set_cons_zero, List.set_cons_succ]
      refine wpAnyH_take (i := 8) (v := (.int .i64 (r'))) rfl (by as_aux_lemma => kernel_rfl) (by as_aux_lemma => kernel_rfl) (by as_aux_lemma => kernel_rfl) (fun _ _ _ h => h) (Or.inl ⟨by kernel_rfl, ?_⟩) hS ?_
      · intro w hSw; (try dsimp only at hSw); go_simp; all_goals first | rfl | omega
      simp only [Act.put, List.getElem_toArray, List.getElem_cons_zero, List.getElem_cons_succ, List.setIfInBounds_toArray, List.set_cons_zero, List.set_cons_succ]
      refine wpAnyH_ready (rs := [4]) (by as_aux_lemma => kernel_rfl) (by simp) ?_
      refine AllReadyH.cons rfl (fun K hK => ?_) AllReadyH.nil
      go_simp
      refine Calls.mono (HWL.out _ (by exact RdR.below HA.out (hb9.trans (Below.mono hS.2.2.2.2.2 hb9.size)))) ?_
      rintro e v' ⟨rfl, hv'⟩
      refine hK.out _ _ ⟨cell_later hv' hS.1, cell_later hv' hS.2.1, cell_later hv' hS.2.2.1, cell_later hv' hS.2.2.2.1, cell_later hv' hS.2.2.2.2.1, hS.2.2.2.2.2.trans (hv'.mono hS.2.2.2.2.2.size)⟩ (fun hS => ?_)
      clear hK K hv'
      refine wpAnyH_ready (rs := [9]) (by as_aux_lemma => kernel_rfl) (by simp) ?_
      refine AllReadyH.cons rfl (fun K hK => ?_) AllReadyH.nil
      go_simp
      refine Calls.mono (HWR.out _ (by exact RdR.below HA.out (hb9.trans (Below.mono hS.2.2.2.2.2 hb9.size)))) ?_
      rintro e v' ⟨rfl, hv'⟩
      refine hK.out _ _ ⟨cell_later hv' hS.1, cell_later hv' hS.2.1, cell_later hv' hS.2.2.1, cell_later hv' hS.2.2.2.1, cell_later hv' hS.2.2.2.2.1, hS.2.2.2.2.2.trans (hv'.mono hS.2.2.2.2.2.size)⟩ (fun hS => ?_)
      clear hK K hv'
      refine wpAnyH_take (i := 10) (v := (.string (T ++ U))) rfl (by as_aux_lemma => kernel_rfl) (by as_aux_lemma => kernel_rfl) (by as_aux_lemma => kernel_rfl) (fun _ _ _ h => h) (Or.inl ⟨by kernel_rfl, ?_⟩) hS ?_
      · intro w hSw; (try dsimp only at hSw); go_simp; all_goals first | rfl | omega
      simp only [Act.put, List.getElem_toArray, List.getElem_cons_zero, List.getElem_cons_succ, List.setIfInBounds_toArray, List.set_cons_zero, List.set_cons_succ]
      refine wpAnyH_take (i := 11) (v := (.string (T ++ U))) rfl (by as_aux_lemma => kernel_rfl) (by as_aux_lemma => kernel_rfl) (by as_aux_lemma => kernel_rfl) (fun _ _ _ h => h) (Or.inl ⟨by kernel_rfl, ?_⟩) hS ?_
      · intro w hSw; (try dsimp only at hSw); go_simp; all_goals first | rfl | omega
      simp only [Act.put, List.getElem_toArray, List.getElem_cons_zero, List.getElem_cons_succ, List.setIfInBounds_toArray, List.set_cons_zero, List.set_cons_succ]
      refine wpAnyH_done (by kernel_rfl) ?_ _
      have hfin := hb9.trans (Below.mono hS.2.2.2.2.2 hb9.size)
      clear hS
      go_wp2
      go_ret
      exact ⟨rfl, hfin⟩
    · rw [hT, txtF_12 hk]
      have HWL : Hid _ := W x.l false (L (by omega)).1 (L (by omega)).2 (by omega) Lr
      have HWR : Hid _ := W x.r true (Rr (by omega)).1 (Rr (by omega)).2 (by omega) (fun _ => decide_eq_true rfl)
      have hzr := ZL x.r 12 true (Rr (by omega)).1 (Rr (by omega)).2
      have hzl := ZL x.l 12 false (L (by omega)).1 (L (by omega)).2
      clear hT hrange W L Rr Lr ZL ih hat hc hx
      have HA : Hid (RdR ndE 5 w (some ⟨b, off, none⟩) n cs) := ha
      clear ha
      obtain ⟨k', c', s', l', r'⟩ := x
      simp only at c0 c1 c2 c3 c4 hk HWL hzl HWR hzr ⊢
      subst hk
      generalize wrapT 12 false (txtV cs l'.toNat) = T at HWL hzl ⊢
      generalize wrapT 12 true (txtV cs r'.toNat) = U at HWR hzr ⊢
      have d0 : (w.alloc (Obj.cells #[Value.int .i64 12, Value.int .i64 c', Value.string s', Value.int .i64 l', Value.int .i64 r'] 48)).cell? ⟨w.heap.size, 0, none⟩ = some (.int .i64 12) := by simp
      have d1 : (w.alloc (Obj.cells #[Value.int .i64 12, Value.int .i64 c', Value.string s', Value.int .i64 l', Value.int .i64 r'] 48)).cell? ⟨w.heap.size, 1, none⟩ = some (.int .i64 c') := by simp
      have d2 : (w.alloc (Obj.cells #[Value.int .i64 12, Value.int .i64 c', Value.string s', Value.int .i64 l', Value.int .i64 r'] 48)).cell? ⟨w.heap.size, 2, none⟩ = some (.string s') := by simp
      have d3 : (w.alloc (Obj.cells #[Value.int .i64 12, Value.int .i64 c', Value.string s', Value.int .i64 l', Value.int .i64 r'] 48)).cell? ⟨w.heap.size, 3, none⟩ = some (.int .i64 l') := by simp
      have d4 : (w.alloc (Obj.cells #[Value.int .i64 12, Value.int .i64 c', Value.string s', Value.int .i64 l', Value.int .i64 r'] 48)).cell? ⟨w.heap.size, 4, none⟩ = some (.int .i64 r') := by simp
      have hb9 := B1 (Obj.cells #[Value.int .i64 12, Value.int .i64 c', Value.string s', Value.int .i64 l', Value.int .i64 r'] 48)
      go_enter Try.func42, Try.ntmps42
      go_wp2_with fail
      generalize w.alloc (Obj.cells #[Value.int .i64 12, Value.int .i64 c', Value.string s', Value.int .i64 l', Value.int .i64 r'] 48) = w9 at d0 d1 d2 d3 d4 hb9 ⊢
      refine wp_region_held_drew (S := fun w' => w'.cell? ⟨w.heap.size, 0, none⟩ = some (.int .i64 12) ∧ w'.cell? ⟨w.heap.size, 1, none⟩ = some (.int .i64 (c')) ∧ w'.cell? ⟨w.heap.size, 2, none⟩ = some (.string s') ∧ w'.cell? ⟨w.heap.size, 3, none⟩ = some (.int .i64 (l')) ∧ w'.cell? ⟨w.heap.size, 4, none⟩ = some (.int .i64 (r')) ∧ Below w9.heap.size w9 w') (by kernel_rfl) (by exact ⟨d0, d1, d2, d3, d4, (Below.refl _ _).drew⟩) (fun hS => ?_)
      refine wpAnyH_take (i := 0) (v := (.agg #[.int .i64 12, .int .i64 c', .string s', .int .i64 l', .int .i64 r'])) rfl (by as_aux_lemma => kernel_rfl) (by as_aux_lemma => kernel_rfl) (by as_aux_lemma => kernel_rfl) (fun _ _ _ h => h) (Or.inl ⟨by kernel_rfl, ?_⟩) hS ?_
      · intro w hSw; (try dsimp only at hSw); go_simp; all_goals first | rfl | omega
      simp only [Act.put, List.getElem_toArray, List.getElem_cons_zero, List.getElem_cons_succ, List.setIfInBounds_toArray, List.set_cons_zero, List.set_cons_succ]
      refine wpAnyH_take (i := 1) (v := (.slice (some ⟨b, off, none⟩) n ca)) rfl (by as_aux_lemma => kernel_rfl) (by as_aux_lemma => kernel_rfl) (by as_aux_lemma => kernel_rfl) (fun _ _ _ h => h) (Or.inl ⟨by kernel_rfl, ?_⟩) hS ?_
      · intro w hSw; (try dsimp only at hSw); go_simp; all_goals first | rfl | omega
      simp only [Act.put, List.getElem_toArray, List.getElem_cons_zero, List.getElem_cons_succ, List.setIfInBounds_toArray, List.set_cons_zero, List.set_cons_succ]
      refine wpAnyH_take (i := 2) (v := (.pointer (some ⟨w.heap.size, 3, none⟩))) rfl (by as_aux_lemma => kernel_rfl) (by as_aux_lemma => kernel_rfl) (by as_aux_lemma => kernel_rfl) (fun _ _ _ h => h) (Or.inl ⟨by kernel_rfl, ?_⟩) hS ?_
      · intro w hSw; (try dsimp only at hSw); go_simp; all_goals first | rfl | omega
      simp only [Act.put, List.getElem_toArray, List.getElem_cons_zero, List.getElem_cons_succ, List.setIfInBounds_toArray, List.set_cons_zero, List.set_cons_succ]
      refine wpAnyH_take (i := 3) (v := (.int .i64 (l'))) rfl (by as_aux_lemma => kernel_rfl) (by as_aux_lemma => kernel_rfl) (by as_aux_lemma => kernel_rfl) (fun _ _ _ h => h) (Or.inl ⟨by kernel_rfl, ?_⟩) hS ?_
      · intro w hSw; (try dsimp only at hSw); go_simp; all_goals first | rfl | omega
      simp only [Act.put, List.getElem_toArray, List.getElem_cons_zero, List.getElem_cons_succ, List.setIfInBounds_toArray, List.set_cons_zero, List.set_cons_succ]
      refine wpAnyH_take (i := 6) (v := (.agg #[.int .i64 12, .int .i64 c', .string s', .int .i64 l', .int .i64 r'])) rfl (by as_aux_lemma => kernel_rfl) (by as_aux_lemma => kernel_rfl) (by as_aux_lemma => kernel_rfl) (fun _ _ _ h => h) (Or.inl ⟨by kernel_rfl, ?_⟩) hS ?_
      · intro w hSw; (try dsimp only at hSw); go_simp; all_goals first | rfl | omega
      simp only [Act.put, List.getElem_toArray, List.getElem_cons_zero, List.getElem_cons_succ, List.setIfInBounds_toArray, List.set_cons_zero, List.set_cons_succ]
      refine wpAnyH_take (i := 7) (v := (.slice (some ⟨b, off, none⟩) n ca)) rfl (by as_aux_lemma => kernel_rfl) (by as_aux_lemma => kernel_rfl) (by as_aux_lemma => kernel_rfl) (fun _ _ _ h => h) (Or.inl ⟨by kernel_rfl, ?_⟩) hS ?_
      · intro w hSw; (try dsimp only at hSw); go_simp; all_goals first | rfl | omega
      simp only [Act.put, List.getElem_toArray, List.getElem_cons_zero, List.getElem_cons_succ, List.setIfInBounds_toArray, List.set_cons_zero, List.set_cons_succ]
      refine wpAnyH_take (i := 8) (v := (.pointer (some ⟨w.heap.size, 4, none⟩))) rfl (by as_aux_lemma => kernel_rfl) (by as_aux_lemma => kernel_rfl) (by as_aux_lemma => kernel_rfl) (fun _ _ _ h => h) (Or.inl ⟨by kernel_rfl, ?_⟩) hS ?_
      · intro w hSw; (try dsimp only at hSw); go_simp; all_goals first | rfl | omega
      simp only [Act.put, List.getElem_toArray, List.getElem_cons_zero, List.getElem_cons_succ, List.setIfInBounds_toArray, List.set_cons_zero, List.set_cons_succ]
      refine wpAnyH_take (i := 9) (v := (.int .i64 (r'))) rfl (by as_aux_lemma => kernel_rfl) (by as_aux_lemma => kernel_rfl) (by as_aux_lemma => kernel_rfl) (fun _ _ _ h => h) (Or.inl ⟨by kernel_rfl, ?_⟩) hS ?_
      · intro w hSw; (try dsimp only at hSw); go_simp; all_goals first | rfl | omega
      simp only [Act.put, List.getElem_toArray, List.getElem_cons_zero, List.getElem_cons_succ, List.setIfInBounds_toArray, List.set_cons_zero, List.set_cons_succ]
      refine wpAnyH_ready (rs := [4]) (by as_aux_lemma => kernel_rfl) (by simp) ?_
      refine AllReadyH.cons rfl (fun K hK => ?_) AllReadyH.nil
      go_simp
      refine Calls.mono (HWL.out _ (by exact RdR.below HA.out (hb9.trans (Below.mono hS.2.2.2.2.2 hb9.size)))) ?_
      rintro e v' ⟨rfl, hv'⟩
      refine hK.out _ _ ⟨cell_later hv' hS.1, cell_later hv' hS.2.1, cell_later hv' hS.2.2.1, cell_later hv' hS.2.2.2.1, cell_later hv' hS.2.2.2.2.1, hS.2.2.2.2.2.trans (hv'.mono hS.2.2.2.2.2.size)⟩ (fun hS => ?_)
      clear hK K hv'
      refine wpAnyH_take (i := 5) (v := (.string (T ++ ⟨#[124]⟩))) rfl (by as_aux_lemma => kernel_rfl) (by as_aux_lemma => kernel_rfl) (by as_aux_lemma => kernel_rfl) (fun _ _ _ h => h) (Or.inl ⟨by kernel_rfl, ?_⟩) hS ?_
      · intro w hSw; (try dsimp only at hSw); go_simp; all_goals first | rfl | omega
      simp only [Act.put, List.getElem_toArray, List.getElem_cons_zero, List.getElem_cons_succ, List.setIfInBounds_toArray, List.set_cons_zero, List.set_cons_succ]
      refine wpAnyH_ready (rs := [10]) (by as_aux_lemma => kernel_rfl) (by simp) ?_
      refine AllReadyH.cons rfl (fun K hK => ?_) AllReadyH.nil
      go_simp
      refine Calls.mono (HWR.out _ (by exact RdR.below HA.out (hb9.trans (Below.mono hS.2.2.2.2.2 hb9.size)))) ?_
      rintro e v' ⟨rfl, hv'⟩
      refine hK.out _ _ ⟨cell_later hv' hS.1, cell_later hv' hS.2.1, cell_later hv' hS.2.2.1, cell_later hv' hS.2.2.2.1, cell_later hv' hS.2.2.2.2.1, hS.2.2.2.2.2.trans (hv'.mono hS.2.2.2.2.2.size)⟩ (fun hS => ?_)
      clear hK K hv'
      refine wpAnyH_take (i := 11) (v := (.string (T ++ ⟨#[124]⟩ ++ U))) rfl (by as_aux_lemma => kernel_rfl) (by as_aux_lemma => kernel_rfl) (by as_aux_lemma => kernel_rfl) (fun _ _ _ h => h) (Or.inl ⟨by kernel_rfl, ?_⟩) hS ?_
      · intro w hSw; (try dsimp only at hSw); go_simp; all_goals first | rfl | omega
      simp only [Act.put, List.getElem_toArray, List.getElem_cons_zero, List.getElem_cons_succ, List.setIfInBounds_toArray, List.set_cons_zero, List.set_cons_succ]
      refine wpAnyH_take (i := 12) (v := (.string (T ++ ⟨#[124]⟩ ++ U))) rfl (by as_aux_lemma => kernel_rfl) (by as_aux_lemma => kernel_rfl) (by as_aux_lemma => kernel_rfl) (fun _ _ _ h => h) (Or.inl ⟨by kernel_rfl, ?_⟩) hS ?_
      · intro w hSw; (try dsimp only at hSw); go_simp; all_goals first | rfl | omega
      simp only [Act.put, List.getElem_toArray, List.getElem_cons_zero, List.getElem_cons_succ, List.setIfInBounds_toArray, List.set_cons_zero, List.set_cons_succ]
      refine wpAnyH_done (by kernel_rfl) ?_ _
      have hfin := hb9.trans (Below.mono hS.2.2.2.2.2 hb9.size)
      clear hS
      go_wp2
      go_ret
      exact ⟨rfl, hfin⟩
end Go.Proofs.Ytjjapnggdfiinaa
