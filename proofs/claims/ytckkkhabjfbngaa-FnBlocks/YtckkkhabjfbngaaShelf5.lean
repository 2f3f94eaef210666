/-
  The block that was not asked for the longest.
-/
import Derived.Test.YtckkkhabjfbngaaShelf3
namespace Go.Proofs.Ytckkkhabjfbngaa
open Go.RowKit Go.ChangeMaps Go.MapKept
set_option linter.unusedVariables false
set_option linter.unusedSimpArgs false

/-- The least one is still to come, or it is the one that is held. -/
def Least (e0 : En) (U : Int) (left : List En) (t x y : Int) : Prop := (e0 ∈ left ∧ e0.turn < t) ∨ (t = e0.turn ∧ x = U ∧ y = e0.num)

set_option maxHeartbeats 1600000 in
set_option maxRecDepth 20000 in
theorem first_any (bm : Nat) (U Z T : Int) (e0 : En) (E : List En) (bs : List Bk) (w : World) (h : Shelf bm U Z T w (e0 :: E) bs) :
    Calls Try.prog 85 #[.pointer (some ⟨bm + 1, 0, none⟩)] w fun e w' => e = .returned (.agg #[.int .i64 U, .int .i64 e0.num]) ∧ Below w.heap.size w w' := by
  have hlt := h.blk.lt
  have g2 := h.blk.cell 2
  have g3 := h.blk.cell 3
  simp at g2 g3
  have hT0 := h.T0
  have hT1 := h.T1
  have hnd := h.own.nodup
  have hmin : ∀ e ∈ e0 :: E, e = e0 ∨ e0.turn < e.turn := by
    intro e he
    rcases List.mem_cons.1 he with q | q
    · exact .inl q
    · exact .inr ((List.pairwise_cons.1 h.up).1 e q)
  have HV : Hid (∀ e ∈ e0 :: E, ∃ a l c, e.v = .slice a l c) := by
    have q : ∀ e ∈ e0 :: E, ∃ a l c, e.v = .slice a l c := fun e he => by
      obtain ⟨j, hj, hje⟩ := List.mem_iff_getElem.1 he
      have hl := h.hold.1
      obtain ⟨_, a, c, q2, _⟩ := h.hold.2 j e bs[j] (by rw [List.getElem?_eq_getElem hj, hje]) (List.getElem?_eq_getElem (by omega))
      exact ⟨a, _, c, q2⟩
    exact q
  have ht0 := h.turns e0 List.mem_cons_self
  have hwr : IntKind.i64.wrap (T + 1) = T + 1 := by rw [IntKind.wrap_i64]; omega
  obtain ⟨W0, hW0⟩ : ∃ W0, W0 = (w.alloc (Obj.cells #[Value.int .i64 0, Value.int .i64 0] 95)).alloc (Obj.cells #[Value.int .i64 0, Value.int .i64 0] 95) := ⟨_, rfl⟩
  have hB0 : Below w.heap.size w W0 := by rw [hW0]; exact ((Below.refl _ _).alloc (Nat.le_refl _) _).alloc (by simp) _
  have hz0 : W0.heap.size = w.heap.size + 2 := by rw [hW0]; simp
  have rb0 : Blk W0 w.heap.size #[.int .i64 0, .int .i64 0] 95 := by rw [hW0]; exact (Blk.new w _ _).alloc _
  have fb0 : Blk W0 (w.heap.size + 1) #[.int .i64 0, .int .i64 0] 95 := by
    rw [hW0]
    have q := Blk.new (w.alloc (Obj.cells #[Value.int .i64 0, Value.int .i64 0] 95)) #[.int .i64 0, .int .i64 0] 95
    rw [World.size_alloc] at q
    exact q
  have g2W : W0.cell? ⟨bm + 1, 2, none⟩ = some (.int .i64 T) := cell_later hB0 g2
  have g3W : W0.cell? ⟨bm + 1, 3, none⟩ = some (.map (some bm)) := cell_later hB0 g3
  obtain ⟨W1, hrg, hG1, hb1, hz1⟩ := (h.own.below hB0).range
  have rb1 : Blk W1 w.heap.size #[.int .i64 0, .int .i64 0] 95 := (hb1.block _ rb0.lt).trans rb0
  have fb1 : Blk W1 (w.heap.size + 1) #[.int .i64 0, .int .i64 0] 95 := (hb1.block _ fb0.lt).trans fb0
  have hB1 : Below w.heap.size w W1 := hB0.trans (hb1.mono hB0.size)
  rw [hz0] at hG1 hrg
  have hz1' : w.heap.size + 2 < W1.heap.size := by omega
  clear hz1 rb0 fb0 hb1
  subst hW0
  clear hz0
  have HN : Hid (∀ e ∈ e0 :: E, e = e0 ∨ e0.turn < e.turn) := hmin
  clear hmin
  go_enter Try.func85, Try.ntmps85
  go_wp2
  go_loopw [4] (fun tv wr => ∃ (left : List En) (t x y : Int), tv = .int .i64 t ∧ (∀ e ∈ left, e ∈ e0 :: E) ∧ Least e0 U left t x y ∧ OwnG U wr bm (w.heap.size + 2) (e0 :: E) left ∧ Blk wr w.heap.size #[.int .i64 0, .int .i64 0] 95 ∧ Blk wr (w.heap.size + 1) #[.int .i64 x, .int .i64 y] 95 ∧ Below w.heap.size w wr) (fun _ wr => wr.rangeLeft bm (w.heap.size + 2))
  case atStart => exact ⟨e0 :: E, T + 1, 0, 0, rfl, fun e he => he, .inl ⟨List.mem_cons_self, by omega⟩, hG1, rb1, fb1, hB1⟩
  case round =>
    obtain ⟨left, t, x, y, rfl, hsub, hL, hG, rb, fb, hbw⟩ := hrel
    clear hG1 rb1 fb1 hB1
    have hrl := hG.lt
    have hlq := hG.left_eq
    rcases hG.next 0 with ⟨hl0, hrun⟩ | ⟨e, rest, w2, hp, he, hrun, hG2, hgr, hz, hent⟩
    · subst hl0
      obtain ⟨rfl, rfl, rfl⟩ : t = e0.turn ∧ x = U ∧ y = e0.num := by
        rcases hL with ⟨q, _⟩ | q
        · simp at q
        · exact q
      have d0 := rb.cell 0
      have d1 := rb.cell 1
      have df0 := rb.frozen 0
      have df1 := rb.frozen 1
      have x0 := fb.cell 0
      have x1 := fb.cell 1
      simp at d0 d1 x0 x1
      clear hG rb fb
      go_wp2
      exact bodyPost_ret (v := .agg #[.int .i64 x, .int .i64 e0.num]) (by simp [results, Try.results85, go_sem, d0, d1]) rfl ⟨rfl, (hbw.setCell (by simp) _).setCell (by simp) _⟩
    · simp only [kv, hv] at hrun hent
      have heE : e ∈ e0 :: E := hsub e (hp.mem_iff.2 List.mem_cons_self)
      have hs2 : ∀ q ∈ rest, q ∈ e0 :: E := fun q hq => hsub q (hp.mem_iff.2 (List.mem_cons_of_mem _ hq))
      have hpl := hp.length_eq
      have hL1 : left.length = rest.length + 1 := by simpa using hpl
      have hmem : ∀ q, q ∈ left → q = e ∨ q ∈ rest := fun q hq => by simpa using hp.mem_iff.1 hq
      have rb2 := rb.kept hgr (by first | (simp; done) | (simp; omega))
      have fb2 := fb.kept hgr (by first | (simp; done) | (simp; omega))
      have hb2 : Below w.heap.size w w2 := hbw.grown hgr hbw.size (fun q hq => by simp at hq; omega)
      have hz2 : w.heap.size + 2 < w2.heap.size := by omega
      have hown := hG2.owns.lt
      obtain ⟨va, vl, vc, hvv⟩ := HV.out e heE
      obtain ⟨en, et, ev⟩ := e
      simp only at hrun hent hvv
      subst hvv
      have BB : ∀ o1 o2, Below w2.heap.size w2 ((w2.alloc o1).alloc o2) := fun o1 o2 => ((Below.refl _ _).alloc (Nat.le_refl _) o1).alloc (by simp) o2
      have hb3 : ∀ o1 o2, Below w.heap.size w ((w2.alloc o1).alloc o2) := fun o1 o2 => hb2.trans ((BB o1 o2).mono hb2.size)
      by_cases hc : et < t
      · obtain ⟨W3, hW3⟩ : ∃ W3, W3 = (w2.alloc (Obj.cells #[Value.int .i64 U, Value.int .i64 en] 95)).alloc (Obj.cells #[Value.int .i64 et, Value.slice va vl vc] 124) := ⟨_, rfl⟩
        have hG3 : OwnG U W3 bm (w.heap.size + 2) (e0 :: E) rest := by rw [hW3]; exact hG2.below (BB _ _)
        have rb3 : Blk W3 w.heap.size #[.int .i64 0, .int .i64 0] 95 := by rw [hW3]; exact (rb2.alloc _).alloc _
        have fb3 : Blk W3 (w.heap.size + 1) #[.int .i64 x, .int .i64 y] 95 := by rw [hW3]; exact (fb2.alloc _).alloc _
        have hbw3 : Below w.heap.size w W3 := by rw [hW3]; exact hb3 _ _
        have k0 : W3.cell? ⟨w2.heap.size, 0, none⟩ = some (.int .i64 U) := by rw [hW3]; simp
        have k1 : W3.cell? ⟨w2.heap.size, 1, none⟩ = some (.int .i64 en) := by rw [hW3]; simp
        have m0 : W3.cell? ⟨w2.heap.size + 1, 0, none⟩ = some (.int .i64 et) := by rw [hW3]; simp [go_sem]
        have x0 := fb3.cell 0
        have x1 := fb3.cell 1
        have xf0 := fb3.frozen 0
        have xf1 := fb3.frozen 1
        simp at x0 x1
        have hgs : W3.grownBy ((W3.drew.setCell ⟨w.heap.size + 1, 0, none⟩ (.int .i64 U)).setCell ⟨w.heap.size + 1, 1, none⟩ (.int .i64 en)) (some (w.heap.size + 1)) := grown_undrew (grownT (set_grown _ _ _ _) (set_grown _ _ _ _))
        have hG4 := hG3.kept hgs (by simp; omega) (by simp)
        have rb4 := rb3.kept hgs (by simp)
        have fb4 : Blk ((W3.drew.setCell ⟨w.heap.size + 1, 0, none⟩ (.int .i64 U)).setCell ⟨w.heap.size + 1, 1, none⟩ (.int .i64 en)) (w.heap.size + 1) #[.int .i64 U, .int .i64 en] 95 := (Blk.set (Blk.set (W := W3.drew) (i := 0) (by exact fb3) (.int .i64 U)) (i := 1) (.int .i64 en))
        have hb4 : Below w.heap.size w ((W3.drew.setCell ⟨w.heap.size + 1, 0, none⟩ (.int .i64 U)).setCell ⟨w.heap.size + 1, 1, none⟩ (.int .i64 en)) := (hbw3.drew.setCell (by simp) _).setCell (by simp) _
        have hL4 : Least e0 U rest et U en := by
          rcases HN.out _ heE with q | q
          · right
            rw [← q]
            exact ⟨rfl, rfl, rfl⟩
          · left
            rcases hL with ⟨q1, q2⟩ | ⟨q1, _⟩
            · rcases hmem e0 q1 with q3 | q3
              · rw [q3] at q; simp at q
              · exact ⟨q3, q⟩
            · simp only at q; omega
        have H4 : Hid _ := And.intro hG4 (And.intro rb4 (And.intro fb4 hb4))
        have hq : ∀ {B i : Nat} {v : Value}, B ≠ w.heap.size + 1 → W3.drew.cell? ⟨B, i, none⟩ = some v → ((W3.drew.setCell ⟨w.heap.size + 1, 0, none⟩ (.int .i64 U)).setCell ⟨w.heap.size + 1, 1, none⟩ (.int .i64 en)).cell? ⟨B, i, none⟩ = some v := fun hn hx => cell_of_grown hgs hn hx
        clear hG hG2 hG3 rb fb rb2 fb2 rb3 fb3 hG4 rb4 fb4 hb4 hL hp hsub heE hz hpl
        go_wp2_with fail
        rw [← hW3]
        clear hW3
        refine wp_region_held_drew (S := fun w' => w'.cell? ⟨w2.heap.size, 0, none⟩ = some (.int .i64 U) ∧ w'.cell? ⟨w2.heap.size, 1, none⟩ = some (.int .i64 en) ∧ w'.cell? ⟨w2.heap.size + 1, 0, none⟩ = some (.int .i64 et)) (by kernel_rfl) (by exact ⟨k0, k1, m0⟩) (fun hS => ?_)
        refine wpAnyH_take (i := 0) (v := (.agg #[.int .i64 U, .int .i64 en])) rfl (by as_aux_lemma => kernel_rfl) (by as_aux_lemma => kernel_rfl) (by as_aux_lemma => kernel_rfl) (fun _ _ _ h => h) (Or.inl ⟨by kernel_rfl, ?_⟩) hS ?_
        · intro w hSw; (try dsimp only at hSw); go_simp
        simp only [Act.put, List.getElem_toArray, List.getElem_cons_zero, List.getElem_cons_succ, List.setIfInBounds_toArray, List.set_cons_zero, List.set_cons_succ]
        refine wpAnyH_take (i := 1) (v := (.pointer (some ⟨w2.heap.size + 1, 0, none⟩))) rfl (by as_aux_lemma => kernel_rfl) (by as_aux_lemma => kernel_rfl) (by as_aux_lemma => kernel_rfl) (fun _ _ _ h => h) (Or.inl ⟨by kernel_rfl, ?_⟩) hS ?_
        · intro w hSw; (try dsimp only at hSw); go_simp
        simp only [Act.put, List.getElem_toArray, List.getElem_cons_zero, List.getElem_cons_succ, List.setIfInBounds_toArray, List.set_cons_zero, List.set_cons_succ]
        refine wpAnyH_take (i := 2) (v := (.int .i64 et)) rfl (by as_aux_lemma => kernel_rfl) (by as_aux_lemma => kernel_rfl) (by as_aux_lemma => kernel_rfl) (fun _ _ _ h => h) (Or.inl ⟨by kernel_rfl, ?_⟩) hS ?_
        · intro w hSw; (try dsimp only at hSw); go_simp
        simp only [Act.put, List.getElem_toArray, List.getElem_cons_zero, List.getElem_cons_succ, List.setIfInBounds_toArray, List.set_cons_zero, List.set_cons_succ]
        refine wpAnyH_ready (rs := [3]) (by as_aux_lemma => kernel_rfl) (by simp) ?_
        refine AllReadyH.cons rfl (fun K hK => ?_) AllReadyH.nil
        go_simp
        refine hK.out _ _ ⟨hq (by omega) hS.1, hq (by omega) hS.2.1, hq (by omega) hS.2.2⟩ (fun hS => ?_)
        clear hK K
        refine wpAnyH_take (i := 4) (v := (.int .i64 et)) rfl (by as_aux_lemma => kernel_rfl) (by as_aux_lemma => kernel_rfl) (by as_aux_lemma => kernel_rfl) (fun _ _ _ h => h) (Or.inl ⟨by kernel_rfl, ?_⟩) hS ?_
        · intro w hSw; (try dsimp only at hSw); go_simp
        simp only [Act.put, List.getElem_toArray, List.getElem_cons_zero, List.getElem_cons_succ, List.setIfInBounds_toArray, List.set_cons_zero, List.set_cons_succ]
        refine wpAnyH_done (by kernel_rfl) ?_ _
        clear hS hq
        go_wp2
        go_roundw
        case rel => exact ⟨rest, et, U, en, rfl, hs2, hL4, H4.out.1, H4.out.2.1, H4.out.2.2.1, H4.out.2.2.2⟩
        case measure => rw [hlq]; exact Nat.lt_of_le_of_lt (Nat.le_of_eq (left_eq_of H4.out.1)) (by omega)
      · have hL4 : Least e0 U rest t x y := by
          rcases hL with ⟨q1, q2⟩ | q
          · left
            rcases hmem e0 q1 with q3 | q3
            · rw [q3] at q2; exact absurd q2 hc
            · exact ⟨q3, q2⟩
          · exact .inr q
        have H4 : Hid _ := fun o1 o2 => And.intro (hG2.below (BB o1 o2)) (And.intro ((rb2.alloc o1).alloc o2) (And.intro ((fb2.alloc o1).alloc o2) (hb3 o1 o2)))
        clear hG hG2 rb fb rb2 fb2 hL hp hsub heE hz hpl
        go_wp2
        go_roundw
        case rel => exact ⟨rest, t, x, y, rfl, hs2, hL4, (H4.out _ _).1, (H4.out _ _).2.1, (H4.out _ _).2.2.1, (H4.out _ _).2.2.2⟩
        case measure => rw [hlq, left_eq_of (H4.out _ _).1]; omega
end Go.Proofs.Ytckkkhabjfbngaa
