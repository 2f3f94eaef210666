/-
  Draws of an index and a file.
-/
import Derived.Test.YthdglflipeggpaaDraw6
import Derived.Test.YthdglflipeggpaaIndex4
import Derived.Test.YthdglflipeggpaaJoin
import Derived.Deep.RegionWith
import Derived.Deep.RegionHeld3
namespace Go.Proofs.Ythdglflipeggpaa
open Go.RowKit
set_option linter.unusedVariables false
set_option linter.unusedSimpArgs false

theorem rd_first {k : IntKind} {w : World} {a : Option Addr} {n z : Nat} {xs : List Int} (h : Rd k w a n xs) (hz : z ≤ n) : Rd k w a z (xs.take z) := by
  have hl := h.1
  refine ⟨by simp; omega, ?_⟩
  by_cases h0 : z = 0
  · exact .inl h0
  · right
    obtain ⟨b, off, rfl, hc⟩ := h.at (show 0 < n by omega)
    refine ⟨b, off, rfl, fun j hj => ?_⟩
    rw [hc j (by omega)]
    simp [List.getD_eq_getElem?_getD, hj]

set_option maxRecDepth 20000 in
set_option maxHeartbeats 3200000 in
theorem l4Draw_any (B b T fb lo hi : Nat) (p : Option Addr) (m cp : Nat) (xs : List Int) (w : World) (hs : Src w B b T) (hT : T ≤ 10000) (hBw : B ≤ w.heap.size) (cf : w.cell? ⟨fb, 0, none⟩ = some (.slice p m cp)) (hrow : RowI .u8 5 w lo hi (.slice p m cp) m xs) (hfb : fb ≠ b) (hlo : b < lo ∨ hi ≤ b) (hm : m ≤ 401) :
    Calls Try.prog 66 #[.pointer (some ⟨b, 0, none⟩), .pointer (some ⟨fb, 0, none⟩)] w fun e w' => ∃ E v ms L Z, e = .returned (.agg #[.int .i64 E, v, .int .i64 L, .int .i64 Z]) ∧ RowI .i64 2 w' w.heap.size w'.heap.size v ms.length ms ∧ ms.length ≤ 1000 ∧ Src w' B b (T + 2) ∧ w.grownBy w' (some b) := by
  have hlt := hs.lt
  have hfl := World.block_lt_of_cell? w _ cf
  simp only at hfl
  obtain ⟨_, _, hv, hmc, -⟩ := hrow.shape
  cases hv
  have HROW := hid hrow
  clear hrow
  have hw1 : IntKind.i64.wrap ((m : Int) + 1) = (m : Int) + 1 := by rw [IntKind.wrap_i64] <;> omega
  go_enter Try.func66, Try.ntmps66
  go_wp2
  refine region_join (fun a a' w' => ∃ (Q z : Nat), a' = (((((((((((((((a.put (some 6) (.pointer (some ⟨fb, 0, none⟩))).put (some 7) (.pointer (some ⟨fb, 0, none⟩))).put (some 8) (.pointer (some ⟨fb, 0, none⟩))).put (some 9) (.slice p m cp)).put (some 10) (.pointer (some ⟨b, 0, none⟩))).put (some 11) (.pointer (some ⟨fb, 0, none⟩))).put (some 12) (.pointer (some ⟨fb, 0, none⟩))).put (some 13) (.pointer (some ⟨fb, 0, none⟩))).put (some 14) (.slice p m cp)).put (some 15) (.int .i64 (m : Int))).put (some 16) (.int .i64 ((m : Int) + 1))).put (some 17) (.int .i64 (z : Int))).put (some 18) (.slice p z cp)).put (some 19) (.agg #[.slice p z cp])).put (some 5) (.pointer (some ⟨Q, 0, none⟩))) ∧ z ≤ m ∧ Src w' B b (T + 1) ∧ (w.alloc (.cells #[.int .i64 0, .slice none 0 0, .int .i64 0, .int .i64 0] 26)).grownBy w' (some b) ∧ w.heap.size + 1 ≤ Q ∧ Q < w'.heap.size ∧ w'.cell? ⟨Q, 0, none⟩ = some (.slice p z cp)) ?_ ?_
  · have hd : (w.alloc (.cells #[.int .i64 0, .slice none 0 0, .int .i64 0, .int .i64 0] 26)).grownBy (w.alloc (.cells #[.int .i64 0, .slice none 0 0, .int .i64 0, .int .i64 0] 26)).drew (some b) := ⟨rfl, rfl, rfl, Nat.le_refl _, fun _ _ _ => rfl⟩
    have hs0 : Src (w.alloc (.cells #[.int .i64 0, .slice none 0 0, .int .i64 0, .int .i64 0] 26)).drew B b T := (hs.alloc _).kept (w' := (w.alloc (.cells #[.int .i64 0, .slice none 0 0, .int .i64 0, .int .i64 0] 26)).drew) (row := none) ⟨rfl, rfl, rfl, Nat.le_refl _, fun _ _ _ => rfl⟩ (by simp)
    have cf0 : (w.alloc (.cells #[.int .i64 0, .slice none 0 0, .int .i64 0, .int .i64 0] 26)).drew.cell? ⟨fb, 0, none⟩ = some (.slice p m cp) := cell_later (((Below.refl _ _).alloc (Nat.le_refl _) _).drew) cf
    have hsz : (w.alloc (.cells #[.int .i64 0, .slice none 0 0, .int .i64 0, .int .i64 0] 26)).drew.heap.size = w.heap.size + 1 := by simp [World.size_alloc]
    refine wp_region_held_drew (S := fun w' => w'.cell? ⟨fb, 0, none⟩ = some (.slice p m cp)) (by kernel_rfl) cf0 (fun hS => ?_)
    have hg0 := hd
    generalize (w.alloc (.cells #[.int .i64 0, .slice none 0 0, .int .i64 0, .int .i64 0] 26)).drew = D at *
    have hsz1 : D.heap.size ≤ w.heap.size + 1 := by omega
    have hsz2 : w.heap.size + 1 ≤ D.heap.size := by omega
    clear hsz
    refine wpAnyH_take (i := 0) (v := (.pointer (some ⟨fb, 0, none⟩))) rfl (by as_aux_lemma => kernel_rfl) (by as_aux_lemma => kernel_rfl) (by as_aux_lemma => kernel_rfl) (fun _ _ _ h => nomatch h.1) (Or.inl ⟨by kernel_rfl, ?_⟩) hS ?_
    · intro w hSw; (try dsimp only at hSw); go_simp
    simp only [Act.put, List.getElem_toArray, List.getElem_cons_zero, List.getElem_cons_succ, List.setIfInBounds_toArray, List.set_cons_zero, List.set_cons_succ]
    refine wpAnyH_take (i := 1) (v := (.pointer (some ⟨fb, 0, none⟩))) rfl (by as_aux_lemma => kernel_rfl) (by as_aux_lemma => kernel_rfl) (by as_aux_lemma => kernel_rfl) (fun _ _ _ h => nomatch h.1) (Or.inl ⟨by kernel_rfl, ?_⟩) hS ?_
    · intro w hSw; (try dsimp only at hSw); go_simp
    simp only [Act.put, List.getElem_toArray, List.getElem_cons_zero, List.getElem_cons_succ, List.setIfInBounds_toArray, List.set_cons_zero, List.set_cons_succ]
    refine wpAnyH_take (i := 2) (v := (.pointer (some ⟨fb, 0, none⟩))) rfl (by as_aux_lemma => kernel_rfl) (by as_aux_lemma => kernel_rfl) (by as_aux_lemma => kernel_rfl) (fun _ _ _ h => nomatch h.1) (Or.inl ⟨by kernel_rfl, ?_⟩) hS ?_
    · intro w hSw; (try dsimp only at hSw); go_simp
    simp only [Act.put, List.getElem_toArray, List.getElem_cons_zero, List.getElem_cons_succ, List.setIfInBounds_toArray, List.set_cons_zero, List.set_cons_succ]
    refine wpAnyH_take (i := 3) (v := (.slice p m cp)) rfl (by as_aux_lemma => kernel_rfl) (by as_aux_lemma => kernel_rfl) (by as_aux_lemma => kernel_rfl) (fun _ _ _ h => nomatch h.1) (Or.inl ⟨by kernel_rfl, ?_⟩) hS ?_
    · intro w hSw; (try dsimp only at hSw); go_simp
    simp only [Act.put, List.getElem_toArray, List.getElem_cons_zero, List.getElem_cons_succ, List.setIfInBounds_toArray, List.set_cons_zero, List.set_cons_succ]
    refine wpAnyH_take (i := 4) (v := (.pointer (some ⟨b, 0, none⟩))) rfl (by as_aux_lemma => kernel_rfl) (by as_aux_lemma => kernel_rfl) (by as_aux_lemma => kernel_rfl) (fun _ _ _ h => nomatch h.1) (Or.inl ⟨by kernel_rfl, ?_⟩) hS ?_
    · intro w hSw; (try dsimp only at hSw); go_simp
    simp only [Act.put, List.getElem_toArray, List.getElem_cons_zero, List.getElem_cons_succ, List.setIfInBounds_toArray, List.set_cons_zero, List.set_cons_succ]
    refine wpAnyH_take (i := 5) (v := (.pointer (some ⟨fb, 0, none⟩))) rfl (by as_aux_lemma => kernel_rfl) (by as_aux_lemma => kernel_rfl) (by as_aux_lemma => kernel_rfl) (fun _ _ _ h => nomatch h.1) (Or.inl ⟨by kernel_rfl, ?_⟩) hS ?_
    · intro w hSw; (try dsimp only at hSw); go_simp
    simp only [Act.put, List.getElem_toArray, List.getElem_cons_zero, List.getElem_cons_succ, List.setIfInBounds_toArray, List.set_cons_zero, List.set_cons_succ]
    refine wpAnyH_take (i := 6) (v := (.pointer (some ⟨fb, 0, none⟩))) rfl (by as_aux_lemma => kernel_rfl) (by as_aux_lemma => kernel_rfl) (by as_aux_lemma => kernel_rfl) (fun _ _ _ h => nomatch h.1) (Or.inl ⟨by kernel_rfl, ?_⟩) hS ?_
    · intro w hSw; (try dsimp only at hSw); go_simp
    simp only [Act.put, List.getElem_toArray, List.getElem_cons_zero, List.getElem_cons_succ, List.setIfInBounds_toArray, List.set_cons_zero, List.set_cons_succ]
    refine wpAnyH_take (i := 7) (v := (.pointer (some ⟨fb, 0, none⟩))) rfl (by as_aux_lemma => kernel_rfl) (by as_aux_lemma => kernel_rfl) (by as_aux_lemma => kernel_rfl) (fun _ _ _ h => nomatch h.1) (Or.inl ⟨by kernel_rfl, ?_⟩) hS ?_
    · intro w hSw; (try dsimp only at hSw); go_simp
    simp only [Act.put, List.getElem_toArray, List.getElem_cons_zero, List.getElem_cons_succ, List.setIfInBounds_toArray, List.set_cons_zero, List.set_cons_succ]
    refine wpAnyH_take (i := 8) (v := (.slice p m cp)) rfl (by as_aux_lemma => kernel_rfl) (by as_aux_lemma => kernel_rfl) (by as_aux_lemma => kernel_rfl) (fun _ _ _ h => nomatch h.1) (Or.inl ⟨by kernel_rfl, ?_⟩) hS ?_
    · intro w hSw; (try dsimp only at hSw); go_simp
    simp only [Act.put, List.getElem_toArray, List.getElem_cons_zero, List.getElem_cons_succ, List.setIfInBounds_toArray, List.set_cons_zero, List.set_cons_succ]
    refine wpAnyH_take (i := 9) (v := (.int .i64 (m : Int))) rfl (by as_aux_lemma => kernel_rfl) (by as_aux_lemma => kernel_rfl) (by as_aux_lemma => kernel_rfl) (fun _ _ _ h => nomatch h.1) (Or.inl ⟨by kernel_rfl, ?_⟩) hS ?_
    · intro w hSw; (try dsimp only at hSw); go_simp
    simp only [Act.put, List.getElem_toArray, List.getElem_cons_zero, List.getElem_cons_succ, List.setIfInBounds_toArray, List.set_cons_zero, List.set_cons_succ]
    refine wpAnyH_take (i := 10) (v := (.int .i64 ((m : Int) + 1))) rfl (by as_aux_lemma => kernel_rfl) (by as_aux_lemma => kernel_rfl) (by as_aux_lemma => kernel_rfl) (fun _ _ _ h => nomatch h.1) (Or.inl ⟨by kernel_rfl, ?_⟩) hS ?_
    · intro w hSw; (try dsimp only at hSw); go_simp
    simp only [Act.put, List.getElem_toArray, List.getElem_cons_zero, List.getElem_cons_succ, List.setIfInBounds_toArray, List.set_cons_zero, List.set_cons_succ]
    refine wpAnyH_ready (rs := [11, 14]) (by as_aux_lemma => kernel_rfl) (by simp) ?_
    refine AllReadyH.cons rfl (fun K hK => ?_) (AllReadyH.cons rfl (fun K hK => ?_) AllReadyH.nil)
    · skip
      go_simp
      refine (l1Next_any B b T ((m : Int) + 1) _ hs0 (by omega) (by omega)).mono ?_
      rintro e w2 ⟨r, rfl, hr, hs2, hg2⟩
      obtain ⟨hr0, hr1⟩ := hr.2 (by omega)
      obtain ⟨z, rfl⟩ := Int.eq_ofNat_of_zero_le hr0
      have hzm : z ≤ m := by omega
      have hzc : z ≤ cp := by omega
      have hz1 : (z : Int) ≤ (m : Int) := by omega
      have hz2 : (z : Int) ≤ (cp : Int) := by omega
      clear hr hr0 hr1
      refine hK.out _ _ (grown_cell hg2 hS (fun j hj => by cases hj; exact hfb)) (fun hS => ?_)
      clear hK K
      (try simp only [Act.put, List.getElem_toArray, List.getElem_cons_zero, List.getElem_cons_succ, List.setIfInBounds_toArray, List.set_cons_zero, List.set_cons_succ])
      refine wpAnyH_take (i := 12) (v := (.slice p z cp)) rfl (by as_aux_lemma => kernel_rfl) (by as_aux_lemma => kernel_rfl) (by as_aux_lemma => kernel_rfl) (fun _ _ _ h => nomatch h.1) (Or.inl ⟨by kernel_rfl, ?_⟩) hS ?_
      · intro w hSw; (try dsimp only at hSw); go_simp
      simp only [Act.put, List.getElem_toArray, List.getElem_cons_zero, List.getElem_cons_succ, List.setIfInBounds_toArray, List.set_cons_zero, List.set_cons_succ]
      refine wpAnyH_take (i := 13) (v := (.agg #[.slice p z cp])) rfl (by as_aux_lemma => kernel_rfl) (by as_aux_lemma => kernel_rfl) (by as_aux_lemma => kernel_rfl) (fun _ _ _ h => nomatch h.1) (Or.inl ⟨by kernel_rfl, ?_⟩) hS ?_
      · intro w hSw; (try dsimp only at hSw); go_simp
      simp only [Act.put, List.getElem_toArray, List.getElem_cons_zero, List.getElem_cons_succ, List.setIfInBounds_toArray, List.set_cons_zero, List.set_cons_succ]
      refine wpAnyH_ready (rs := [14]) (by as_aux_lemma => kernel_rfl) (by simp) ?_
      refine AllReadyH.cons rfl (fun K hK => ?_) AllReadyH.nil
      go_simp
      have NB : ∀ o, Below w2.heap.size w2 (w2.alloc o) := fun o => (Below.refl _ _).alloc (Nat.le_refl _) o
      have hS2 := hS
      refine hK.out _ _ (cell_later (NB _) hS) (fun hS => ?_)
      clear hK K
      (try simp only [Act.put, List.getElem_toArray, List.getElem_cons_zero, List.getElem_cons_succ, List.setIfInBounds_toArray, List.set_cons_zero, List.set_cons_succ])
      refine wpAnyH_ready (rs := [15]) (by as_aux_lemma => kernel_rfl) (by simp) ?_
      refine AllReadyH.cons rfl (fun K hK => ?_) AllReadyH.nil
      go_simp
      refine hK.out _ _ (cell_later (NB _) hS2) (fun hS => ?_)
      clear hK K
      (try simp only [Act.put, List.getElem_toArray, List.getElem_cons_zero, List.getElem_cons_succ, List.setIfInBounds_toArray, List.set_cons_zero, List.set_cons_succ])
      refine wpAnyH_done (by kernel_rfl) ?_ _
      refine ⟨rfl, w2.heap.size, z, ?_, hzm, hs2.alloc _, grown_trans (grown_trans hg0 hg2) (grown_none (World.grownBy_alloc w2 _ none)), ?_, ?_, ?_⟩
      · simp only [Act.put, List.getElem_toArray, List.getElem_cons_zero, List.getElem_cons_succ, List.setIfInBounds_toArray, List.set_cons_zero, List.set_cons_succ]
      · have := hg2.size; omega
      · simp
      · simp [go_sem]
    · skip
      go_simp
      have NB : ∀ o, Below D.heap.size D (D.alloc o) := fun o => (Below.refl _ _).alloc (Nat.le_refl _) o
      refine hK.out _ _ (cell_later (NB _) hS) (fun hS => ?_)
      clear hK K
      (try simp only [Act.put, List.getElem_toArray, List.getElem_cons_zero, List.getElem_cons_succ, List.setIfInBounds_toArray, List.set_cons_zero, List.set_cons_succ])
      refine wpAnyH_ready (rs := [11]) (by as_aux_lemma => kernel_rfl) (by simp) ?_
      refine AllReadyH.cons rfl (fun K hK => ?_) AllReadyH.nil
      go_simp
      refine (l1Next_any B b T ((m : Int) + 1) _ (hs0.alloc _) (by omega) (by omega)).mono ?_
      rintro e w2 ⟨r, rfl, hr, hs2, hg2⟩
      obtain ⟨hr0, hr1⟩ := hr.2 (by omega)
      obtain ⟨z, rfl⟩ := Int.eq_ofNat_of_zero_le hr0
      have hzm : z ≤ m := by omega
      have hzc : z ≤ cp := by omega
      have hz1 : (z : Int) ≤ (m : Int) := by omega
      have hz2 : (z : Int) ≤ (cp : Int) := by omega
      clear hr hr0 hr1
      have hbl := (Blk.new D #[.slice none 0 0] 28).kept hg2 (by simp; omega)
      have y0 : w2.cell? ⟨D.heap.size, 0, none⟩ = some (.slice none 0 0) := hbl.cell 0
      have yf0 := hbl.frozen 0
      have hDl := hbl.lt
      have hDf : D.heap.size ≠ fb := by omega
      have hDb : D.heap.size ≠ b := by omega
      refine hK.out _ _ (grown_cell hg2 hS (fun j hj => by cases hj; exact hfb)) (fun hS => ?_)
      clear hK K
      (try simp only [Act.put, List.getElem_toArray, List.getElem_cons_zero, List.getElem_cons_succ, List.setIfInBounds_toArray, List.set_cons_zero, List.set_cons_succ])
      refine wpAnyH_take (i := 12) (v := (.slice p z cp)) rfl (by as_aux_lemma => kernel_rfl) (by as_aux_lemma => kernel_rfl) (by as_aux_lemma => kernel_rfl) (fun _ _ _ h => nomatch h.1) (Or.inl ⟨by kernel_rfl, ?_⟩) hS ?_
      · intro w hSw; (try dsimp only at hSw); go_simp
      simp only [Act.put, List.getElem_toArray, List.getElem_cons_zero, List.getElem_cons_succ, List.setIfInBounds_toArray, List.set_cons_zero, List.set_cons_succ]
      refine wpAnyH_take (i := 13) (v := (.agg #[.slice p z cp])) rfl (by as_aux_lemma => kernel_rfl) (by as_aux_lemma => kernel_rfl) (by as_aux_lemma => kernel_rfl) (fun _ _ _ h => nomatch h.1) (Or.inl ⟨by kernel_rfl, ?_⟩) hS ?_
      · intro w hSw; (try dsimp only at hSw); go_simp
      simp only [Act.put, List.getElem_toArray, List.getElem_cons_zero, List.getElem_cons_succ, List.setIfInBounds_toArray, List.set_cons_zero, List.set_cons_succ]
      refine wpAnyH_ready (rs := [15]) (by as_aux_lemma => kernel_rfl) (by simp) ?_
      refine AllReadyH.cons rfl (fun K hK => ?_) AllReadyH.nil
      go_simp
      refine hK.out _ _ (grown_cell (setCell_grown w2 D.heap.size 0 _) hS (fun j hj => by cases hj; exact fun e => hDf e.symm)) (fun hS => ?_)
      clear hK K
      (try simp only [Act.put, List.getElem_toArray, List.getElem_cons_zero, List.getElem_cons_succ, List.setIfInBounds_toArray, List.set_cons_zero, List.set_cons_succ])
      refine wpAnyH_done (by kernel_rfl) ?_ _
      refine ⟨rfl, D.heap.size, z, ?_, hzm, hs2.kept (setCell_grown w2 D.heap.size 0 _) (fun j hj => by cases hj; exact ⟨by omega, hDb⟩), grown_mix (grown_trans hg0 (grownBy_alloc_trans hg2)) (setCell_grown w2 D.heap.size 0 _) (fun j hj => by cases hj; simp; omega), ?_, ?_, ?_⟩
      · simp only [Act.put, List.getElem_toArray, List.getElem_cons_zero, List.getElem_cons_succ, List.setIfInBounds_toArray, List.set_cons_zero, List.set_cons_succ]
      · omega
      · simp [World.setCell]; omega
      · exact (hbl.set (i := 0) (.slice p z cp)).cell 0
  · rintro a' w1 ⟨Q, z, rfl, hzm, hs1, hg1, hQ, hQl, cQ⟩
    simp only [Act.put, List.getElem_toArray, List.getElem_cons_zero, List.getElem_cons_succ, List.setIfInBounds_toArray, List.set_cons_zero, List.set_cons_succ]
    have hz1 := hg1.size
    rw [World.size_alloc] at hz1
    have c0 : w1.cell? ⟨w.heap.size, 0, none⟩ = some (.int .i64 0) := grown_cell hg1 (by simp [go_sem]) (fun j hj => by cases hj; simp; omega)
    have cf0 : w1.frozen? ⟨w.heap.size, 0, none⟩ = false := (World.frozen?_of_block (hg1.block w.heap.size (by simp) (by simp; omega))).trans (by simp [go_sem])
    have c1 : w1.cell? ⟨w.heap.size, 1, none⟩ = some (.slice none 0 0) := grown_cell hg1 (by simp [go_sem]) (fun j hj => by cases hj; simp; omega)
    have cf1 : w1.frozen? ⟨w.heap.size, 1, none⟩ = false := (World.frozen?_of_block (hg1.block w.heap.size (by simp) (by simp; omega))).trans (by simp [go_sem])
    have c2 : w1.cell? ⟨w.heap.size, 2, none⟩ = some (.int .i64 0) := grown_cell hg1 (by simp [go_sem]) (fun j hj => by cases hj; simp; omega)
    have cf2 : w1.frozen? ⟨w.heap.size, 2, none⟩ = false := (World.frozen?_of_block (hg1.block w.heap.size (by simp) (by simp; omega))).trans (by simp [go_sem])
    have c3 : w1.cell? ⟨w.heap.size, 3, none⟩ = some (.int .i64 0) := grown_cell hg1 (by simp [go_sem]) (fun j hj => by cases hj; simp; omega)
    have cf3 : w1.frozen? ⟨w.heap.size, 3, none⟩ = false := (World.frozen?_of_block (hg1.block w.heap.size (by simp) (by simp; omega))).trans (by simp [go_sem])
    have hgw1 : w.grownBy w1 (some b) := grownBy_alloc_trans hg1
    clear hg1
    go_wp2_with fail
    refine (l1Next_any B b (T + 1) 4 w1 hs1 (by omega) (by omega)).mono ?_
    rintro e w2 ⟨r, rfl, hr, hs2, hg2⟩
    obtain ⟨hr0, hr1⟩ := hr.2 (by omega)
    clear hr hs1
    have hgw2 := grown_trans hgw1 hg2
    have hQ2 := grown_cell hg2 cQ (fun j hj => by cases hj; simp; omega)
    have hbyt := rd_first ((HROW.out.chg (Chg.one hgw2) (by omega)).read) hzm
    have s2 := hg2.size
    have e0 := grown_cell hg2 c0 (fun j hj => by cases hj; simp; omega)
    have ef0 := (World.frozen?_of_block (w := w1) (hg2.block w.heap.size (by omega) (by simp; omega))).trans cf0
    have e1 := grown_cell hg2 c1 (fun j hj => by cases hj; simp; omega)
    have ef1 := (World.frozen?_of_block (w := w1) (hg2.block w.heap.size (by omega) (by simp; omega))).trans cf1
    have e2 := grown_cell hg2 c2 (fun j hj => by cases hj; simp; omega)
    have ef2 := (World.frozen?_of_block (w := w1) (hg2.block w.heap.size (by omega) (by simp; omega))).trans cf2
    have e3 := grown_cell hg2 c3 (fun j hj => by cases hj; simp; omega)
    have ef3 := (World.frozen?_of_block (w := w1) (hg2.block w.heap.size (by omega) (by simp; omega))).trans cf3
    have HBY := hid hbyt
    clear hbyt
    have hE : IntKind.i64.wrap (1 + r) = 1 + r := by rw [IntKind.wrap_i64] <;> omega
    go_wp2_with fail
    refine (l4Extend_any (1 + r) none 0 0 [] 0 0 Q p z cp (xs.take z) w2 ⟨rfl, .inl rfl⟩ hQ2 HBY.out (by omega) (by omega) (by omega) (by omega) (by omega) (by omega) (by omega)).mono ?_
    rintro e w3 ⟨v3, rfl, ho3, hb3⟩
    simp only [List.nil_append] at ho3
    have hml := hearM_len (1 + r) 0 ((0 : Nat) : Int) ((xs.take z).drop 0)
    have hxz : ((xs.take z).drop 0).length ≤ 401 := by simp; omega
    obtain ⟨M, hM⟩ : ∃ M, M = hearM (1 + r) 0 ((0 : Nat) : Int) ((xs.take z).drop 0) := ⟨_, rfl⟩
    obtain ⟨N, hN⟩ : ∃ N, N = hearN 0 ((xs.take z).drop 0) := ⟨_, rfl⟩
    rw [← hM] at ho3 hml
    rw [← hN]
    clear hM hN
    obtain ⟨a3, c3', rfl, -⟩ := ho3.rdc
    have HO3 := hid ho3
    clear ho3
    have hs3 := hs2.kept (grownBy_of_below hb3) (by simp)
    have hgw3 := grown_trans hgw2 (grown_none (grownBy_of_below hb3))
    have s3 := hb3.size
    have y0 := cell_later hb3 e0
    have yf0 := (hb3.frozen (p := ⟨w.heap.size, 0, none⟩) (by simp; omega)).trans ef0
    have y1 := cell_later hb3 e1
    have yf1 := (hb3.frozen (p := ⟨w.heap.size, 1, none⟩) (by simp; omega)).trans ef1
    have y2 := cell_later hb3 e2
    have yf2 := (hb3.frozen (p := ⟨w.heap.size, 2, none⟩) (by simp; omega)).trans ef2
    have y3 := cell_later hb3 e3
    have yf3 := (hb3.frozen (p := ⟨w.heap.size, 3, none⟩) (by simp; omega)).trans ef3
    go_wp2
    refine bodyPost_ret (v := .agg #[.int .i64 (1 + r), .slice a3 M.length c3', .int .i64 N, .int .i64 z]) (by simp [results, Try.results66, go_sem, y0, y1, y2, y3]) rfl ⟨_, _, M, _, _, rfl, ?_, by omega, ?_, ?_⟩
    · exact RowI.mono (RowI.of (Own.setBelow (Own.setBelow (Own.setBelow (Own.setBelow HO3.out (by simp; omega) _) (by simp; omega) _) (by simp; omega) _) (by simp; omega) _)) (by omega) (Nat.le_refl _)
    · have st : ∀ (W : World) (i : Nat) (u : Value), Src W B b (T + 2) → Src (W.setCell ⟨w.heap.size, i, none⟩ u) B b (T + 2) := fun W i u h => h.kept (set_grown W w.heap.size i u) (fun j hj => by cases hj; exact ⟨hBw, by omega⟩)
      exact st _ _ _ (st _ _ _ (st _ _ _ (st _ _ _ hs3)))
    · have st : ∀ (W : World) (i : Nat) (u : Value), w.grownBy W (some b) → w.grownBy (W.setCell ⟨w.heap.size, i, none⟩ u) (some b) := fun W i u h => grown_mix h (set_grown W w.heap.size i u) (fun j hj => by cases hj; exact Nat.le_refl _)
      exact st _ _ _ (st _ _ _ (st _ _ _ (st _ _ _ hgw3)))
end Go.Proofs.Ythdglflipeggpaa
