/-
  What the program's index hears.
-/
import Derived.Test.YthdglflipeggpaaIndex1
import Derived.Test.YthdglflipeggpaaBox
import Derived.Test.YthdglflipeggpaaAppend
import Derived.Deep.RegionWith
import Derived.Deep.RegionHeld3
namespace Go.Proofs.Ythdglflipeggpaa
open Go.RowKit
set_option linter.unusedVariables false
set_option linter.unusedSimpArgs false

theorem tmod_small {x E : Int} (h0 : 0 ≤ x) (h1 : x ≤ 1000) (hE : 1 ≤ E) : IntKind.i64.wrap (Int.tmod x E) = Int.tmod x E := by
  have := Int.tmod_nonneg E h0
  have h2 : Int.tmod x E ≤ x := by
    rw [Int.tmod_eq_emod_of_nonneg h0]
    have h3 := Int.emod_add_mul_ediv x E
    have h4 : 0 ≤ E * (x / E) := Int.mul_nonneg (by omega) (Int.ediv_nonneg h0 (by omega))
    omega
  rw [IntKind.wrap_i64] <;> omega

set_option maxRecDepth 20000 in
set_option maxHeartbeats 3200000 in
theorem hear_any (p lo : Nat) (E L Z : Int) (ms : List Int) (v : Value) (a : Option Addr) (n ca : Nat) (bs : List Int) (w0 w : World)
    (hbl : Blk w p #[.int .i64 E, v, .int .i64 L, .int .i64 Z] 26) (hown : Own .i64 2 w lo v ms.length ms) (ha : Rd .u8 w0 a n bs) (hb : Below w0.heap.size w0 w)
    (hp : w0.heap.size ≤ p) (hlo : w0.heap.size ≤ lo) (hlo2 : lo ≤ w.heap.size) (hE1 : 1 ≤ E) (hE2 : E ≤ 9) (hL1 : 0 ≤ L) (hL2 : L ≤ 400) (hZ1 : 0 ≤ Z) (hZ2 : Z ≤ 400) (hn : n ≤ 400) (hm : ms.length ≤ 400) :
    Calls Try.prog 45 #[.pointer (some ⟨p, 0, none⟩), .slice a n ca] w fun e w' => ∃ r v', e = .returned r ∧ Blk w' p #[.int .i64 E, v', .int .i64 (hearN L bs), .int .i64 (Z + n)] 26 ∧ Own .i64 2 w' lo v' (ms ++ hearM E L Z bs).length (ms ++ hearM E L Z bs) ∧ Below w0.heap.size w0 w' ∧ lo ≤ w'.heap.size := by
  obtain ⟨i0, hi, hz0, hz1, hz2⟩ := info_parts info64
  have hlen := ha.1
  have hE0 : E ≠ 0 := by omega
  go_enter Try.func45, Try.ntmps45
  go_wp2
  go_loopw [8] (fun i wr => ∃ (k : Nat) (Lk : Int) (M : List Int) (v : Value), k ≤ n ∧ i = .int .i64 k ∧ Heard E L Z ms bs k Lk M ∧ Blk wr p #[.int .i64 E, v, .int .i64 Lk, .int .i64 (Z + k)] 26 ∧ Own .i64 2 wr lo v M.length M ∧ Below w0.heap.size w0 wr ∧ lo ≤ wr.heap.size) (fun i _ => n - (intOf i).toNat)
  case atStart => exact ⟨0, L, ms, v, Nat.zero_le _, rfl, Heard.start _ _ _ _ _, by simpa using hbl, hown, hb, hlo2⟩
  case round =>
    obtain ⟨k, Lk, M, v, hk, rfl, hh, hblk, ho, hbw, hlw⟩ := hrel
    by_cases hlt : k < n
    · obtain ⟨b1, o1, rfl, hc1⟩ := (ha.below hbw).at hlt
      have hk1 := hc1 k hlt
      clear hc1
      have hlt' : (k : Int) < (n : Int) := by omega
      have hML := hh.2.2.1
      have hLk1 := hh.2.2.2.1
      have hLk2 := hh.2.2.2.2
      have x0 := hblk.cell 0
      have x1 := hblk.cell 1
      have x2 := hblk.cell 2
      have x3 := hblk.cell 3
      have f1 := hblk.frozen 1
      have f2 := hblk.frozen 2
      have f3 := hblk.frozen 3
      simp at x0 x1 x2 x3
      have s3 := hblk.set (i := 3) (.int .i64 (Z + k + 1))
      have g3 := setCell_grown wr p 3 (.int .i64 (Z + k + 1))
      have hnr := hblk.not_row (by decide) ho
      have HH : Hid (Heard E L Z ms bs k Lk M) := hh
      have HBL := hid hblk
      have HO := hid ho
      have HS3 := hid s3
      have HG3 := hid g3
      have HNR := hid hnr
      clear hh hblk ho s3 g3 hnr
      by_cases hbk : bs.getD k 0 = 10
      · have HBK : Hid (bs.getD k 0 = 10) := hbk
        rw [hbk] at hk1
        clear hbk
        have hw1 : IntKind.i64.wrap (Int.tmod (Lk + 1) E) = Int.tmod (Lk + 1) E := tmod_small (by omega) (by omega) hE1
        have s2 := HS3.out.set (i := 2) (.int .i64 (Lk + 1))
        have g2 := setCell_grown (wr.setCell ⟨p, 3, none⟩ (.int .i64 (Z + k + 1))) p 2 (.int .i64 (Lk + 1))
        have gg := grownBy_trans HG3.out g2
        have o2 := Own.kept HO.out gg (fun j hj e => HNR.out (by rw [hj, e]))
        have b2 : Below w0.heap.size w0 ((wr.setCell ⟨p, 3, none⟩ (.int .i64 (Z + k + 1))).setCell ⟨p, 2, none⟩ (.int .i64 (Lk + 1))) := (hbw.setCell hp _).setCell hp _
        have l2 : lo ≤ ((wr.setCell ⟨p, 3, none⟩ (.int .i64 (Z + k + 1))).setCell ⟨p, 2, none⟩ (.int .i64 (Lk + 1))).heap.size := by simpa [World.setCell] using hlw
        have y0 := s2.cell 0
        have y1 := s2.cell 1
        have y2 := s2.cell 2
        have y3 := s2.cell 3
        have yf1 := s2.frozen 1
        simp at y0 y1 y2 y3
        have HS2 := hid s2
        have HO2 := hid o2
        clear s2 g2 gg o2 HS3 HG3 HNR HO HBL
        by_cases hmk : Int.tmod (Lk + 1) E = 0
        · have HM := hid hmk
          have hmd : E ∣ Lk + 1 := Int.dvd_of_tmod_eq_zero hmk
          obtain ⟨av, cv, rfl, -⟩ := HO2.out.rdc
          go_wp2
          go_region
          all_goals
            go_wp2
            have oD : Own .i64 2 ((wr.setCell ⟨p, 3, none⟩ (.int .i64 (Z + k + 1))).setCell ⟨p, 2, none⟩ (.int .i64 (Lk + 1))).drew.drew lo (.slice av M.length cv) M.length M := HO2.out
            have bD : Blk ((wr.setCell ⟨p, 3, none⟩ (.int .i64 (Z + k + 1))).setCell ⟨p, 2, none⟩ (.int .i64 (Lk + 1))).drew.drew p #[.int .i64 E, .slice av M.length cv, .int .i64 (Lk + 1), .int .i64 (Z + k + 1)] 26 := by
              have h2 := HS2.out
              simp at h2
              exact h2
            have uD : Below w0.heap.size w0 ((wr.setCell ⟨p, 3, none⟩ (.int .i64 (Z + k + 1))).setCell ⟨p, 2, none⟩ (.int .i64 (Lk + 1))).drew.drew := b2.drew.drew
            have lD : lo ≤ ((wr.setCell ⟨p, 3, none⟩ (.int .i64 (Z + k + 1))).setCell ⟨p, 2, none⟩ (.int .i64 (Lk + 1))).drew.drew.heap.size := l2
            refine wp_region_held_drew (S := fun w' => w'.cell? ⟨p, 3, none⟩ = some (.int .i64 (Z + k + 1)) ∧ w'.frozen? ⟨p, 1, none⟩ = false ∧ ∃ u, w'.cell? ⟨p, 1, none⟩ = some u) (by kernel_rfl) (by exact ⟨bD.cell 3, bD.frozen 1, _, bD.cell 1⟩) (fun hS => ?_)
            generalize ((wr.setCell ⟨p, 3, none⟩ (.int .i64 (Z + k + 1))).setCell ⟨p, 2, none⟩ (.int .i64 (Lk + 1))).drew.drew = D at *
            have ld := bD.lt
            have NB : ∀ o, Below D.heap.size D (D.alloc o) := fun o => (Below.refl _ _).alloc (Nat.le_refl _) o
            have e1 := bD.cell 1
            simp at e1
            have e1' : ∀ o, (D.alloc o).cell? ⟨p, 1, none⟩ = some (.slice av M.length cv) := fun o => cell_later (NB o) e1
            have HOD := hid oD
            have HBD := hid bD
            clear oD bD HO2 HS2
            refine wpAnyH_take (i := 0) (v := (.pointer (some ⟨p, 0, none⟩))) rfl (by as_aux_lemma => kernel_rfl) (by as_aux_lemma => kernel_rfl) (by as_aux_lemma => kernel_rfl) (fun _ _ _ h => h) (Or.inl ⟨by kernel_rfl, ?_⟩) hS ?_
            · intro w hSw; (try dsimp only at hSw); go_simp
            simp only [Act.put, List.getElem_toArray, List.getElem_cons_zero, List.getElem_cons_succ, List.setIfInBounds_toArray, List.set_cons_zero, List.set_cons_succ]
            refine wpAnyH_take (i := 1) (v := (.pointer (some ⟨p, 0, none⟩))) rfl (by as_aux_lemma => kernel_rfl) (by as_aux_lemma => kernel_rfl) (by as_aux_lemma => kernel_rfl) (fun _ _ _ h => h) (Or.inl ⟨by kernel_rfl, ?_⟩) hS ?_
            · intro w hSw; (try dsimp only at hSw); go_simp
            simp only [Act.put, List.getElem_toArray, List.getElem_cons_zero, List.getElem_cons_succ, List.setIfInBounds_toArray, List.set_cons_zero, List.set_cons_succ]
            refine wpAnyH_take (i := 2) (v := (.pointer (some ⟨p, 0, none⟩))) rfl (by as_aux_lemma => kernel_rfl) (by as_aux_lemma => kernel_rfl) (by as_aux_lemma => kernel_rfl) (fun _ _ _ h => h) (Or.inl ⟨by kernel_rfl, ?_⟩) hS ?_
            · intro w hSw; (try dsimp only at hSw); go_simp
            simp only [Act.put, List.getElem_toArray, List.getElem_cons_zero, List.getElem_cons_succ, List.setIfInBounds_toArray, List.set_cons_zero, List.set_cons_succ]
            refine wpAnyH_take (i := 3) (v := (.pointer (some ⟨p, 1, none⟩))) rfl (by as_aux_lemma => kernel_rfl) (by as_aux_lemma => kernel_rfl) (by as_aux_lemma => kernel_rfl) (fun _ _ _ h => h) (Or.inl ⟨by kernel_rfl, ?_⟩) hS ?_
            · intro w hSw; (try dsimp only at hSw); go_simp
            simp only [Act.put, List.getElem_toArray, List.getElem_cons_zero, List.getElem_cons_succ, List.setIfInBounds_toArray, List.set_cons_zero, List.set_cons_succ]
            refine wpAnyH_take (i := 5) (v := (.pointer (some ⟨p, 0, none⟩))) rfl (by as_aux_lemma => kernel_rfl) (by as_aux_lemma => kernel_rfl) (by as_aux_lemma => kernel_rfl) (fun _ _ _ h => h) (Or.inl ⟨by kernel_rfl, ?_⟩) hS ?_
            · intro w hSw; (try dsimp only at hSw); go_simp
            simp only [Act.put, List.getElem_toArray, List.getElem_cons_zero, List.getElem_cons_succ, List.setIfInBounds_toArray, List.set_cons_zero, List.set_cons_succ]
            refine wpAnyH_take (i := 6) (v := (.pointer (some ⟨p, 0, none⟩))) rfl (by as_aux_lemma => kernel_rfl) (by as_aux_lemma => kernel_rfl) (by as_aux_lemma => kernel_rfl) (fun _ _ _ h => h) (Or.inl ⟨by kernel_rfl, ?_⟩) hS ?_
            · intro w hSw; (try dsimp only at hSw); go_simp
            simp only [Act.put, List.getElem_toArray, List.getElem_cons_zero, List.getElem_cons_succ, List.setIfInBounds_toArray, List.set_cons_zero, List.set_cons_succ]
            refine wpAnyH_take (i := 7) (v := (.pointer (some ⟨p, 3, none⟩))) rfl (by as_aux_lemma => kernel_rfl) (by as_aux_lemma => kernel_rfl) (by as_aux_lemma => kernel_rfl) (fun _ _ _ h => h) (Or.inl ⟨by kernel_rfl, ?_⟩) hS ?_
            · intro w hSw; (try dsimp only at hSw); go_simp
            simp only [Act.put, List.getElem_toArray, List.getElem_cons_zero, List.getElem_cons_succ, List.setIfInBounds_toArray, List.set_cons_zero, List.set_cons_succ]
            refine wpAnyH_take (i := 8) (v := (.int .i64 (Z + k + 1))) rfl (by as_aux_lemma => kernel_rfl) (by as_aux_lemma => kernel_rfl) (by as_aux_lemma => kernel_rfl) (fun _ _ _ h => h) (Or.inl ⟨by kernel_rfl, ?_⟩) hS ?_
            · intro w hSw; (try dsimp only at hSw); go_simp
            simp only [Act.put, List.getElem_toArray, List.getElem_cons_zero, List.getElem_cons_succ, List.setIfInBounds_toArray, List.set_cons_zero, List.set_cons_succ]
            refine wpAnyH_ready (rs := [4, 9]) (by as_aux_lemma => kernel_rfl) (by simp) ?_
            refine AllReadyH.cons rfl (fun K hK => ?_) (AllReadyH.cons rfl (fun K hK => ?_) AllReadyH.nil)
            · go_simp
              refine hK.out _ _ hS (fun hS => ?_)
              clear hK K
              (try simp only [Act.put, List.getElem_toArray, List.getElem_cons_zero, List.getElem_cons_succ, List.setIfInBounds_toArray, List.set_cons_zero, List.set_cons_succ])
              refine wpAnyH_ready (rs := [9]) (by as_aux_lemma => kernel_rfl) (by simp) ?_
              refine AllReadyH.cons rfl (fun K hK => ?_) AllReadyH.nil
              go_simp
              refine hK.out _ _ ⟨cell_later (NB _) hS.1, ((NB _).frozen (p := ⟨p, 1, none⟩) ld).trans hS.2.1, _, e1' _⟩ (fun hS => ?_)
              clear hK K
              (try simp only [Act.put, List.getElem_toArray, List.getElem_cons_zero, List.getElem_cons_succ, List.setIfInBounds_toArray, List.set_cons_zero, List.set_cons_succ])
              have oE := World.ownsRow.alloc HOD.out (.cells #[.int .i64 (Z + k + 1)] 2)
              have bE := HBD.out.alloc (.cells #[.int .i64 (Z + k + 1)] 2)
              have rE := (own_lit (k := .i64) (e := 2) D #[.int .i64 (Z + k + 1)] 1 0 [Z + k + 1] rfl rfl (Nat.zero_le _) (by simp [maxLen])).read
              have uE := uD.alloc uD.size (.cells #[.int .i64 (Z + k + 1)] 2)
              have lE : lo ≤ (D.alloc (.cells #[.int .i64 (Z + k + 1)] 2)).heap.size := by simp; omega
              generalize D.alloc (.cells #[.int .i64 (Z + k + 1)] 2) = F at *
              refine wpAnyH_ready (rs := [10]) (by as_aux_lemma => kernel_rfl) (by simp) ?_
              refine AllReadyH.cons rfl (fun K hK => ?_) AllReadyH.nil
              rw [if_pos (by rfl)]
              refine wp_append_rd _ _ 24 rfl .i64 lo 2 i0 8 Try.underlying24 hi hz0 hz1 hz2 _ M.length M rfl oE _ 1 1 [Z + k + 1] rfl rE (by unfold maxLen; omega) (by omega) lE ?_
              intro v5 w5 ho5 hg5
              have hb5 := bE.kept hg5 (bE.not_row (by decide) oE)
              have u5 := below_chg uE (Chg.of_grown (lo := lo) (hi := F.heap.size) hg5 (fun j hj => ⟨(World.ownsRow.lt oE j hj).1, (World.ownsRow.lt oE j hj).2⟩)) uE.size hlo
              have l5 : lo ≤ w5.heap.size := Nat.le_trans lE hg5.size
              obtain ⟨a5, c5, rfl, -⟩ := Own.rdc ho5
              refine hK.out _ _ ⟨hb5.cell 3, hb5.frozen 1, _, hb5.cell 1⟩ (fun hS => ?_)
              clear hK K
              have y1 := hb5.cell 1
              have yf1 := hb5.frozen 1
              have HB5 := hid hb5
              have HO5 := hid ho5
              clear hb5 ho5 hg5 oE bE rE
              (try simp only [Act.put, List.getElem_toArray, List.getElem_cons_zero, List.getElem_cons_succ, List.setIfInBounds_toArray, List.set_cons_zero, List.set_cons_succ])
              refine wpAnyH_take (i := 11) (v := (.pointer (some ⟨p, 0, none⟩))) rfl (by as_aux_lemma => kernel_rfl) (by as_aux_lemma => kernel_rfl) (by as_aux_lemma => kernel_rfl) (fun _ _ _ h => h) (Or.inl ⟨by kernel_rfl, ?_⟩) hS ?_
              · intro w hSw; (try dsimp only at hSw); go_simp
              simp only [Act.put, List.getElem_toArray, List.getElem_cons_zero, List.getElem_cons_succ, List.setIfInBounds_toArray, List.set_cons_zero, List.set_cons_succ]
              refine wpAnyH_take (i := 12) (v := (.pointer (some ⟨p, 1, none⟩))) rfl (by as_aux_lemma => kernel_rfl) (by as_aux_lemma => kernel_rfl) (by as_aux_lemma => kernel_rfl) (fun _ _ _ h => h) (Or.inl ⟨by kernel_rfl, ?_⟩) hS ?_
              · intro w hSw; (try dsimp only at hSw); go_simp
              simp only [Act.put, List.getElem_toArray, List.getElem_cons_zero, List.getElem_cons_succ, List.setIfInBounds_toArray, List.set_cons_zero, List.set_cons_succ]
              refine wpAnyH_ready (rs := [13]) (by as_aux_lemma => kernel_rfl) (by simp) ?_
              refine AllReadyH.cons rfl (fun K hK => ?_) AllReadyH.nil
              go_simp
              refine hK.out _ _ ⟨(HB5.out.set _).cell 3, (HB5.out.set _).frozen 1, _, (HB5.out.set _).cell 1⟩ (fun hS => ?_)
              clear hK K
              refine wpAnyH_done (by kernel_rfl) ?_ _
              clear hS
              have hb6 := HB5.out.set (i := 1) (.slice a5 (M.length + 1) c5)
              have ho6 := Own.kept HO5.out (setCell_grown w5 p 1 (.slice a5 (M.length + 1) c5)) (fun j hj e => HB5.out.not_row (by decide) HO5.out (by rw [hj, e]))
              have HB6 := hid hb6
              have HO6 := hid ho6
              clear hb6 ho6
              go_wp2
              go_roundw
              case rel =>
                refine ⟨k + 1, Lk + 1, M ++ [Z + k + 1], .slice a5 (M.length + 1) c5, by omega, by go_num, Heard.mark HH.out (by omega) HBK.out HM.out, ?_, ?_, u5.setCell hp _, ?_⟩
                · simpa [Blk, Int.add_assoc] using HB6.out
                · rw [List.length_append]; exact HO6.out
                · simpa [World.setCell] using l5
              case measure => simp [intOf]; omega
            · go_simp
              refine hK.out _ _ ⟨cell_later (NB _) hS.1, ((NB _).frozen (p := ⟨p, 1, none⟩) ld).trans hS.2.1, _, e1' _⟩ (fun hS => ?_)
              clear hK K
              (try simp only [Act.put, List.getElem_toArray, List.getElem_cons_zero, List.getElem_cons_succ, List.setIfInBounds_toArray, List.set_cons_zero, List.set_cons_succ])
              refine wpAnyH_ready (rs := [4]) (by as_aux_lemma => kernel_rfl) (by simp) ?_
              refine AllReadyH.cons rfl (fun K hK => ?_) AllReadyH.nil
              go_simp
              refine hK.out _ _ hS (fun hS => ?_)
              clear hK K
              (try simp only [Act.put, List.getElem_toArray, List.getElem_cons_zero, List.getElem_cons_succ, List.setIfInBounds_toArray, List.set_cons_zero, List.set_cons_succ])
              have oE := World.ownsRow.alloc HOD.out (.cells #[.int .i64 (Z + k + 1)] 2)
              have bE := HBD.out.alloc (.cells #[.int .i64 (Z + k + 1)] 2)
              have rE := (own_lit (k := .i64) (e := 2) D #[.int .i64 (Z + k + 1)] 1 0 [Z + k + 1] rfl rfl (Nat.zero_le _) (by simp [maxLen])).read
              have uE := uD.alloc uD.size (.cells #[.int .i64 (Z + k + 1)] 2)
              have lE : lo ≤ (D.alloc (.cells #[.int .i64 (Z + k + 1)] 2)).heap.size := by simp; omega
              generalize D.alloc (.cells #[.int .i64 (Z + k + 1)] 2) = F at *
              refine wpAnyH_ready (rs := [10]) (by as_aux_lemma => kernel_rfl) (by simp) ?_
              refine AllReadyH.cons rfl (fun K hK => ?_) AllReadyH.nil
              rw [if_pos (by rfl)]
              refine wp_append_rd _ _ 24 rfl .i64 lo 2 i0 8 Try.underlying24 hi hz0 hz1 hz2 _ M.length M rfl oE _ 1 1 [Z + k + 1] rfl rE (by unfold maxLen; omega) (by omega) lE ?_
              intro v5 w5 ho5 hg5
              have hb5 := bE.kept hg5 (bE.not_row (by decide) oE)
              have u5 := below_chg uE (Chg.of_grown (lo := lo) (hi := F.heap.size) hg5 (fun j hj => ⟨(World.ownsRow.lt oE j hj).1, (World.ownsRow.lt oE j hj).2⟩)) uE.size hlo
              have l5 : lo ≤ w5.heap.size := Nat.le_trans lE hg5.size
              obtain ⟨a5, c5, rfl, -⟩ := Own.rdc ho5
              refine hK.out _ _ ⟨hb5.cell 3, hb5.frozen 1, _, hb5.cell 1⟩ (fun hS => ?_)
              clear hK K
              have y1 := hb5.cell 1
              have yf1 := hb5.frozen 1
              have HB5 := hid hb5
              have HO5 := hid ho5
              clear hb5 ho5 hg5 oE bE rE
              (try simp only [Act.put, List.getElem_toArray, List.getElem_cons_zero, List.getElem_cons_succ, List.setIfInBounds_toArray, List.set_cons_zero, List.set_cons_succ])
              refine wpAnyH_take (i := 11) (v := (.pointer (some ⟨p, 0, none⟩))) rfl (by as_aux_lemma => kernel_rfl) (by as_aux_lemma => kernel_rfl) (by as_aux_lemma => kernel_rfl) (fun _ _ _ h => h) (Or.inl ⟨by kernel_rfl, ?_⟩) hS ?_
              · intro w hSw; (try dsimp only at hSw); go_simp
              simp only [Act.put, List.getElem_toArray, List.getElem_cons_zero, List.getElem_cons_succ, List.setIfInBounds_toArray, List.set_cons_zero, List.set_cons_succ]
              refine wpAnyH_take (i := 12) (v := (.pointer (some ⟨p, 1, none⟩))) rfl (by as_aux_lemma => kernel_rfl) (by as_aux_lemma => kernel_rfl) (by as_aux_lemma => kernel_rfl) (fun _ _ _ h => h) (Or.inl ⟨by kernel_rfl, ?_⟩) hS ?_
              · intro w hSw; (try dsimp only at hSw); go_simp
              simp only [Act.put, List.getElem_toArray, List.getElem_cons_zero, List.getElem_cons_succ, List.setIfInBounds_toArray, List.set_cons_zero, List.set_cons_succ]
              refine wpAnyH_ready (rs := [13]) (by as_aux_lemma => kernel_rfl) (by simp) ?_
              refine AllReadyH.cons rfl (fun K hK => ?_) AllReadyH.nil
              go_simp
              refine hK.out _ _ ⟨(HB5.out.set _).cell 3, (HB5.out.set _).frozen 1, _, (HB5.out.set _).cell 1⟩ (fun hS => ?_)
              clear hK K
              refine wpAnyH_done (by kernel_rfl) ?_ _
              clear hS
              have hb6 := HB5.out.set (i := 1) (.slice a5 (M.length + 1) c5)
              have ho6 := Own.kept HO5.out (setCell_grown w5 p 1 (.slice a5 (M.length + 1) c5)) (fun j hj e => HB5.out.not_row (by decide) HO5.out (by rw [hj, e]))
              have HB6 := hid hb6
              have HO6 := hid ho6
              clear hb6 ho6
              go_wp2
              go_roundw
              case rel =>
                refine ⟨k + 1, Lk + 1, M ++ [Z + k + 1], .slice a5 (M.length + 1) c5, by omega, by go_num, Heard.mark HH.out (by omega) HBK.out HM.out, ?_, ?_, u5.setCell hp _, ?_⟩
                · simpa [Blk, Int.add_assoc] using HB6.out
                · rw [List.length_append]; exact HO6.out
                · simpa [World.setCell] using l5
              case measure => simp [intOf]; omega

        · have HM := hid hmk
          have hmd : ¬ (E ∣ Lk + 1) := fun h => hmk (Int.tmod_eq_zero_of_dvd h)
          go_wp2
          go_region
          all_goals
            go_wp2
            go_roundw
            case rel => exact ⟨k + 1, Lk + 1, M, v, by omega, by go_num, Heard.line HH.out (by omega) HBK.out HM.out, by have h2 := HS2.out; simpa [Blk, World.drew, Int.add_assoc] using h2, HO2.out, b2.drew, l2⟩
            case measure => simp [intOf]; omega
      · have HBK := hid hbk
        have hbk' : (bs.getD k 0 != 10) = true := by simpa using hbk
        generalize hbe : bs.getD k 0 = b at *
        have HBE : Hid (bs.getD k 0 = b) := hbe
        clear hbe hbk
        go_wp2
        go_roundw
        case rel =>
          refine ⟨k + 1, Lk, M, v, by omega, by go_num, Heard.no HH.out (by omega) (by rw [HBE.out]; exact HBK.out), ?_, ?_, ?_, ?_⟩
          · simpa [Blk, Int.add_assoc] using HS3.out
          · exact Own.kept HO.out HG3.out (fun j hj e => HNR.out (by rw [hj, e]))
          · exact hbw.setCell hp _
          · simpa [World.setCell] using hlw
        case measure => simp [intOf]; omega
    · obtain rfl : k = n := by omega
      obtain ⟨e1, e2⟩ := hh.done (by omega)
      subst e2
      rw [e1] at hblk
      go_wp2
      exact bodyPost_end (v := .tuple #[]) (by simp [results, Try.results45, go_sem]) rfl ⟨_, v, rfl, hblk, ho, hbw, hlw⟩
end Go.Proofs.Ythdglflipeggpaa
