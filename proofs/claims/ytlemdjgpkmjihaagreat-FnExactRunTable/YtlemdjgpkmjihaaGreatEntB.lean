/-
  Ent1, Ent3 in one text.
-/
import Derived.Deep.RegionHeld3
import Derived.Test.YtlemdjgpkmjihaaGreatEnt0
import Derived.Test.YtlemdjgpkmjihaaGreatEnt2
import Derived.Test.YtlemdjgpkmjihaaGreatTab3
namespace Go.Proofs.YtlemdjgpkmjihaaGreat
open Go.RowKit
set_option linter.unusedVariables false
set_option linter.unusedSimpArgs false

set_option maxHeartbeats 3200000 in
set_option maxRecDepth 20000 in
theorem l8Copy_any (z : Int) (a : Option Addr) (n ca : Nat) (ts : List St) (w : World) (ht : RdT w a n ts) (hs : (n : Int) + stN ts ≤ 1048576) :
    Calls Tryz.prog 28 #[.agg #[.int .i64 z, .slice a n ca]] w fun e w' => ∃ va c, e = .returned (.agg #[.int .i64 z, .slice va n c]) ∧ RowT false 91 2 99 w' w.heap.size w'.heap.size (.slice va n c) n ts ∧ Below w.heap.size w w' := by
  obtain ⟨iI, hI, hI0, hI1, hI2⟩ := info_parts info64
  have HT := hid ht
  clear ht
  obtain ⟨X, hX⟩ : ∃ X, X = w.heap.size := ⟨_, rfl⟩
  obtain ⟨R, hR⟩ : ∃ R, R = X + 1 := ⟨_, rfl⟩
  obtain ⟨B, hB⟩ : ∃ B, B = R + 1 := ⟨_, rfl⟩
  obtain ⟨lo, hlo⟩ : ∃ lo, lo = B + 1 := ⟨_, rfl⟩
  go_enter Tryz.func28, Tryz.ntmps28
  go_wp2
  go_loopw [4] (fun i wr => ∃ (k : Nat) (va : Option Addr) (cva : Nat), k ≤ n ∧ i = .int .i64 k ∧ Hid (Blk wr X #[.int .i64 z, .slice a n ca] 30) ∧ Hid (Blk wr R #[.int .i64 0, .slice none 0 0] 30) ∧ Hid (Blk wr B #[.int .i64 z, .slice va k cva] 30) ∧ Hid (RowT false 91 2 99 wr lo wr.heap.size (.slice va k cva) k (ts.take k)) ∧ Hid (Below w.heap.size w wr)) (fun i _ => n - (intOf i).toNat)
  case atStart =>
    subst hlo hB hR hX
    refine ⟨0, none, 0, Nat.zero_le _, rfl, ((Blk.new w _ _).alloc _).alloc _, (Blk.new1 w _ _ _).alloc _, Blk.new2 w _ _ _ _, RowN.nil _ _ _, ?_⟩
    exact (((Below.refl w.heap.size w).alloc (Nat.le_refl _) _).alloc (by simp) _).alloc (by simp; omega) _
  case round =>
    obtain ⟨k, va, cva, hk, rfl, hbx, hbr, hbb, hrow, hbw⟩ := hrel
    simp only [← hX, ← hR, ← hB]
    have i1 : X ≤ w.heap.size := by omega
    have i2 : w.heap.size ≤ X := by omega
    have i3 : X < R := by omega
    have i4 : R < B := by omega
    have i5 : B < lo := by omega
    have i6 : lo ≤ w.heap.size + 3 := by omega
    clear hX hR hB hlo
    have g0 := hbx.out.cell 1
    have g1 := hbb.out.cell 1
    have g2 := hbb.out.cell 0
    have g3 := hbr.out.cell 0
    have g4 := hbr.out.cell 1
    have gf0 := hbr.out.frozen 0
    have gf1 := hbr.out.frozen 1
    simp at g0 g1 g2 g3 g4
    by_cases hlt : k < n
    · have hlt' : (k : Int) < (n : Int) := by omega
      obtain ⟨b1, o1, p, cp, q, cq, ss, az, ha, hx, f0, f1, hrp0, hrq0, -, -⟩ := HT.out.at hlt
      have hss : ss.length + az.length ≤ 1048576 := by
        have h1 := stN_succ hx
        have h2 := stN_take ts (k + 1)
        omega
      have HTK : Hid (ts.take (k + 1) = ts.take k ++ [(ss, az)]) := by
        obtain ⟨hj, e'⟩ := List.getElem?_eq_some_iff.1 hx
        exact hid (by rw [List.take_succ_eq_append_getElem hj, e'])
      subst ha
      clear hx
      have HF0 := hid f0
      have HF1 := hid f1
      have HP := hid hrp0
      have HQ := hid hrq0
      clear hrp0 hrq0
      have z0 := cell_later hbw.out f0
      have z1 := cell_later hbw.out f1
      go_wp2_with fail
      refine region_join (fun act a' w' => ∃ z22 z27 z28 z33 z34 z35 a3 e3, a' = ((((((((((((((((((act.put (some 20) (.pointer (some ⟨B, 1, none⟩))).put (some 21) (.slice va k cva)).put (some 22) (z22)).put (some 23) (.pointer (some ⟨b1, o1 + k * 2, none⟩))).put (some 24) (.pointer (some ⟨b1, o1 + k * 2, none⟩))).put (some 25) (.pointer (some ⟨b1, o1 + k * 2, none⟩))).put (some 26) (.slice p ss.length cp)).put (some 27) (z27)).put (some 28) (z28)).put (some 29) (.pointer (some ⟨b1, o1 + k * 2, none⟩))).put (some 30) (.pointer (some ⟨b1, o1 + k * 2, none⟩))).put (some 31) (.pointer (some ⟨b1, o1 + k * 2 + 1, none⟩))).put (some 32) (.slice q az.length cq)).put (some 33) (z33)).put (some 34) (z34)).put (some 35) (z35)).put (some 36) (.slice a3 (k + 1) e3)).put (some 37) (.pointer (some ⟨B, 1, none⟩))) ∧ Blk w' B #[.int .i64 z, .slice a3 (k + 1) e3] 30 ∧ Blk w' X #[.int .i64 z, .slice (some ⟨b1, o1, none⟩) n ca] 30 ∧ Blk w' R #[.int .i64 0, .slice none 0 0] 30 ∧ RowT false 91 2 99 w' lo w'.heap.size (.slice a3 (k + 1) e3) (k + 1) (ts.take (k + 1)) ∧ Below w.heap.size w w') ?_ ?_
      · obtain ⟨D, hD⟩ : ∃ D, D = wr.drew := ⟨_, rfl⟩
        have hbd : Below wr.heap.size wr D := by rw [hD]; exact (Below.refl _ _).drew
        have hsd : D.heap.size = wr.heap.size := by rw [hD]; rfl
        have HROW : Hid (RowT false 91 2 99 D lo D.heap.size (.slice va k cva) k (ts.take k)) := by rw [hsd]; exact hid (RowN.below (tabOk false) hrow.out hbd)
        have HBB : Hid (Blk D B #[.int .i64 z, .slice va k cva] 30) := hid (Blk.of hbb.out hbd)
        have HBX : Hid (Blk D X #[.int .i64 z, .slice (some ⟨b1, o1, none⟩) n ca] 30) := hid (Blk.of hbx.out hbd)
        have HBR : Hid (Blk D R #[.int .i64 0, .slice none 0 0] 30) := hid (Blk.of hbr.out hbd)
        have HBW : Hid (Below w.heap.size w D) := hid (hbw.out.trans (hbd.mono hbw.out.size))
        have d0 := cell_later HBW.out f0
        have d1 := cell_later HBW.out f1
        have dB : D.cell? ⟨B, 1, none⟩ = some (.slice va k cva) := by have := HBB.out.cell 1; simpa using this
        have hrp := HP.out.below HBW.out
        have hrq := HQ.out.below HBW.out
        have hb0 : Below D.heap.size D D := Below.refl _ _
        have hlD : lo ≤ D.heap.size := by have := HBB.out.lt; omega
        clear hsd hbd z0 z1 g0 g1 g2 g3 g4 gf0 gf1 hrow hbb hbx hbr hbw
        refine wp_region_held_drew (S := fun w' => w'.cell? ⟨b1, o1 + k * 2, none⟩ = some (.slice p ss.length cp) ∧ w'.cell? ⟨b1, o1 + k * 2 + 1, none⟩ = some (.slice q az.length cq) ∧ ∃ u, w'.cell? ⟨B, 1, none⟩ = some u) (by kernel_rfl) (by rw [← hD]; exact ⟨d0, d1, _, dB⟩) (fun hS => ?_)
        rw [← hD] at hS ⊢
        clear hD
        refine wpAnyH_take (i := 0) (v := (.pointer (some ⟨B, 1, none⟩))) rfl (by as_aux_lemma => kernel_rfl) (by as_aux_lemma => kernel_rfl) (by as_aux_lemma => kernel_rfl) (fun _ _ _ h => nomatch h.1) (Or.inl ⟨by kernel_rfl, ?_⟩) hS ?_
        · intro w hSw; (try dsimp only at hSw); go_simp
        simp only [Act.put, List.getElem_toArray, List.getElem_cons_zero, List.getElem_cons_succ, List.setIfInBounds_toArray, List.set_cons_zero, List.set_cons_succ]
        refine wpAnyH_take (i := 3) (v := (.pointer (some ⟨b1, o1 + k * 2, none⟩))) rfl (by as_aux_lemma => kernel_rfl) (by as_aux_lemma => kernel_rfl) (by as_aux_lemma => kernel_rfl) (fun _ _ _ h => nomatch h.1) (Or.inl ⟨by kernel_rfl, ?_⟩) hS ?_
        · intro w hSw; (try dsimp only at hSw); go_simp
        simp only [Act.put, List.getElem_toArray, List.getElem_cons_zero, List.getElem_cons_succ, List.setIfInBounds_toArray, List.set_cons_zero, List.set_cons_succ]
        refine wpAnyH_take (i := 4) (v := (.pointer (some ⟨b1, o1 + k * 2, none⟩))) rfl (by as_aux_lemma => kernel_rfl) (by as_aux_lemma => kernel_rfl) (by as_aux_lemma => kernel_rfl) (fun _ _ _ h => nomatch h.1) (Or.inl ⟨by kernel_rfl, ?_⟩) hS ?_
        · intro w hSw; (try dsimp only at hSw); go_simp
        simp only [Act.put, List.getElem_toArray, List.getElem_cons_zero, List.getElem_cons_succ, List.setIfInBounds_toArray, List.set_cons_zero, List.set_cons_succ]
        refine wpAnyH_take (i := 5) (v := (.pointer (some ⟨b1, o1 + k * 2, none⟩))) rfl (by as_aux_lemma => kernel_rfl) (by as_aux_lemma => kernel_rfl) (by as_aux_lemma => kernel_rfl) (fun _ _ _ h => nomatch h.1) (Or.inl ⟨by kernel_rfl, ?_⟩) hS ?_
        · intro w hSw; (try dsimp only at hSw); go_simp
        simp only [Act.put, List.getElem_toArray, List.getElem_cons_zero, List.getElem_cons_succ, List.setIfInBounds_toArray, List.set_cons_zero, List.set_cons_succ]
        refine wpAnyH_take (i := 6) (v := (.slice p ss.length cp)) rfl (by as_aux_lemma => kernel_rfl) (by as_aux_lemma => kernel_rfl) (by as_aux_lemma => kernel_rfl) (fun _ _ _ h => nomatch h.1) (Or.inl ⟨by kernel_rfl, ?_⟩) hS ?_
        · intro w hSw; (try dsimp only at hSw); go_simp
        simp only [Act.put, List.getElem_toArray, List.getElem_cons_zero, List.getElem_cons_succ, List.setIfInBounds_toArray, List.set_cons_zero, List.set_cons_succ]
        refine wpAnyH_take (i := 9) (v := (.pointer (some ⟨b1, o1 + k * 2, none⟩))) rfl (by as_aux_lemma => kernel_rfl) (by as_aux_lemma => kernel_rfl) (by as_aux_lemma => kernel_rfl) (fun _ _ _ h => nomatch h.1) (Or.inl ⟨by kernel_rfl, ?_⟩) hS ?_
        · intro w hSw; (try dsimp only at hSw); go_simp
        simp only [Act.put, List.getElem_toArray, List.getElem_cons_zero, List.getElem_cons_succ, List.setIfInBounds_toArray, List.set_cons_zero, List.set_cons_succ]
        refine wpAnyH_take (i := 10) (v := (.pointer (some ⟨b1, o1 + k * 2, none⟩))) rfl (by as_aux_lemma => kernel_rfl) (by as_aux_lemma => kernel_rfl) (by as_aux_lemma => kernel_rfl) (fun _ _ _ h => nomatch h.1) (Or.inl ⟨by kernel_rfl, ?_⟩) hS ?_
        · intro w hSw; (try dsimp only at hSw); go_simp
        simp only [Act.put, List.getElem_toArray, List.getElem_cons_zero, List.getElem_cons_succ, List.setIfInBounds_toArray, List.set_cons_zero, List.set_cons_succ]
        refine wpAnyH_take (i := 11) (v := (.pointer (some ⟨b1, o1 + k * 2 + 1, none⟩))) rfl (by as_aux_lemma => kernel_rfl) (by as_aux_lemma => kernel_rfl) (by as_aux_lemma => kernel_rfl) (fun _ _ _ h => nomatch h.1) (Or.inl ⟨by kernel_rfl, ?_⟩) hS ?_
        · intro w hSw; (try dsimp only at hSw); go_simp
        simp only [Act.put, List.getElem_toArray, List.getElem_cons_zero, List.getElem_cons_succ, List.setIfInBounds_toArray, List.set_cons_zero, List.set_cons_succ]
        refine wpAnyH_take (i := 12) (v := (.slice q az.length cq)) rfl (by as_aux_lemma => kernel_rfl) (by as_aux_lemma => kernel_rfl) (by as_aux_lemma => kernel_rfl) (fun _ _ _ h => nomatch h.1) (Or.inl ⟨by kernel_rfl, ?_⟩) hS ?_
        · intro w hSw; (try dsimp only at hSw); go_simp
        simp only [Act.put, List.getElem_toArray, List.getElem_cons_zero, List.getElem_cons_succ, List.setIfInBounds_toArray, List.set_cons_zero, List.set_cons_succ]
        refine wpAnyH_ready (rs := [1, 2, 8]) (by as_aux_lemma => kernel_rfl) (by simp) ?_
        refine AllReadyH.cons rfl (fun K hK => ?_) (AllReadyH.cons rfl (fun K hK => ?_) (AllReadyH.cons rfl (fun K hK => ?_) AllReadyH.nil))
        · skip
          have k1 := cell_later hb0 dB
          go_simp
          refine hK.out _ _ (hS) (fun hS2 => ?_)
          clear hK K hS
          have hS := hS2
          clear hS2
          (try simp only [Act.put, List.getElem_toArray, List.getElem_cons_zero, List.getElem_cons_succ, List.setIfInBounds_toArray, List.set_cons_zero, List.set_cons_succ])
          clear k1
          refine wpAnyH_ready (rs := [2, 8]) (by as_aux_lemma => kernel_rfl) (by simp) ?_
          refine AllReadyH.cons rfl (fun K hK => ?_) (AllReadyH.cons rfl (fun K hK => ?_) AllReadyH.nil)
          · skip
            rw [if_pos (by rfl)]
            go_simp
            obtain ⟨W1, hW⟩ : ∃ V, V = D.alloc (.cells #[] 2) := ⟨_, rfl⟩
            rw [← hW]
            have hb1 : Below D.heap.size D W1 := by rw [hW]; exact hb0.alloc hb0.size _
            have hg1 : D.grownBy W1 none := by rw [hW]; exact World.grownBy_alloc _ _ none
            have oI1 : Own .i64 2 W1 D.heap.size (.slice (some ⟨D.heap.size, 0, none⟩) 0 0) 0 [] := by rw [hW]; exact own_lit D #[] 0 D.heap.size [] rfl rfl hb0.size (by unfold maxLen; omega)
            clear hW
            refine hK.out _ _ (⟨cell_later hb1 d0, cell_later hb1 d1, _, cell_later hb1 dB⟩) (fun hS2 => ?_)
            clear hK K hS
            have hS := hS2
            clear hS2
            (try simp only [Act.put, List.getElem_toArray, List.getElem_cons_zero, List.getElem_cons_succ, List.setIfInBounds_toArray, List.set_cons_zero, List.set_cons_succ])
            refine wpAnyH_ready (rs := [7, 8]) (by as_aux_lemma => kernel_rfl) (by simp) ?_
            refine AllReadyH.cons rfl (fun K hK => ?_) (AllReadyH.cons rfl (fun K hK => ?_) AllReadyH.nil)
            · skip
              rw [if_pos (by rfl)]
              refine wp_append_rd _ _ 83 rfl .i64 D.heap.size 2 iI 8 Tryz.underlying83 hI hI0 hI1 hI2 _ 0 [] rfl oI1 p ss.length cp ss rfl (hrp.below hb1) (by unfold maxLen; omega) (by omega) hb1.size ?_
              intro y1 W2 oI2 hg2
              rw [Nat.zero_add, List.nil_append] at oI2
              obtain ⟨a1, e1, rfl, -, -⟩ := (RowI.of oI2).shape
              have hb2 := hb1.grown hg2 hb1.size (fun j hj => (oI1.lt j hj).1)
              refine hK.out _ _ (⟨cell_later hb2 d0, cell_later hb2 d1, _, cell_later hb2 dB⟩) (fun hS2 => ?_)
              clear hK K hS
              have hS := hS2
              clear hS2
              (try simp only [Act.put, List.getElem_toArray, List.getElem_cons_zero, List.getElem_cons_succ, List.setIfInBounds_toArray, List.set_cons_zero, List.set_cons_succ])
              refine wpAnyH_ready (rs := [8]) (by as_aux_lemma => kernel_rfl) (by simp) ?_
              refine AllReadyH.cons rfl (fun K hK => ?_) AllReadyH.nil
              rw [if_pos (by rfl)]
              go_simp
              obtain ⟨W3, hW⟩ : ∃ V, V = W2.alloc (.cells #[] 99) := ⟨_, rfl⟩
              rw [← hW]
              have hb3 : Below D.heap.size D W3 := by rw [hW]; exact hb2.alloc hb2.size _
              have hg3 : W2.grownBy W3 none := by rw [hW]; exact World.grownBy_alloc _ _ none
              have oA3 : OwnR lineE 2 99 W3 D.heap.size (.slice (some ⟨W2.heap.size, 0, none⟩) 0 0) 0 [] := by rw [hW]; exact ⟨rfl, World.ownsRow_lit W2 #[] _ hb2.size (by unfold maxLen; omega) rfl⟩
              have oI3 := oI2.kept hg3 (fun _ _ e => nomatch e)
              clear hW
              refine hK.out _ _ (⟨cell_later hb3 d0, cell_later hb3 d1, _, cell_later hb3 dB⟩) (fun hS2 => ?_)
              clear hK K hS
              have hS := hS2
              clear hS2
              (try simp only [Act.put, List.getElem_toArray, List.getElem_cons_zero, List.getElem_cons_succ, List.setIfInBounds_toArray, List.set_cons_zero, List.set_cons_succ])
              refine wpAnyH_ready (rs := [13]) (by as_aux_lemma => kernel_rfl) (by simp) ?_
              refine AllReadyH.cons rfl (fun K hK => ?_) AllReadyH.nil
              rw [if_pos (by rfl)]
              refine wp_appArcs _ _ rfl D.heap.size _ 0 [] rfl oA3 q az.length cq az rfl (hrq.below hb3) (by omega) hb3.size ?_
              intro y2 W4 oA4 hg4
              rw [Nat.zero_add, List.nil_append] at oA4
              obtain ⟨a2, e2, rfl, -, -⟩ := (RowS.of oA4).shape lineE_len
              have hb4 := hb3.grown hg4 hb3.size (fun j hj => (oA3.lt j hj).1)
              have oI4 := oI3.kept hg4 (fun j hj => own_ne oA3.2 oI3 (by decide) j hj)
              refine hK.out _ _ (⟨cell_later hb4 d0, cell_later hb4 d1, _, cell_later hb4 dB⟩) (fun hS2 => ?_)
              clear hK K hS
              have hS := hS2
              clear hS2
              (try simp only [Act.put, List.getElem_toArray, List.getElem_cons_zero, List.getElem_cons_succ, List.setIfInBounds_toArray, List.set_cons_zero, List.set_cons_succ])
              refine wpAnyH_take (i := 14) (v := (.agg #[.slice a1 ss.length e1, .slice a2 az.length e2])) rfl (by as_aux_lemma => kernel_rfl) (by as_aux_lemma => kernel_rfl) (by as_aux_lemma => kernel_rfl) (fun _ _ _ h => nomatch h.1) (Or.inl ⟨by kernel_rfl, ?_⟩) hS ?_
              · intro w hSw; (try dsimp only at hSw); go_simp
              simp only [Act.put, List.getElem_toArray, List.getElem_cons_zero, List.getElem_cons_succ, List.setIfInBounds_toArray, List.set_cons_zero, List.set_cons_succ]
              refine wpAnyH_ready (rs := [15]) (by as_aux_lemma => kernel_rfl) (by simp) ?_
              refine AllReadyH.cons rfl (fun K hK => ?_) AllReadyH.nil
              rw [if_pos (by rfl)]
              go_simp
              obtain ⟨W5, hW⟩ : ∃ V, V = W4.alloc (.cells #[.slice a1 ss.length e1, .slice a2 az.length e2] 91) := ⟨_, rfl⟩
              rw [← hW]
              have hb5 : Below D.heap.size D W5 := by rw [hW]; exact hb4.alloc hb4.size _
              have hg5 : W4.grownBy W5 none := by rw [hW]; exact World.grownBy_alloc _ _ none
              have oI5 := oI4.kept hg5 (fun _ _ e => nomatch e)
              have oA5 := oA4.kept hg5 (fun _ _ e => nomatch e)
              have hnw : Blk W5 W4.heap.size #[.slice a1 ss.length e1, .slice a2 az.length e2] 91 := by rw [hW]; exact Blk.new _ _ _
              clear hW
              refine hK.out _ _ (⟨cell_later hb5 d0, cell_later hb5 d1, _, cell_later hb5 dB⟩) (fun hS2 => ?_)
              clear hK K hS
              have hS := hS2
              clear hS2
              (try simp only [Act.put, List.getElem_toArray, List.getElem_cons_zero, List.getElem_cons_succ, List.setIfInBounds_toArray, List.set_cons_zero, List.set_cons_succ])
              refine wpAnyH_ready (rs := [16]) (by as_aux_lemma => kernel_rfl) (by simp) ?_
              refine AllReadyH.cons rfl (fun K hK => ?_) AllReadyH.nil
              rw [if_pos (by rfl)]
              have hrw := RowN.below (tabOk false) HROW.out hb5
              obtain ⟨us, hus⟩ : ∃ us : List Su, W5.ownsRow lo 91 2 (.slice va k cva) k (us.flatMap suE) := by obtain ⟨us, q1, -⟩ := hrw; exact ⟨us, q1.1.2⟩
              refine wp_appSt _ _ rfl lo _ k (us.flatMap suE) rfl hus W4.heap.size 1 (.slice a1 ss.length e1) (.slice a2 az.length e2) rfl rfl rfl (by simpa using hnw.cell 0) (by simpa using hnw.cell 1) (by omega) (by have := hb5.size; omega) ?_
              intro y3 W6 ho3 hg6
              have hsn := tab_snoc hrw oI5 oA5 hus ho3 hg6 hlD
              obtain ⟨a3, e3, rfl, -, -⟩ := RowN.shape suE_len hsn
              have bk := Blk.kept (Blk.of HBB.out hb5) hg6 (Blk.not_row (Blk.of HBB.out hb5) (by decide) hus)
              have bx := Blk.kept (Blk.of HBX.out hb5) hg6 (Blk.not_row (Blk.of HBX.out hb5) (by decide) hus)
              have br := Blk.kept (Blk.of HBR.out hb5) hg6 (Blk.not_row (Blk.of HBR.out hb5) (by decide) hus)
              have hb6 : Below w.heap.size w W6 := (HBW.out.trans (hb5.mono HBW.out.size)).grown hg6 (by have := hb5.size; have := HBW.out.size; omega) (fun j hj => by have := (World.ownsRow.lt hus j hj).1; omega)
              have x1 := bk.cell 1
              have xf := bk.frozen 1
              simp at x1
              refine hK.out _ _ (⟨cell_later hb6 f0, cell_later hb6 f1, _, x1⟩) (fun hS2 => ?_)
              clear hK K hS
              have hS := hS2
              clear hS2
              (try simp only [Act.put, List.getElem_toArray, List.getElem_cons_zero, List.getElem_cons_succ, List.setIfInBounds_toArray, List.set_cons_zero, List.set_cons_succ])
              refine wpAnyH_take (i := 17) (v := (.pointer (some ⟨B, 1, none⟩))) rfl (by as_aux_lemma => kernel_rfl) (by as_aux_lemma => kernel_rfl) (by as_aux_lemma => kernel_rfl) (fun _ _ _ h => nomatch h.1) (Or.inl ⟨by kernel_rfl, ?_⟩) hS ?_
              · intro w hSw; (try dsimp only at hSw); go_simp
              simp only [Act.put, List.getElem_toArray, List.getElem_cons_zero, List.getElem_cons_succ, List.setIfInBounds_toArray, List.set_cons_zero, List.set_cons_succ]
              refine wpAnyH_ready (rs := [18]) (by as_aux_lemma => kernel_rfl) (by simp) ?_
              refine AllReadyH.cons rfl (fun K hK => ?_) AllReadyH.nil
              go_simp
              have bk2 := bk.set (i := 1) (.slice a3 (k + 1) e3)
              have hgs := set_grown W6 B 1 (.slice a3 (k + 1) e3)
              have hbz := hb6.grown hgs hb6.size (fun j hj => by cases hj; omega)
              have y1 := bk2.cell 1
              simp at y1
              refine hK.out _ _ (⟨cell_later hbz f0, cell_later hbz f1, _, y1⟩) (fun hS2 => ?_)
              clear hK K hS
              have hS := hS2
              clear hS2
              (try simp only [Act.put, List.getElem_toArray, List.getElem_cons_zero, List.getElem_cons_succ, List.setIfInBounds_toArray, List.set_cons_zero, List.set_cons_succ])
              refine wpAnyH_done (by kernel_rfl) ?_ _
              refine ⟨rfl, .slice (some ⟨D.heap.size, 0, none⟩) 0 0, .slice a1 ss.length e1, .slice (some ⟨W2.heap.size, 0, none⟩) 0 0, .slice a2 az.length e2, .agg #[.slice a1 ss.length e1, .slice a2 az.length e2], .slice (some ⟨W4.heap.size, 0, none⟩) 1 1, a3, e3, ?_, by simpa using bk2, Blk.kept bx hgs (by simp; omega), Blk.kept br hgs (by simp; omega), ?_, hbz⟩
              · rfl
              · rw [HTK.out]; exact RowN.mono (tabOk false) (RowN.chg (tabOk false) hsn (Chg.one hgs) (.inr (by omega))) (Nat.le_refl _) hgs.size
            · skip
              rw [if_pos (by rfl)]
              go_simp
              obtain ⟨W2, hW⟩ : ∃ V, V = W1.alloc (.cells #[] 99) := ⟨_, rfl⟩
              rw [← hW]
              have hb2 : Below D.heap.size D W2 := by rw [hW]; exact hb1.alloc hb1.size _
              have hg2 : W1.grownBy W2 none := by rw [hW]; exact World.grownBy_alloc _ _ none
              have oA2 : OwnR lineE 2 99 W2 D.heap.size (.slice (some ⟨W1.heap.size, 0, none⟩) 0 0) 0 [] := by rw [hW]; exact ⟨rfl, World.ownsRow_lit W1 #[] _ hb1.size (by unfold maxLen; omega) rfl⟩
              have oI2 := oI1.kept hg2 (fun _ _ e => nomatch e)
              clear hW
              refine hK.out _ _ (⟨cell_later hb2 d0, cell_later hb2 d1, _, cell_later hb2 dB⟩) (fun hS2 => ?_)
              clear hK K hS
              have hS := hS2
              clear hS2
              (try simp only [Act.put, List.getElem_toArray, List.getElem_cons_zero, List.getElem_cons_succ, List.setIfInBounds_toArray, List.set_cons_zero, List.set_cons_succ])
              refine wpAnyH_ready (rs := [7]) (by as_aux_lemma => kernel_rfl) (by simp) ?_
              refine AllReadyH.cons rfl (fun K hK => ?_) AllReadyH.nil
              rw [if_pos (by rfl)]
              refine wp_append_rd _ _ 83 rfl .i64 D.heap.size 2 iI 8 Tryz.underlying83 hI hI0 hI1 hI2 _ 0 [] rfl oI2 p ss.length cp ss rfl (hrp.below hb2) (by unfold maxLen; omega) (by omega) hb2.size ?_
              intro y1 W3 oI3 hg3
              rw [Nat.zero_add, List.nil_append] at oI3
              obtain ⟨a1, e1, rfl, -, -⟩ := (RowI.of oI3).shape
              have hb3 := hb2.grown hg3 hb2.size (fun j hj => (oI2.lt j hj).1)
              have oA3 := oA2.kept hg3 (fun j hj => own_ne oI2 oA2.2 (by decide) j hj)
              refine hK.out _ _ (⟨cell_later hb3 d0, cell_later hb3 d1, _, cell_later hb3 dB⟩) (fun hS2 => ?_)
              clear hK K hS
              have hS := hS2
              clear hS2
              (try simp only [Act.put, List.getElem_toArray, List.getElem_cons_zero, List.getElem_cons_succ, List.setIfInBounds_toArray, List.set_cons_zero, List.set_cons_succ])
              refine wpAnyH_ready (rs := [13]) (by as_aux_lemma => kernel_rfl) (by simp) ?_
              refine AllReadyH.cons rfl (fun K hK => ?_) AllReadyH.nil
              rw [if_pos (by rfl)]
              refine wp_appArcs _ _ rfl D.heap.size _ 0 [] rfl oA3 q az.length cq az rfl (hrq.below hb3) (by omega) hb3.size ?_
              intro y2 W4 oA4 hg4
              rw [Nat.zero_add, List.nil_append] at oA4
              obtain ⟨a2, e2, rfl, -, -⟩ := (RowS.of oA4).shape lineE_len
              have hb4 := hb3.grown hg4 hb3.size (fun j hj => (oA3.lt j hj).1)
              have oI4 := oI3.kept hg4 (fun j hj => own_ne oA3.2 oI3 (by decide) j hj)
              refine hK.out _ _ (⟨cell_later hb4 d0, cell_later hb4 d1, _, cell_later hb4 dB⟩) (fun hS2 => ?_)
              clear hK K hS
              have hS := hS2
              clear hS2
              (try simp only [Act.put, List.getElem_toArray, List.getElem_cons_zero, List.getElem_cons_succ, List.setIfInBounds_toArray, List.set_cons_zero, List.set_cons_succ])
              refine wpAnyH_take (i := 14) (v := (.agg #[.slice a1 ss.length e1, .slice a2 az.length e2])) rfl (by as_aux_lemma => kernel_rfl) (by as_aux_lemma => kernel_rfl) (by as_aux_lemma => kernel_rfl) (fun _ _ _ h => nomatch h.1) (Or.inl ⟨by kernel_rfl, ?_⟩) hS ?_
              · intro w hSw; (try dsimp only at hSw); go_simp
              simp only [Act.put, List.getElem_toArray, List.getElem_cons_zero, List.getElem_cons_succ, List.setIfInBounds_toArray, List.set_cons_zero, List.set_cons_succ]
              refine wpAnyH_ready (rs := [15]) (by as_aux_lemma => kernel_rfl) (by simp) ?_
              refine AllReadyH.cons rfl (fun K hK => ?_) AllReadyH.nil
              rw [if_pos (by rfl)]
              go_simp
              obtain ⟨W5, hW⟩ : ∃ V, V = W4.alloc (.cells #[.slice a1 ss.length e1, .slice a2 az.length e2] 91) := ⟨_, rfl⟩
              rw [← hW]
              have hb5 : Below D.heap.size D W5 := by rw [hW]; exact hb4.alloc hb4.size _
              have hg5 : W4.grownBy W5 none := by rw [hW]; exact World.grownBy_alloc _ _ none
              have oI5 := oI4.kept hg5 (fun _ _ e => nomatch e)
              have oA5 := oA4.kept hg5 (fun _ _ e => nomatch e)
              have hnw : Blk W5 W4.heap.size #[.slice a1 ss.length e1, .slice a2 az.length e2] 91 := by rw [hW]; exact Blk.new _ _ _
              clear hW
              refine hK.out _ _ (⟨cell_later hb5 d0, cell_later hb5 d1, _, cell_later hb5 dB⟩) (fun hS2 => ?_)
              clear hK K hS
              have hS := hS2
              clear hS2
              (try simp only [Act.put, List.getElem_toArray, List.getElem_cons_zero, List.getElem_cons_succ, List.setIfInBounds_toArray, List.set_cons_zero, List.set_cons_succ])
              refine wpAnyH_ready (rs := [16]) (by as_aux_lemma => kernel_rfl) (by simp) ?_
              refine AllReadyH.cons rfl (fun K hK => ?_) AllReadyH.nil
              rw [if_pos (by rfl)]
              have hrw := RowN.below (tabOk false) HROW.out hb5
              obtain ⟨us, hus⟩ : ∃ us : List Su, W5.ownsRow lo 91 2 (.slice va k cva) k (us.flatMap suE) := by obtain ⟨us, q1, -⟩ := hrw; exact ⟨us, q1.1.2⟩
              refine wp_appSt _ _ rfl lo _ k (us.flatMap suE) rfl hus W4.heap.size 1 (.slice a1 ss.length e1) (.slice a2 az.length e2) rfl rfl rfl (by simpa using hnw.cell 0) (by simpa using hnw.cell 1) (by omega) (by have := hb5.size; omega) ?_
              intro y3 W6 ho3 hg6
              have hsn := tab_snoc hrw oI5 oA5 hus ho3 hg6 hlD
              obtain ⟨a3, e3, rfl, -, -⟩ := RowN.shape suE_len hsn
              have bk := Blk.kept (Blk.of HBB.out hb5) hg6 (Blk.not_row (Blk.of HBB.out hb5) (by decide) hus)
              have bx := Blk.kept (Blk.of HBX.out hb5) hg6 (Blk.not_row (Blk.of HBX.out hb5) (by decide) hus)
              have br := Blk.kept (Blk.of HBR.out hb5) hg6 (Blk.not_row (Blk.of HBR.out hb5) (by decide) hus)
              have hb6 : Below w.heap.size w W6 := (HBW.out.trans (hb5.mono HBW.out.size)).grown hg6 (by have := hb5.size; have := HBW.out.size; omega) (fun j hj => by have := (World.ownsRow.lt hus j hj).1; omega)
              have x1 := bk.cell 1
              have xf := bk.frozen 1
              simp at x1
              refine hK.out _ _ (⟨cell_later hb6 f0, cell_later hb6 f1, _, x1⟩) (fun hS2 => ?_)
              clear hK K hS
              have hS := hS2
              clear hS2
              (try simp only [Act.put, List.getElem_toArray, List.getElem_cons_zero, List.getElem_cons_succ, List.setIfInBounds_toArray, List.set_cons_zero, List.set_cons_succ])
              refine wpAnyH_take (i := 17) (v := (.pointer (some ⟨B, 1, none⟩))) rfl (by as_aux_lemma => kernel_rfl) (by as_aux_lemma => kernel_rfl) (by as_aux_lemma => kernel_rfl) (fun _ _ _ h => nomatch h.1) (Or.inl ⟨by kernel_rfl, ?_⟩) hS ?_
              · intro w hSw; (try dsimp only at hSw); go_simp
              simp only [Act.put, List.getElem_toArray, List.getElem_cons_zero, List.getElem_cons_succ, List.setIfInBounds_toArray, List.set_cons_zero, List.set_cons_succ]
              refine wpAnyH_ready (rs := [18]) (by as_aux_lemma => kernel_rfl) (by simp) ?_
              refine AllReadyH.cons rfl (fun K hK => ?_) AllReadyH.nil
              go_simp
              have bk2 := bk.set (i := 1) (.slice a3 (k + 1) e3)
              have hgs := set_grown W6 B 1 (.slice a3 (k + 1) e3)
              have hbz := hb6.grown hgs hb6.size (fun j hj => by cases hj; omega)
              have y1 := bk2.cell 1
              simp at y1
              refine hK.out _ _ (⟨cell_later hbz f0, cell_later hbz f1, _, y1⟩) (fun hS2 => ?_)
              clear hK K hS
              have hS := hS2
              clear hS2
              (try simp only [Act.put, List.getElem_toArray, List.getElem_cons_zero, List.getElem_cons_succ, List.setIfInBounds_toArray, List.set_cons_zero, List.set_cons_succ])
              refine wpAnyH_done (by kernel_rfl) ?_ _
              refine ⟨rfl, .slice (some ⟨D.heap.size, 0, none⟩) 0 0, .slice a1 ss.length e1, .slice (some ⟨W1.heap.size, 0, none⟩) 0 0, .slice a2 az.length e2, .agg #[.slice a1 ss.length e1, .slice a2 az.length e2], .slice (some ⟨W4.heap.size, 0, none⟩) 1 1, a3, e3, ?_, by simpa using bk2, Blk.kept bx hgs (by simp; omega), Blk.kept br hgs (by simp; omega), ?_, hbz⟩
              · rfl
              · rw [HTK.out]; exact RowN.mono (tabOk false) (RowN.chg (tabOk false) hsn (Chg.one hgs) (.inr (by omega))) (Nat.le_refl _) hgs.size
          · skip
            rw [if_pos (by rfl)]
            go_simp
            obtain ⟨W1, hW⟩ : ∃ V, V = D.alloc (.cells #[] 99) := ⟨_, rfl⟩
            rw [← hW]
            have hb1 : Below D.heap.size D W1 := by rw [hW]; exact hb0.alloc hb0.size _
            have hg1 : D.grownBy W1 none := by rw [hW]; exact World.grownBy_alloc _ _ none
            have oA1 : OwnR lineE 2 99 W1 D.heap.size (.slice (some ⟨D.heap.size, 0, none⟩) 0 0) 0 [] := by rw [hW]; exact ⟨rfl, World.ownsRow_lit D #[] _ hb0.size (by unfold maxLen; omega) rfl⟩
            clear hW
            refine hK.out _ _ (⟨cell_later hb1 d0, cell_later hb1 d1, _, cell_later hb1 dB⟩) (fun hS2 => ?_)
            clear hK K hS
            have hS := hS2
            clear hS2
            (try simp only [Act.put, List.getElem_toArray, List.getElem_cons_zero, List.getElem_cons_succ, List.setIfInBounds_toArray, List.set_cons_zero, List.set_cons_succ])
            refine wpAnyH_ready (rs := [2]) (by as_aux_lemma => kernel_rfl) (by simp) ?_
            refine AllReadyH.cons rfl (fun K hK => ?_) AllReadyH.nil
            rw [if_pos (by rfl)]
            go_simp
            obtain ⟨W2, hW⟩ : ∃ V, V = W1.alloc (.cells #[] 2) := ⟨_, rfl⟩
            rw [← hW]
            have hb2 : Below D.heap.size D W2 := by rw [hW]; exact hb1.alloc hb1.size _
            have hg2 : W1.grownBy W2 none := by rw [hW]; exact World.grownBy_alloc _ _ none
            have oI2 : Own .i64 2 W2 D.heap.size (.slice (some ⟨W1.heap.size, 0, none⟩) 0 0) 0 [] := by rw [hW]; exact own_lit W1 #[] 0 D.heap.size [] rfl rfl hb1.size (by unfold maxLen; omega)
            have oA2 := oA1.kept hg2 (fun _ _ e => nomatch e)
            clear hW
            refine hK.out _ _ (⟨cell_later hb2 d0, cell_later hb2 d1, _, cell_later hb2 dB⟩) (fun hS2 => ?_)
            clear hK K hS
            have hS := hS2
            clear hS2
            (try simp only [Act.put, List.getElem_toArray, List.getElem_cons_zero, List.getElem_cons_succ, List.setIfInBounds_toArray, List.set_cons_zero, List.set_cons_succ])
            refine wpAnyH_ready (rs := [7]) (by as_aux_lemma => kernel_rfl) (by simp) ?_
            refine AllReadyH.cons rfl (fun K hK => ?_) AllReadyH.nil
            rw [if_pos (by rfl)]
            refine wp_append_rd _ _ 83 rfl .i64 D.heap.size 2 iI 8 Tryz.underlying83 hI hI0 hI1 hI2 _ 0 [] rfl oI2 p ss.length cp ss rfl (hrp.below hb2) (by unfold maxLen; omega) (by omega) hb2.size ?_
            intro y1 W3 oI3 hg3
            rw [Nat.zero_add, List.nil_append] at oI3
            obtain ⟨a1, e1, rfl, -, -⟩ := (RowI.of oI3).shape
            have hb3 := hb2.grown hg3 hb2.size (fun j hj => (oI2.lt j hj).1)
            have oA3 := oA2.kept hg3 (fun j hj => own_ne oI2 oA2.2 (by decide) j hj)
            refine hK.out _ _ (⟨cell_later hb3 d0, cell_later hb3 d1, _, cell_later hb3 dB⟩) (fun hS2 => ?_)
            clear hK K hS
            have hS := hS2
            clear hS2
            (try simp only [Act.put, List.getElem_toArray, List.getElem_cons_zero, List.getElem_cons_succ, List.setIfInBounds_toArray, List.set_cons_zero, List.set_cons_succ])
            refine wpAnyH_ready (rs := [13]) (by as_aux_lemma => kernel_rfl) (by simp) ?_
            refine AllReadyH.cons rfl (fun K hK => ?_) AllReadyH.nil
            rw [if_pos (by rfl)]
            refine wp_appArcs _ _ rfl D.heap.size _ 0 [] rfl oA3 q az.length cq az rfl (hrq.below hb3) (by omega) hb3.size ?_
            intro y2 W4 oA4 hg4
            rw [Nat.zero_add, List.nil_append] at oA4
            obtain ⟨a2, e2, rfl, -, -⟩ := (RowS.of oA4).shape lineE_len
            have hb4 := hb3.grown hg4 hb3.size (fun j hj => (oA3.lt j hj).1)
            have oI4 := oI3.kept hg4 (fun j hj => own_ne oA3.2 oI3 (by decide) j hj)
            refine hK.out _ _ (⟨cell_later hb4 d0, cell_later hb4 d1, _, cell_later hb4 dB⟩) (fun hS2 => ?_)
            clear hK K hS
            have hS := hS2
            clear hS2
            (try simp only [Act.put, List.getElem_toArray, List.getElem_cons_zero, List.getElem_cons_succ, List.setIfInBounds_toArray, List.set_cons_zero, List.set_cons_succ])
            refine wpAnyH_take (i := 14) (v := (.agg #[.slice a1 ss.length e1, .slice a2 az.length e2])) rfl (by as_aux_lemma => kernel_rfl) (by as_aux_lemma => kernel_rfl) (by as_aux_lemma => kernel_rfl) (fun _ _ _ h => nomatch h.1) (Or.inl ⟨by kernel_rfl, ?_⟩) hS ?_
            · intro w hSw; (try dsimp only at hSw); go_simp
            simp only [Act.put, List.getElem_toArray, List.getElem_cons_zero, List.getElem_cons_succ, List.setIfInBounds_toArray, List.set_cons_zero, List.set_cons_succ]
            refine wpAnyH_ready (rs := [15]) (by as_aux_lemma => kernel_rfl) (by simp) ?_
            refine AllReadyH.cons rfl (fun K hK => ?_) AllReadyH.nil
            rw [if_pos (by rfl)]
            go_simp
            obtain ⟨W5, hW⟩ : ∃ V, V = W4.alloc (.cells #[.slice a1 ss.length e1, .slice a2 az.length e2] 91) := ⟨_, rfl⟩
            rw [← hW]
            have hb5 : Below D.heap.size D W5 := by rw [hW]; exact hb4.alloc hb4.size _
            have hg5 : W4.grownBy W5 none := by rw [hW]; exact World.grownBy_alloc _ _ none
            have oI5 := oI4.kept hg5 (fun _ _ e => nomatch e)
            have oA5 := oA4.kept hg5 (fun _ _ e => nomatch e)
            have hnw : Blk W5 W4.heap.size #[.slice a1 ss.length e1, .slice a2 az.length e2] 91 := by rw [hW]; exact Blk.new _ _ _
            clear hW
            refine hK.out _ _ (⟨cell_later hb5 d0, cell_later hb5 d1, _, cell_later hb5 dB⟩) (fun hS2 => ?_)
            clear hK K hS
            have hS := hS2
            clear hS2
            (try simp only [Act.put, List.getElem_toArray, List.getElem_cons_zero, List.getElem_cons_succ, List.setIfInBounds_toArray, List.set_cons_zero, List.set_cons_succ])
            refine wpAnyH_ready (rs := [16]) (by as_aux_lemma => kernel_rfl) (by simp) ?_
            refine AllReadyH.cons rfl (fun K hK => ?_) AllReadyH.nil
            rw [if_pos (by rfl)]
            have hrw := RowN.below (tabOk false) HROW.out hb5
            obtain ⟨us, hus⟩ : ∃ us : List Su, W5.ownsRow lo 91 2 (.slice va k cva) k (us.flatMap suE) := by obtain ⟨us, q1, -⟩ := hrw; exact ⟨us, q1.1.2⟩
            refine wp_appSt _ _ rfl lo _ k (us.flatMap suE) rfl hus W4.heap.size 1 (.slice a1 ss.length e1) (.slice a2 az.length e2) rfl rfl rfl (by simpa using hnw.cell 0) (by simpa using hnw.cell 1) (by omega) (by have := hb5.size; omega) ?_
            intro y3 W6 ho3 hg6
            have hsn := tab_snoc hrw oI5 oA5 hus ho3 hg6 hlD
            obtain ⟨a3, e3, rfl, -, -⟩ := RowN.shape suE_len hsn
            have bk := Blk.kept (Blk.of HBB.out hb5) hg6 (Blk.not_row (Blk.of HBB.out hb5) (by decide) hus)
            have bx := Blk.kept (Blk.of HBX.out hb5) hg6 (Blk.not_row (Blk.of HBX.out hb5) (by decide) hus)
            have br := Blk.kept (Blk.of HBR.out hb5) hg6 (Blk.not_row (Blk.of HBR.out hb5) (by decide) hus)
            have hb6 : Below w.heap.size w W6 := (HBW.out.trans (hb5.mono HBW.out.size)).grown hg6 (by have := hb5.size; have := HBW.out.size; omega) (fun j hj => by have := (World.ownsRow.lt hus j hj).1; omega)
            have x1 := bk.cell 1
            have xf := bk.frozen 1
            simp at x1
            refine hK.out _ _ (⟨cell_later hb6 f0, cell_later hb6 f1, _, x1⟩) (fun hS2 => ?_)
            clear hK K hS
            have hS := hS2
            clear hS2
            (try simp only [Act.put, List.getElem_toArray, List.getElem_cons_zero, List.getElem_cons_succ, List.setIfInBounds_toArray, List.set_cons_zero, List.set_cons_succ])
            refine wpAnyH_take (i := 17) (v := (.pointer (some ⟨B, 1, none⟩))) rfl (by as_aux_lemma => kernel_rfl) (by as_aux_lemma => kernel_rfl) (by as_aux_lemma => kernel_rfl) (fun _ _ _ h => nomatch h.1) (Or.inl ⟨by kernel_rfl, ?_⟩) hS ?_
            · intro w hSw; (try dsimp only at hSw); go_simp
            simp only [Act.put, List.getElem_toArray, List.getElem_cons_zero, List.getElem_cons_succ, List.setIfInBounds_toArray, List.set_cons_zero, List.set_cons_succ]
            refine wpAnyH_ready (rs := [18]) (by as_aux_lemma => kernel_rfl) (by simp) ?_
            refine AllReadyH.cons rfl (fun K hK => ?_) AllReadyH.nil
            go_simp
            have bk2 := bk.set (i := 1) (.slice a3 (k + 1) e3)
            have hgs := set_grown W6 B 1 (.slice a3 (k + 1) e3)
            have hbz := hb6.grown hgs hb6.size (fun j hj => by cases hj; omega)
            have y1 := bk2.cell 1
            simp at y1
            refine hK.out _ _ (⟨cell_later hbz f0, cell_later hbz f1, _, y1⟩) (fun hS2 => ?_)
            clear hK K hS
            have hS := hS2
            clear hS2
            (try simp only [Act.put, List.getElem_toArray, List.getElem_cons_zero, List.getElem_cons_succ, List.setIfInBounds_toArray, List.set_cons_zero, List.set_cons_succ])
            refine wpAnyH_done (by kernel_rfl) ?_ _
            refine ⟨rfl, .slice (some ⟨W1.heap.size, 0, none⟩) 0 0, .slice a1 ss.length e1, .slice (some ⟨D.heap.size, 0, none⟩) 0 0, .slice a2 az.length e2, .agg #[.slice a1 ss.length e1, .slice a2 az.length e2], .slice (some ⟨W4.heap.size, 0, none⟩) 1 1, a3, e3, ?_, by simpa using bk2, Blk.kept bx hgs (by simp; omega), Blk.kept br hgs (by simp; omega), ?_, hbz⟩
            · rfl
            · rw [HTK.out]; exact RowN.mono (tabOk false) (RowN.chg (tabOk false) hsn (Chg.one hgs) (.inr (by omega))) (Nat.le_refl _) hgs.size
        · skip
          rw [if_pos (by rfl)]
          go_simp
          obtain ⟨W1, hW⟩ : ∃ V, V = D.alloc (.cells #[] 2) := ⟨_, rfl⟩
          rw [← hW]
          have hb1 : Below D.heap.size D W1 := by rw [hW]; exact hb0.alloc hb0.size _
          have hg1 : D.grownBy W1 none := by rw [hW]; exact World.grownBy_alloc _ _ none
          have oI1 : Own .i64 2 W1 D.heap.size (.slice (some ⟨D.heap.size, 0, none⟩) 0 0) 0 [] := by rw [hW]; exact own_lit D #[] 0 D.heap.size [] rfl rfl hb0.size (by unfold maxLen; omega)
          clear hW
          refine hK.out _ _ (⟨cell_later hb1 d0, cell_later hb1 d1, _, cell_later hb1 dB⟩) (fun hS2 => ?_)
          clear hK K hS
          have hS := hS2
          clear hS2
          (try simp only [Act.put, List.getElem_toArray, List.getElem_cons_zero, List.getElem_cons_succ, List.setIfInBounds_toArray, List.set_cons_zero, List.set_cons_succ])
          refine wpAnyH_ready (rs := [1, 7, 8]) (by as_aux_lemma => kernel_rfl) (by simp) ?_
          refine AllReadyH.cons rfl (fun K hK => ?_) (AllReadyH.cons rfl (fun K hK => ?_) (AllReadyH.cons rfl (fun K hK => ?_) AllReadyH.nil))
          · skip
            have k1 := cell_later hb1 dB
            go_simp
            refine hK.out _ _ (hS) (fun hS2 => ?_)
            clear hK K hS
            have hS := hS2
            clear hS2
            (try simp only [Act.put, List.getElem_toArray, List.getElem_cons_zero, List.getElem_cons_succ, List.setIfInBounds_toArray, List.set_cons_zero, List.set_cons_succ])
            clear k1
            refine wpAnyH_ready (rs := [7, 8]) (by as_aux_lemma => kernel_rfl) (by simp) ?_
            refine AllReadyH.cons rfl (fun K hK => ?_) (AllReadyH.cons rfl (fun K hK => ?_) AllReadyH.nil)
            · skip
              rw [if_pos (by rfl)]
              refine wp_append_rd _ _ 83 rfl .i64 D.heap.size 2 iI 8 Tryz.underlying83 hI hI0 hI1 hI2 _ 0 [] rfl oI1 p ss.length cp ss rfl (hrp.below hb1) (by unfold maxLen; omega) (by omega) hb1.size ?_
              intro y1 W2 oI2 hg2
              rw [Nat.zero_add, List.nil_append] at oI2
              obtain ⟨a1, e1, rfl, -, -⟩ := (RowI.of oI2).shape
              have hb2 := hb1.grown hg2 hb1.size (fun j hj => (oI1.lt j hj).1)
              refine hK.out _ _ (⟨cell_later hb2 d0, cell_later hb2 d1, _, cell_later hb2 dB⟩) (fun hS2 => ?_)
              clear hK K hS
              have hS := hS2
              clear hS2
              (try simp only [Act.put, List.getElem_toArray, List.getElem_cons_zero, List.getElem_cons_succ, List.setIfInBounds_toArray, List.set_cons_zero, List.set_cons_succ])
              refine wpAnyH_ready (rs := [8]) (by as_aux_lemma => kernel_rfl) (by simp) ?_
              refine AllReadyH.cons rfl (fun K hK => ?_) AllReadyH.nil
              rw [if_pos (by rfl)]
              go_simp
              obtain ⟨W3, hW⟩ : ∃ V, V = W2.alloc (.cells #[] 99) := ⟨_, rfl⟩
              rw [← hW]
              have hb3 : Below D.heap.size D W3 := by rw [hW]; exact hb2.alloc hb2.size _
              have hg3 : W2.grownBy W3 none := by rw [hW]; exact World.grownBy_alloc _ _ none
              have oA3 : OwnR lineE 2 99 W3 D.heap.size (.slice (some ⟨W2.heap.size, 0, none⟩) 0 0) 0 [] := by rw [hW]; exact ⟨rfl, World.ownsRow_lit W2 #[] _ hb2.size (by unfold maxLen; omega) rfl⟩
              have oI3 := oI2.kept hg3 (fun _ _ e => nomatch e)
              clear hW
              refine hK.out _ _ (⟨cell_later hb3 d0, cell_later hb3 d1, _, cell_later hb3 dB⟩) (fun hS2 => ?_)
              clear hK K hS
              have hS := hS2
              clear hS2
              (try simp only [Act.put, List.getElem_toArray, List.getElem_cons_zero, List.getElem_cons_succ, List.setIfInBounds_toArray, List.set_cons_zero, List.set_cons_succ])
              refine wpAnyH_ready (rs := [13]) (by as_aux_lemma => kernel_rfl) (by simp) ?_
              refine AllReadyH.cons rfl (fun K hK => ?_) AllReadyH.nil
              rw [if_pos (by rfl)]
              refine wp_appArcs _ _ rfl D.heap.size _ 0 [] rfl oA3 q az.length cq az rfl (hrq.below hb3) (by omega) hb3.size ?_
              intro y2 W4 oA4 hg4
              rw [Nat.zero_add, List.nil_append] at oA4
              obtain ⟨a2, e2, rfl, -, -⟩ := (RowS.of oA4).shape lineE_len
              have hb4 := hb3.grown hg4 hb3.size (fun j hj => (oA3.lt j hj).1)
              have oI4 := oI3.kept hg4 (fun j hj => own_ne oA3.2 oI3 (by decide) j hj)
              refine hK.out _ _ (⟨cell_later hb4 d0, cell_later hb4 d1, _, cell_later hb4 dB⟩) (fun hS2 => ?_)
              clear hK K hS
              have hS := hS2
              clear hS2
              (try simp only [Act.put, List.getElem_toArray, List.getElem_cons_zero, List.getElem_cons_succ, List.setIfInBounds_toArray, List.set_cons_zero, List.set_cons_succ])
              refine wpAnyH_take (i := 14) (v := (.agg #[.slice a1 ss.length e1, .slice a2 az.length e2])) rfl (by as_aux_lemma => kernel_rfl) (by as_aux_lemma => kernel_rfl) (by as_aux_lemma => kernel_rfl) (fun _ _ _ h => nomatch h.1) (Or.inl ⟨by kernel_rfl, ?_⟩) hS ?_
              · intro w hSw; (try dsimp only at hSw); go_simp
              simp only [Act.put, List.getElem_toArray, List.getElem_cons_zero, List.getElem_cons_succ, List.setIfInBounds_toArray, List.set_cons_zero, List.set_cons_succ]
              refine wpAnyH_ready (rs := [15]) (by as_aux_lemma => kernel_rfl) (by simp) ?_
              refine AllReadyH.cons rfl (fun K hK => ?_) AllReadyH.nil
              rw [if_pos (by rfl)]
              go_simp
              obtain ⟨W5, hW⟩ : ∃ V, V = W4.alloc (.cells #[.slice a1 ss.length e1, .slice a2 az.length e2] 91) := ⟨_, rfl⟩
              rw [← hW]
              have hb5 : Below D.heap.size D W5 := by rw [hW]; exact hb4.alloc hb4.size _
              have hg5 : W4.grownBy W5 none := by rw [hW]; exact World.grownBy_alloc _ _ none
              have oI5 := oI4.kept hg5 (fun _ _ e => nomatch e)
              have oA5 := oA4.kept hg5 (fun _ _ e => nomatch e)
              have hnw : Blk W5 W4.heap.size #[.slice a1 ss.length e1, .slice a2 az.length e2] 91 := by rw [hW]; exact Blk.new _ _ _
              clear hW
              refine hK.out _ _ (⟨cell_later hb5 d0, cell_later hb5 d1, _, cell_later hb5 dB⟩) (fun hS2 => ?_)
              clear hK K hS
              have hS := hS2
              clear hS2
              (try simp only [Act.put, List.getElem_toArray, List.getElem_cons_zero, List.getElem_cons_succ, List.setIfInBounds_toArray, List.set_cons_zero, List.set_cons_succ])
              refine wpAnyH_ready (rs := [16]) (by as_aux_lemma => kernel_rfl) (by simp) ?_
              refine AllReadyH.cons rfl (fun K hK => ?_) AllReadyH.nil
              rw [if_pos (by rfl)]
              have hrw := RowN.below (tabOk false) HROW.out hb5
              obtain ⟨us, hus⟩ : ∃ us : List Su, W5.ownsRow lo 91 2 (.slice va k cva) k (us.flatMap suE) := by obtain ⟨us, q1, -⟩ := hrw; exact ⟨us, q1.1.2⟩
              refine wp_appSt _ _ rfl lo _ k (us.flatMap suE) rfl hus W4.heap.size 1 (.slice a1 ss.length e1) (.slice a2 az.length e2) rfl rfl rfl (by simpa using hnw.cell 0) (by simpa using hnw.cell 1) (by omega) (by have := hb5.size; omega) ?_
              intro y3 W6 ho3 hg6
              have hsn := tab_snoc hrw oI5 oA5 hus ho3 hg6 hlD
              obtain ⟨a3, e3, rfl, -, -⟩ := RowN.shape suE_len hsn
              have bk := Blk.kept (Blk.of HBB.out hb5) hg6 (Blk.not_row (Blk.of HBB.out hb5) (by decide) hus)
              have bx := Blk.kept (Blk.of HBX.out hb5) hg6 (Blk.not_row (Blk.of HBX.out hb5) (by decide) hus)
              have br := Blk.kept (Blk.of HBR.out hb5) hg6 (Blk.not_row (Blk.of HBR.out hb5) (by decide) hus)
              have hb6 : Below w.heap.size w W6 := (HBW.out.trans (hb5.mono HBW.out.size)).grown hg6 (by have := hb5.size; have := HBW.out.size; omega) (fun j hj => by have := (World.ownsRow.lt hus j hj).1; omega)
              have x1 := bk.cell 1
              have xf := bk.frozen 1
              simp at x1
              refine hK.out _ _ (⟨cell_later hb6 f0, cell_later hb6 f1, _, x1⟩) (fun hS2 => ?_)
              clear hK K hS
              have hS := hS2
              clear hS2
              (try simp only [Act.put, List.getElem_toArray, List.getElem_cons_zero, List.getElem_cons_succ, List.setIfInBounds_toArray, List.set_cons_zero, List.set_cons_succ])
              refine wpAnyH_take (i := 17) (v := (.pointer (some ⟨B, 1, none⟩))) rfl (by as_aux_lemma => kernel_rfl) (by as_aux_lemma => kernel_rfl) (by as_aux_lemma => kernel_rfl) (fun _ _ _ h => nomatch h.1) (Or.inl ⟨by kernel_rfl, ?_⟩) hS ?_
              · intro w hSw; (try dsimp only at hSw); go_simp
              simp only [Act.put, List.getElem_toArray, List.getElem_cons_zero, List.getElem_cons_succ, List.setIfInBounds_toArray, List.set_cons_zero, List.set_cons_succ]
              refine wpAnyH_ready (rs := [18]) (by as_aux_lemma => kernel_rfl) (by simp) ?_
              refine AllReadyH.cons rfl (fun K hK => ?_) AllReadyH.nil
              go_simp
              have bk2 := bk.set (i := 1) (.slice a3 (k + 1) e3)
              have hgs := set_grown W6 B 1 (.slice a3 (k + 1) e3)
              have hbz := hb6.grown hgs hb6.size (fun j hj => by cases hj; omega)
              have y1 := bk2.cell 1
              simp at y1
              refine hK.out _ _ (⟨cell_later hbz f0, cell_later hbz f1, _, y1⟩) (fun hS2 => ?_)
              clear hK K hS
              have hS := hS2
              clear hS2
              (try simp only [Act.put, List.getElem_toArray, List.getElem_cons_zero, List.getElem_cons_succ, List.setIfInBounds_toArray, List.set_cons_zero, List.set_cons_succ])
              refine wpAnyH_done (by kernel_rfl) ?_ _
              refine ⟨rfl, .slice (some ⟨D.heap.size, 0, none⟩) 0 0, .slice a1 ss.length e1, .slice (some ⟨W2.heap.size, 0, none⟩) 0 0, .slice a2 az.length e2, .agg #[.slice a1 ss.length e1, .slice a2 az.length e2], .slice (some ⟨W4.heap.size, 0, none⟩) 1 1, a3, e3, ?_, by simpa using bk2, Blk.kept bx hgs (by simp; omega), Blk.kept br hgs (by simp; omega), ?_, hbz⟩
              · rfl
              · rw [HTK.out]; exact RowN.mono (tabOk false) (RowN.chg (tabOk false) hsn (Chg.one hgs) (.inr (by omega))) (Nat.le_refl _) hgs.size
            · skip
              rw [if_pos (by rfl)]
              go_simp
              obtain ⟨W2, hW⟩ : ∃ V, V = W1.alloc (.cells #[] 99) := ⟨_, rfl⟩
              rw [← hW]
              have hb2 : Below D.heap.size D W2 := by rw [hW]; exact hb1.alloc hb1.size _
              have hg2 : W1.grownBy W2 none := by rw [hW]; exact World.grownBy_alloc _ _ none
              have oA2 : OwnR lineE 2 99 W2 D.heap.size (.slice (some ⟨W1.heap.size, 0, none⟩) 0 0) 0 [] := by rw [hW]; exact ⟨rfl, World.ownsRow_lit W1 #[] _ hb1.size (by unfold maxLen; omega) rfl⟩
              have oI2 := oI1.kept hg2 (fun _ _ e => nomatch e)
              clear hW
              refine hK.out _ _ (⟨cell_later hb2 d0, cell_later hb2 d1, _, cell_later hb2 dB⟩) (fun hS2 => ?_)
              clear hK K hS
              have hS := hS2
              clear hS2
              (try simp only [Act.put, List.getElem_toArray, List.getElem_cons_zero, List.getElem_cons_succ, List.setIfInBounds_toArray, List.set_cons_zero, List.set_cons_succ])
              refine wpAnyH_ready (rs := [7]) (by as_aux_lemma => kernel_rfl) (by simp) ?_
              refine AllReadyH.cons rfl (fun K hK => ?_) AllReadyH.nil
              rw [if_pos (by rfl)]
              refine wp_append_rd _ _ 83 rfl .i64 D.heap.size 2 iI 8 Tryz.underlying83 hI hI0 hI1 hI2 _ 0 [] rfl oI2 p ss.length cp ss rfl (hrp.below hb2) (by unfold maxLen; omega) (by omega) hb2.size ?_
              intro y1 W3 oI3 hg3
              rw [Nat.zero_add, List.nil_append] at oI3
              obtain ⟨a1, e1, rfl, -, -⟩ := (RowI.of oI3).shape
              have hb3 := hb2.grown hg3 hb2.size (fun j hj => (oI2.lt j hj).1)
              have oA3 := oA2.kept hg3 (fun j hj => own_ne oI2 oA2.2 (by decide) j hj)
              refine hK.out _ _ (⟨cell_later hb3 d0, cell_later hb3 d1, _, cell_later hb3 dB⟩) (fun hS2 => ?_)
              clear hK K hS
              have hS := hS2
              clear hS2
              (try simp only [Act.put, List.getElem_toArray, List.getElem_cons_zero, List.getElem_cons_succ, List.setIfInBounds_toArray, List.set_cons_zero, List.set_cons_succ])
              refine wpAnyH_ready (rs := [13]) (by as_aux_lemma => kernel_rfl) (by simp) ?_
              refine AllReadyH.cons rfl (fun K hK => ?_) AllReadyH.nil
              rw [if_pos (by rfl)]
              refine wp_appArcs _ _ rfl D.heap.size _ 0 [] rfl oA3 q az.length cq az rfl (hrq.below hb3) (by omega) hb3.size ?_
              intro y2 W4 oA4 hg4
              rw [Nat.zero_add, List.nil_append] at oA4
              obtain ⟨a2, e2, rfl, -, -⟩ := (RowS.of oA4).shape lineE_len
              have hb4 := hb3.grown hg4 hb3.size (fun j hj => (oA3.lt j hj).1)
              have oI4 := oI3.kept hg4 (fun j hj => own_ne oA3.2 oI3 (by decide) j hj)
              refine hK.out _ _ (⟨cell_later hb4 d0, cell_later hb4 d1, _, cell_later hb4 dB⟩) (fun hS2 => ?_)
              clear hK K hS
              have hS := hS2
              clear hS2
              (try simp only [Act.put, List.getElem_toArray, List.getElem_cons_zero, List.getElem_cons_succ, List.setIfInBounds_toArray, List.set_cons_zero, List.set_cons_succ])
              refine wpAnyH_take (i := 14) (v := (.agg #[.slice a1 ss.length e1, .slice a2 az.length e2])) rfl (by as_aux_lemma => kernel_rfl) (by as_aux_lemma => kernel_rfl) (by as_aux_lemma => kernel_rfl) (fun _ _ _ h => nomatch h.1) (Or.inl ⟨by kernel_rfl, ?_⟩) hS ?_
              · intro w hSw; (try dsimp only at hSw); go_simp
              simp only [Act.put, List.getElem_toArray, List.getElem_cons_zero, List.getElem_cons_succ, List.setIfInBounds_toArray, List.set_cons_zero, List.set_cons_succ]
              refine wpAnyH_ready (rs := [15]) (by as_aux_lemma => kernel_rfl) (by simp) ?_
              refine AllReadyH.cons rfl (fun K hK => ?_) AllReadyH.nil
              rw [if_pos (by rfl)]
              go_simp
              obtain ⟨W5, hW⟩ : ∃ V, V = W4.alloc (.cells #[.slice a1 ss.length e1, .slice a2 az.length e2] 91) := ⟨_, rfl⟩
              rw [← hW]
              have hb5 : Below D.heap.size D W5 := by rw [hW]; exact hb4.alloc hb4.size _
              have hg5 : W4.grownBy W5 none := by rw [hW]; exact World.grownBy_alloc _ _ none
              have oI5 := oI4.kept hg5 (fun _ _ e => nomatch e)
              have oA5 := oA4.kept hg5 (fun _ _ e => nomatch e)
              have hnw : Blk W5 W4.heap.size #[.slice a1 ss.length e1, .slice a2 az.length e2] 91 := by rw [hW]; exact Blk.new _ _ _
              clear hW
              refine hK.out _ _ (⟨cell_later hb5 d0, cell_later hb5 d1, _, cell_later hb5 dB⟩) (fun hS2 => ?_)
              clear hK K hS
              have hS := hS2
              clear hS2
              (try simp only [Act.put, List.getElem_toArray, List.getElem_cons_zero, List.getElem_cons_succ, List.setIfInBounds_toArray, List.set_cons_zero, List.set_cons_succ])
              refine wpAnyH_ready (rs := [16]) (by as_aux_lemma => kernel_rfl) (by simp) ?_
              refine AllReadyH.cons rfl (fun K hK => ?_) AllReadyH.nil
              rw [if_pos (by rfl)]
              have hrw := RowN.below (tabOk false) HROW.out hb5
              obtain ⟨us, hus⟩ : ∃ us : List Su, W5.ownsRow lo 91 2 (.slice va k cva) k (us.flatMap suE) := by obtain ⟨us, q1, -⟩ := hrw; exact ⟨us, q1.1.2⟩
              refine wp_appSt _ _ rfl lo _ k (us.flatMap suE) rfl hus W4.heap.size 1 (.slice a1 ss.length e1) (.slice a2 az.length e2) rfl rfl rfl (by simpa using hnw.cell 0) (by simpa using hnw.cell 1) (by omega) (by have := hb5.size; omega) ?_
              intro y3 W6 ho3 hg6
              have hsn := tab_snoc hrw oI5 oA5 hus ho3 hg6 hlD
              obtain ⟨a3, e3, rfl, -, -⟩ := RowN.shape suE_len hsn
              have bk := Blk.kept (Blk.of HBB.out hb5) hg6 (Blk.not_row (Blk.of HBB.out hb5) (by decide) hus)
              have bx := Blk.kept (Blk.of HBX.out hb5) hg6 (Blk.not_row (Blk.of HBX.out hb5) (by decide) hus)
              have br := Blk.kept (Blk.of HBR.out hb5) hg6 (Blk.not_row (Blk.of HBR.out hb5) (by decide) hus)
              have hb6 : Below w.heap.size w W6 := (HBW.out.trans (hb5.mono HBW.out.size)).grown hg6 (by have := hb5.size; have := HBW.out.size; omega) (fun j hj => by have := (World.ownsRow.lt hus j hj).1; omega)
              have x1 := bk.cell 1
              have xf := bk.frozen 1
              simp at x1
              refine hK.out _ _ (⟨cell_later hb6 f0, cell_later hb6 f1, _, x1⟩) (fun hS2 => ?_)
              clear hK K hS
              have hS := hS2
              clear hS2
              (try simp only [Act.put, List.getElem_toArray, List.getElem_cons_zero, List.getElem_cons_succ, List.setIfInBounds_toArray, List.set_cons_zero, List.set_cons_succ])
              refine wpAnyH_take (i := 17) (v := (.pointer (some ⟨B, 1, none⟩))) rfl (by as_aux_lemma => kernel_rfl) (by as_aux_lemma => kernel_rfl) (by as_aux_lemma => kernel_rfl) (fun _ _ _ h => nomatch h.1) (Or.inl ⟨by kernel_rfl, ?_⟩) hS ?_
              · intro w hSw; (try dsimp only at hSw); go_simp
              simp only [Act.put, List.getElem_toArray, List.getElem_cons_zero, List.getElem_cons_succ, List.setIfInBounds_toArray, List.set_cons_zero, List.set_cons_succ]
              refine wpAnyH_ready (rs := [18]) (by as_aux_lemma => kernel_rfl) (by simp) ?_
              refine AllReadyH.cons rfl (fun K hK => ?_) AllReadyH.nil
              go_simp
              have bk2 := bk.set (i := 1) (.slice a3 (k + 1) e3)
              have hgs := set_grown W6 B 1 (.slice a3 (k + 1) e3)
              have hbz := hb6.grown hgs hb6.size (fun j hj => by cases hj; omega)
              have y1 := bk2.cell 1
              simp at y1
              refine hK.out _ _ (⟨cell_later hbz f0, cell_later hbz f1, _, y1⟩) (fun hS2 => ?_)
              clear hK K hS
              have hS := hS2
              clear hS2
              (try simp only [Act.put, List.getElem_toArray, List.getElem_cons_zero, List.getElem_cons_succ, List.setIfInBounds_toArray, List.set_cons_zero, List.set_cons_succ])
              refine wpAnyH_done (by kernel_rfl) ?_ _
              refine ⟨rfl, .slice (some ⟨D.heap.size, 0, none⟩) 0 0, .slice a1 ss.length e1, .slice (some ⟨W1.heap.size, 0, none⟩) 0 0, .slice a2 az.length e2, .agg #[.slice a1 ss.length e1, .slice a2 az.length e2], .slice (some ⟨W4.heap.size, 0, none⟩) 1 1, a3, e3, ?_, by simpa using bk2, Blk.kept bx hgs (by simp; omega), Blk.kept br hgs (by simp; omega), ?_, hbz⟩
              · rfl
              · rw [HTK.out]; exact RowN.mono (tabOk false) (RowN.chg (tabOk false) hsn (Chg.one hgs) (.inr (by omega))) (Nat.le_refl _) hgs.size
          · skip
            rw [if_pos (by rfl)]
            refine wp_append_rd _ _ 83 rfl .i64 D.heap.size 2 iI 8 Tryz.underlying83 hI hI0 hI1 hI2 _ 0 [] rfl oI1 p ss.length cp ss rfl (hrp.below hb1) (by unfold maxLen; omega) (by omega) hb1.size ?_
            intro y1 W2 oI2 hg2
            rw [Nat.zero_add, List.nil_append] at oI2
            obtain ⟨a1, e1, rfl, -, -⟩ := (RowI.of oI2).shape
            have hb2 := hb1.grown hg2 hb1.size (fun j hj => (oI1.lt j hj).1)
            refine hK.out _ _ (⟨cell_later hb2 d0, cell_later hb2 d1, _, cell_later hb2 dB⟩) (fun hS2 => ?_)
            clear hK K hS
            have hS := hS2
            clear hS2
            (try simp only [Act.put, List.getElem_toArray, List.getElem_cons_zero, List.getElem_cons_succ, List.setIfInBounds_toArray, List.set_cons_zero, List.set_cons_succ])
            refine wpAnyH_ready (rs := [1, 8]) (by as_aux_lemma => kernel_rfl) (by simp) ?_
            refine AllReadyH.cons rfl (fun K hK => ?_) (AllReadyH.cons rfl (fun K hK => ?_) AllReadyH.nil)
            · skip
              have k1 := cell_later hb2 dB
              go_simp
              refine hK.out _ _ (hS) (fun hS2 => ?_)
              clear hK K hS
              have hS := hS2
              clear hS2
              (try simp only [Act.put, List.getElem_toArray, List.getElem_cons_zero, List.getElem_cons_succ, List.setIfInBounds_toArray, List.set_cons_zero, List.set_cons_succ])
              clear k1
              refine wpAnyH_ready (rs := [8]) (by as_aux_lemma => kernel_rfl) (by simp) ?_
              refine AllReadyH.cons rfl (fun K hK => ?_) AllReadyH.nil
              rw [if_pos (by rfl)]
              go_simp
              obtain ⟨W3, hW⟩ : ∃ V, V = W2.alloc (.cells #[] 99) := ⟨_, rfl⟩
              rw [← hW]
              have hb3 : Below D.heap.size D W3 := by rw [hW]; exact hb2.alloc hb2.size _
              have hg3 : W2.grownBy W3 none := by rw [hW]; exact World.grownBy_alloc _ _ none
              have oA3 : OwnR lineE 2 99 W3 D.heap.size (.slice (some ⟨W2.heap.size, 0, none⟩) 0 0) 0 [] := by rw [hW]; exact ⟨rfl, World.ownsRow_lit W2 #[] _ hb2.size (by unfold maxLen; omega) rfl⟩
              have oI3 := oI2.kept hg3 (fun _ _ e => nomatch e)
              clear hW
              refine hK.out _ _ (⟨cell_later hb3 d0, cell_later hb3 d1, _, cell_later hb3 dB⟩) (fun hS2 => ?_)
              clear hK K hS
              have hS := hS2
              clear hS2
              (try simp only [Act.put, List.getElem_toArray, List.getElem_cons_zero, List.getElem_cons_succ, List.setIfInBounds_toArray, List.set_cons_zero, List.set_cons_succ])
              refine wpAnyH_ready (rs := [13]) (by as_aux_lemma => kernel_rfl) (by simp) ?_
              refine AllReadyH.cons rfl (fun K hK => ?_) AllReadyH.nil
              rw [if_pos (by rfl)]
              refine wp_appArcs _ _ rfl D.heap.size _ 0 [] rfl oA3 q az.length cq az rfl (hrq.below hb3) (by omega) hb3.size ?_
              intro y2 W4 oA4 hg4
              rw [Nat.zero_add, List.nil_append] at oA4
              obtain ⟨a2, e2, rfl, -, -⟩ := (RowS.of oA4).shape lineE_len
              have hb4 := hb3.grown hg4 hb3.size (fun j hj => (oA3.lt j hj).1)
              have oI4 := oI3.kept hg4 (fun j hj => own_ne oA3.2 oI3 (by decide) j hj)
              refine hK.out _ _ (⟨cell_later hb4 d0, cell_later hb4 d1, _, cell_later hb4 dB⟩) (fun hS2 => ?_)
              clear hK K hS
              have hS := hS2
              clear hS2
              (try simp only [Act.put, List.getElem_toArray, List.getElem_cons_zero, List.getElem_cons_succ, List.setIfInBounds_toArray, List.set_cons_zero, List.set_cons_succ])
              refine wpAnyH_take (i := 14) (v := (.agg #[.slice a1 ss.length e1, .slice a2 az.length e2])) rfl (by as_aux_lemma => kernel_rfl) (by as_aux_lemma => kernel_rfl) (by as_aux_lemma => kernel_rfl) (fun _ _ _ h => nomatch h.1) (Or.inl ⟨by kernel_rfl, ?_⟩) hS ?_
              · intro w hSw; (try dsimp only at hSw); go_simp
              simp only [Act.put, List.getElem_toArray, List.getElem_cons_zero, List.getElem_cons_succ, List.setIfInBounds_toArray, List.set_cons_zero, List.set_cons_succ]
              refine wpAnyH_ready (rs := [15]) (by as_aux_lemma => kernel_rfl) (by simp) ?_
              refine AllReadyH.cons rfl (fun K hK => ?_) AllReadyH.nil
              rw [if_pos (by rfl)]
              go_simp
              obtain ⟨W5, hW⟩ : ∃ V, V = W4.alloc (.cells #[.slice a1 ss.length e1, .slice a2 az.length e2] 91) := ⟨_, rfl⟩
              rw [← hW]
              have hb5 : Below D.heap.size D W5 := by rw [hW]; exact hb4.alloc hb4.size _
              have hg5 : W4.grownBy W5 none := by rw [hW]; exact World.grownBy_alloc _ _ none
              have oI5 := oI4.kept hg5 (fun _ _ e => nomatch e)
              have oA5 := oA4.kept hg5 (fun _ _ e => nomatch e)
              have hnw : Blk W5 W4.heap.size #[.slice a1 ss.length e1, .slice a2 az.length e2] 91 := by rw [hW]; exact Blk.new _ _ _
              clear hW
              refine hK.out _ _ (⟨cell_later hb5 d0, cell_later hb5 d1, _, cell_later hb5 dB⟩) (fun hS2 => ?_)
              clear hK K hS
              have hS := hS2
              clear hS2
              (try simp only [Act.put, List.getElem_toArray, List.getElem_cons_zero, List.getElem_cons_succ, List.setIfInBounds_toArray, List.set_cons_zero, List.set_cons_succ])
              refine wpAnyH_ready (rs := [16]) (by as_aux_lemma => kernel_rfl) (by simp) ?_
              refine AllReadyH.cons rfl (fun K hK => ?_) AllReadyH.nil
              rw [if_pos (by rfl)]
              have hrw := RowN.below (tabOk false) HROW.out hb5
              obtain ⟨us, hus⟩ : ∃ us : List Su, W5.ownsRow lo 91 2 (.slice va k cva) k (us.flatMap suE) := by obtain ⟨us, q1, -⟩ := hrw; exact ⟨us, q1.1.2⟩
              refine wp_appSt _ _ rfl lo _ k (us.flatMap suE) rfl hus W4.heap.size 1 (.slice a1 ss.length e1) (.slice a2 az.length e2) rfl rfl rfl (by simpa using hnw.cell 0) (by simpa using hnw.cell 1) (by omega) (by have := hb5.size; omega) ?_
              intro y3 W6 ho3 hg6
              have hsn := tab_snoc hrw oI5 oA5 hus ho3 hg6 hlD
              obtain ⟨a3, e3, rfl, -, -⟩ := RowN.shape suE_len hsn
              have bk := Blk.kept (Blk.of HBB.out hb5) hg6 (Blk.not_row (Blk.of HBB.out hb5) (by decide) hus)
              have bx := Blk.kept (Blk.of HBX.out hb5) hg6 (Blk.not_row (Blk.of HBX.out hb5) (by decide) hus)
              have br := Blk.kept (Blk.of HBR.out hb5) hg6 (Blk.not_row (Blk.of HBR.out hb5) (by decide) hus)
              have hb6 : Below w.heap.size w W6 := (HBW.out.trans (hb5.mono HBW.out.size)).grown hg6 (by have := hb5.size; have := HBW.out.size; omega) (fun j hj => by have := (World.ownsRow.lt hus j hj).1; omega)
              have x1 := bk.cell 1
              have xf := bk.frozen 1
              simp at x1
              refine hK.out _ _ (⟨cell_later hb6 f0, cell_later hb6 f1, _, x1⟩) (fun hS2 => ?_)
              clear hK K hS
              have hS := hS2
              clear hS2
              (try simp only [Act.put, List.getElem_toArray, List.getElem_cons_zero, List.getElem_cons_succ, List.setIfInBounds_toArray, List.set_cons_zero, List.set_cons_succ])
              refine wpAnyH_take (i := 17) (v := (.pointer (some ⟨B, 1, none⟩))) rfl (by as_aux_lemma => kernel_rfl) (by as_aux_lemma => kernel_rfl) (by as_aux_lemma => kernel_rfl) (fun _ _ _ h => nomatch h.1) (Or.inl ⟨by kernel_rfl, ?_⟩) hS ?_
              · intro w hSw; (try dsimp only at hSw); go_simp
              simp only [Act.put, List.getElem_toArray, List.getElem_cons_zero, List.getElem_cons_succ, List.setIfInBounds_toArray, List.set_cons_zero, List.set_cons_succ]
              refine wpAnyH_ready (rs := [18]) (by as_aux_lemma => kernel_rfl) (by simp) ?_
              refine AllReadyH.cons rfl (fun K hK => ?_) AllReadyH.nil
              go_simp
              have bk2 := bk.set (i := 1) (.slice a3 (k + 1) e3)
              have hgs := set_grown W6 B 1 (.slice a3 (k + 1) e3)
              have hbz := hb6.grown hgs hb6.size (fun j hj => by cases hj; omega)
              have y1 := bk2.cell 1
              simp at y1
              refine hK.out _ _ (⟨cell_later hbz f0, cell_later hbz f1, _, y1⟩) (fun hS2 => ?_)
              clear hK K hS
              have hS := hS2
              clear hS2
              (try simp only [Act.put, List.getElem_toArray, List.getElem_cons_zero, List.getElem_cons_succ, List.setIfInBounds_toArray, List.set_cons_zero, List.set_cons_succ])
              refine wpAnyH_done (by kernel_rfl) ?_ _
              refine ⟨rfl, .slice (some ⟨D.heap.size, 0, none⟩) 0 0, .slice a1 ss.length e1, .slice (some ⟨W2.heap.size, 0, none⟩) 0 0, .slice a2 az.length e2, .agg #[.slice a1 ss.length e1, .slice a2 az.length e2], .slice (some ⟨W4.heap.size, 0, none⟩) 1 1, a3, e3, ?_, by simpa using bk2, Blk.kept bx hgs (by simp; omega), Blk.kept br hgs (by simp; omega), ?_, hbz⟩
              · rfl
              · rw [HTK.out]; exact RowN.mono (tabOk false) (RowN.chg (tabOk false) hsn (Chg.one hgs) (.inr (by omega))) (Nat.le_refl _) hgs.size
            · skip
              rw [if_pos (by rfl)]
              go_simp
              obtain ⟨W3, hW⟩ : ∃ V, V = W2.alloc (.cells #[] 99) := ⟨_, rfl⟩
              rw [← hW]
              have hb3 : Below D.heap.size D W3 := by rw [hW]; exact hb2.alloc hb2.size _
              have hg3 : W2.grownBy W3 none := by rw [hW]; exact World.grownBy_alloc _ _ none
              have oA3 : OwnR lineE 2 99 W3 D.heap.size (.slice (some ⟨W2.heap.size, 0, none⟩) 0 0) 0 [] := by rw [hW]; exact ⟨rfl, World.ownsRow_lit W2 #[] _ hb2.size (by unfold maxLen; omega) rfl⟩
              have oI3 := oI2.kept hg3 (fun _ _ e => nomatch e)
              clear hW
              refine hK.out _ _ (⟨cell_later hb3 d0, cell_later hb3 d1, _, cell_later hb3 dB⟩) (fun hS2 => ?_)
              clear hK K hS
              have hS := hS2
              clear hS2
              (try simp only [Act.put, List.getElem_toArray, List.getElem_cons_zero, List.getElem_cons_succ, List.setIfInBounds_toArray, List.set_cons_zero, List.set_cons_succ])
              refine wpAnyH_ready (rs := [1, 13]) (by as_aux_lemma => kernel_rfl) (by simp) ?_
              refine AllReadyH.cons rfl (fun K hK => ?_) (AllReadyH.cons rfl (fun K hK => ?_) AllReadyH.nil)
              · skip
                have k1 := cell_later hb3 dB
                go_simp
                refine hK.out _ _ (hS) (fun hS2 => ?_)
                clear hK K hS
                have hS := hS2
                clear hS2
                (try simp only [Act.put, List.getElem_toArray, List.getElem_cons_zero, List.getElem_cons_succ, List.setIfInBounds_toArray, List.set_cons_zero, List.set_cons_succ])
                clear k1
                refine wpAnyH_ready (rs := [13]) (by as_aux_lemma => kernel_rfl) (by simp) ?_
                refine AllReadyH.cons rfl (fun K hK => ?_) AllReadyH.nil
                rw [if_pos (by rfl)]
                refine wp_appArcs _ _ rfl D.heap.size _ 0 [] rfl oA3 q az.length cq az rfl (hrq.below hb3) (by omega) hb3.size ?_
                intro y2 W4 oA4 hg4
                rw [Nat.zero_add, List.nil_append] at oA4
                obtain ⟨a2, e2, rfl, -, -⟩ := (RowS.of oA4).shape lineE_len
                have hb4 := hb3.grown hg4 hb3.size (fun j hj => (oA3.lt j hj).1)
                have oI4 := oI3.kept hg4 (fun j hj => own_ne oA3.2 oI3 (by decide) j hj)
                refine hK.out _ _ (⟨cell_later hb4 d0, cell_later hb4 d1, _, cell_later hb4 dB⟩) (fun hS2 => ?_)
                clear hK K hS
                have hS := hS2
                clear hS2
                (try simp only [Act.put, List.getElem_toArray, List.getElem_cons_zero, List.getElem_cons_succ, List.setIfInBounds_toArray, List.set_cons_zero, List.set_cons_succ])
                refine wpAnyH_take (i := 14) (v := (.agg #[.slice a1 ss.length e1, .slice a2 az.length e2])) rfl (by as_aux_lemma => kernel_rfl) (by as_aux_lemma => kernel_rfl) (by as_aux_lemma => kernel_rfl) (fun _ _ _ h => nomatch h.1) (Or.inl ⟨by kernel_rfl, ?_⟩) hS ?_
                · intro w hSw; (try dsimp only at hSw); go_simp
                simp only [Act.put, List.getElem_toArray, List.getElem_cons_zero, List.getElem_cons_succ, List.setIfInBounds_toArray, List.set_cons_zero, List.set_cons_succ]
                refine wpAnyH_ready (rs := [15]) (by as_aux_lemma => kernel_rfl) (by simp) ?_
                refine AllReadyH.cons rfl (fun K hK => ?_) AllReadyH.nil
                rw [if_pos (by rfl)]
                go_simp
                obtain ⟨W5, hW⟩ : ∃ V, V = W4.alloc (.cells #[.slice a1 ss.length e1, .slice a2 az.length e2] 91) := ⟨_, rfl⟩
                rw [← hW]
                have hb5 : Below D.heap.size D W5 := by rw [hW]; exact hb4.alloc hb4.size _
                have hg5 : W4.grownBy W5 none := by rw [hW]; exact World.grownBy_alloc _ _ none
                have oI5 := oI4.kept hg5 (fun _ _ e => nomatch e)
                have oA5 := oA4.kept hg5 (fun _ _ e => nomatch e)
                have hnw : Blk W5 W4.heap.size #[.slice a1 ss.length e1, .slice a2 az.length e2] 91 := by rw [hW]; exact Blk.new _ _ _
                clear hW
                refine hK.out _ _ (⟨cell_later hb5 d0, cell_later hb5 d1, _, cell_later hb5 dB⟩) (fun hS2 => ?_)
                clear hK K hS
                have hS := hS2
                clear hS2
                (try simp only [Act.put, List.getElem_toArray, List.getElem_cons_zero, List.getElem_cons_succ, List.setIfInBounds_toArray, List.set_cons_zero, List.set_cons_succ])
                refine wpAnyH_ready (rs := [16]) (by as_aux_lemma => kernel_rfl) (by simp) ?_
                refine AllReadyH.cons rfl (fun K hK => ?_) AllReadyH.nil
                rw [if_pos (by rfl)]
                have hrw := RowN.below (tabOk false) HROW.out hb5
                obtain ⟨us, hus⟩ : ∃ us : List Su, W5.ownsRow lo 91 2 (.slice va k cva) k (us.flatMap suE) := by obtain ⟨us, q1, -⟩ := hrw; exact ⟨us, q1.1.2⟩
                refine wp_appSt _ _ rfl lo _ k (us.flatMap suE) rfl hus W4.heap.size 1 (.slice a1 ss.length e1) (.slice a2 az.length e2) rfl rfl rfl (by simpa using hnw.cell 0) (by simpa using hnw.cell 1) (by omega) (by have := hb5.size; omega) ?_
                intro y3 W6 ho3 hg6
                have hsn := tab_snoc hrw oI5 oA5 hus ho3 hg6 hlD
                obtain ⟨a3, e3, rfl, -, -⟩ := RowN.shape suE_len hsn
                have bk := Blk.kept (Blk.of HBB.out hb5) hg6 (Blk.not_row (Blk.of HBB.out hb5) (by decide) hus)
                have bx := Blk.kept (Blk.of HBX.out hb5) hg6 (Blk.not_row (Blk.of HBX.out hb5) (by decide) hus)
                have br := Blk.kept (Blk.of HBR.out hb5) hg6 (Blk.not_row (Blk.of HBR.out hb5) (by decide) hus)
                have hb6 : Below w.heap.size w W6 := (HBW.out.trans (hb5.mono HBW.out.size)).grown hg6 (by have := hb5.size; have := HBW.out.size; omega) (fun j hj => by have := (World.ownsRow.lt hus j hj).1; omega)
                have x1 := bk.cell 1
                have xf := bk.frozen 1
                simp at x1
                refine hK.out _ _ (⟨cell_later hb6 f0, cell_later hb6 f1, _, x1⟩) (fun hS2 => ?_)
                clear hK K hS
                have hS := hS2
                clear hS2
                (try simp only [Act.put, List.getElem_toArray, List.getElem_cons_zero, List.getElem_cons_succ, List.setIfInBounds_toArray, List.set_cons_zero, List.set_cons_succ])
                refine wpAnyH_take (i := 17) (v := (.pointer (some ⟨B, 1, none⟩))) rfl (by as_aux_lemma => kernel_rfl) (by as_aux_lemma => kernel_rfl) (by as_aux_lemma => kernel_rfl) (fun _ _ _ h => nomatch h.1) (Or.inl ⟨by kernel_rfl, ?_⟩) hS ?_
                · intro w hSw; (try dsimp only at hSw); go_simp
                simp only [Act.put, List.getElem_toArray, List.getElem_cons_zero, List.getElem_cons_succ, List.setIfInBounds_toArray, List.set_cons_zero, List.set_cons_succ]
                refine wpAnyH_ready (rs := [18]) (by as_aux_lemma => kernel_rfl) (by simp) ?_
                refine AllReadyH.cons rfl (fun K hK => ?_) AllReadyH.nil
                go_simp
                have bk2 := bk.set (i := 1) (.slice a3 (k + 1) e3)
                have hgs := set_grown W6 B 1 (.slice a3 (k + 1) e3)
                have hbz := hb6.grown hgs hb6.size (fun j hj => by cases hj; omega)
                have y1 := bk2.cell 1
                simp at y1
                refine hK.out _ _ (⟨cell_later hbz f0, cell_later hbz f1, _, y1⟩) (fun hS2 => ?_)
                clear hK K hS
                have hS := hS2
                clear hS2
                (try simp only [Act.put, List.getElem_toArray, List.getElem_cons_zero, List.getElem_cons_succ, List.setIfInBounds_toArray, List.set_cons_zero, List.set_cons_succ])
                refine wpAnyH_done (by kernel_rfl) ?_ _
                refine ⟨rfl, .slice (some ⟨D.heap.size, 0, none⟩) 0 0, .slice a1 ss.length e1, .slice (some ⟨W2.heap.size, 0, none⟩) 0 0, .slice a2 az.length e2, .agg #[.slice a1 ss.length e1, .slice a2 az.length e2], .slice (some ⟨W4.heap.size, 0, none⟩) 1 1, a3, e3, ?_, by simpa using bk2, Blk.kept bx hgs (by simp; omega), Blk.kept br hgs (by simp; omega), ?_, hbz⟩
                · rfl
                · rw [HTK.out]; exact RowN.mono (tabOk false) (RowN.chg (tabOk false) hsn (Chg.one hgs) (.inr (by omega))) (Nat.le_refl _) hgs.size
              · skip
                rw [if_pos (by rfl)]
                refine wp_appArcs _ _ rfl D.heap.size _ 0 [] rfl oA3 q az.length cq az rfl (hrq.below hb3) (by omega) hb3.size ?_
                intro y2 W4 oA4 hg4
                rw [Nat.zero_add, List.nil_append] at oA4
                obtain ⟨a2, e2, rfl, -, -⟩ := (RowS.of oA4).shape lineE_len
                have hb4 := hb3.grown hg4 hb3.size (fun j hj => (oA3.lt j hj).1)
                have oI4 := oI3.kept hg4 (fun j hj => own_ne oA3.2 oI3 (by decide) j hj)
                refine hK.out _ _ (⟨cell_later hb4 d0, cell_later hb4 d1, _, cell_later hb4 dB⟩) (fun hS2 => ?_)
                clear hK K hS
                have hS := hS2
                clear hS2
                (try simp only [Act.put, List.getElem_toArray, List.getElem_cons_zero, List.getElem_cons_succ, List.setIfInBounds_toArray, List.set_cons_zero, List.set_cons_succ])
                refine wpAnyH_take (i := 14) (v := (.agg #[.slice a1 ss.length e1, .slice a2 az.length e2])) rfl (by as_aux_lemma => kernel_rfl) (by as_aux_lemma => kernel_rfl) (by as_aux_lemma => kernel_rfl) (fun _ _ _ h => nomatch h.1) (Or.inl ⟨by kernel_rfl, ?_⟩) hS ?_
                · intro w hSw; (try dsimp only at hSw); go_simp
                simp only [Act.put, List.getElem_toArray, List.getElem_cons_zero, List.getElem_cons_succ, List.setIfInBounds_toArray, List.set_cons_zero, List.set_cons_succ]
                refine wpAnyH_ready (rs := [1, 15]) (by as_aux_lemma => kernel_rfl) (by simp) ?_
                refine AllReadyH.cons rfl (fun K hK => ?_) (AllReadyH.cons rfl (fun K hK => ?_) AllReadyH.nil)
                · skip
                  have k1 := cell_later hb4 dB
                  go_simp
                  refine hK.out _ _ (hS) (fun hS2 => ?_)
                  clear hK K hS
                  have hS := hS2
                  clear hS2
                  (try simp only [Act.put, List.getElem_toArray, List.getElem_cons_zero, List.getElem_cons_succ, List.setIfInBounds_toArray, List.set_cons_zero, List.set_cons_succ])
                  clear k1
                  refine wpAnyH_ready (rs := [15]) (by as_aux_lemma => kernel_rfl) (by simp) ?_
                  refine AllReadyH.cons rfl (fun K hK => ?_) AllReadyH.nil
                  rw [if_pos (by rfl)]
                  go_simp
                  obtain ⟨W5, hW⟩ : ∃ V, V = W4.alloc (.cells #[.slice a1 ss.length e1, .slice a2 az.length e2] 91) := ⟨_, rfl⟩
                  rw [← hW]
                  have hb5 : Below D.heap.size D W5 := by rw [hW]; exact hb4.alloc hb4.size _
                  have hg5 : W4.grownBy W5 none := by rw [hW]; exact World.grownBy_alloc _ _ none
                  have oI5 := oI4.kept hg5 (fun _ _ e => nomatch e)
                  have oA5 := oA4.kept hg5 (fun _ _ e => nomatch e)
                  have hnw : Blk W5 W4.heap.size #[.slice a1 ss.length e1, .slice a2 az.length e2] 91 := by rw [hW]; exact Blk.new _ _ _
                  clear hW
                  refine hK.out _ _ (⟨cell_later hb5 d0, cell_later hb5 d1, _, cell_later hb5 dB⟩) (fun hS2 => ?_)
                  clear hK K hS
                  have hS := hS2
                  clear hS2
                  (try simp only [Act.put, List.getElem_toArray, List.getElem_cons_zero, List.getElem_cons_succ, List.setIfInBounds_toArray, List.set_cons_zero, List.set_cons_succ])
                  refine wpAnyH_ready (rs := [16]) (by as_aux_lemma => kernel_rfl) (by simp) ?_
                  refine AllReadyH.cons rfl (fun K hK => ?_) AllReadyH.nil
                  rw [if_pos (by rfl)]
                  have hrw := RowN.below (tabOk false) HROW.out hb5
                  obtain ⟨us, hus⟩ : ∃ us : List Su, W5.ownsRow lo 91 2 (.slice va k cva) k (us.flatMap suE) := by obtain ⟨us, q1, -⟩ := hrw; exact ⟨us, q1.1.2⟩
                  refine wp_appSt _ _ rfl lo _ k (us.flatMap suE) rfl hus W4.heap.size 1 (.slice a1 ss.length e1) (.slice a2 az.length e2) rfl rfl rfl (by simpa using hnw.cell 0) (by simpa using hnw.cell 1) (by omega) (by have := hb5.size; omega) ?_
                  intro y3 W6 ho3 hg6
                  have hsn := tab_snoc hrw oI5 oA5 hus ho3 hg6 hlD
                  obtain ⟨a3, e3, rfl, -, -⟩ := RowN.shape suE_len hsn
                  have bk := Blk.kept (Blk.of HBB.out hb5) hg6 (Blk.not_row (Blk.of HBB.out hb5) (by decide) hus)
                  have bx := Blk.kept (Blk.of HBX.out hb5) hg6 (Blk.not_row (Blk.of HBX.out hb5) (by decide) hus)
                  have br := Blk.kept (Blk.of HBR.out hb5) hg6 (Blk.not_row (Blk.of HBR.out hb5) (by decide) hus)
                  have hb6 : Below w.heap.size w W6 := (HBW.out.trans (hb5.mono HBW.out.size)).grown hg6 (by have := hb5.size; have := HBW.out.size; omega) (fun j hj => by have := (World.ownsRow.lt hus j hj).1; omega)
                  have x1 := bk.cell 1
                  have xf := bk.frozen 1
                  simp at x1
                  refine hK.out _ _ (⟨cell_later hb6 f0, cell_later hb6 f1, _, x1⟩) (fun hS2 => ?_)
                  clear hK K hS
                  have hS := hS2
                  clear hS2
                  (try simp only [Act.put, List.getElem_toArray, List.getElem_cons_zero, List.getElem_cons_succ, List.setIfInBounds_toArray, List.set_cons_zero, List.set_cons_succ])
                  refine wpAnyH_take (i := 17) (v := (.pointer (some ⟨B, 1, none⟩))) rfl (by as_aux_lemma => kernel_rfl) (by as_aux_lemma => kernel_rfl) (by as_aux_lemma => kernel_rfl) (fun _ _ _ h => nomatch h.1) (Or.inl ⟨by kernel_rfl, ?_⟩) hS ?_
                  · intro w hSw; (try dsimp only at hSw); go_simp
                  simp only [Act.put, List.getElem_toArray, List.getElem_cons_zero, List.getElem_cons_succ, List.setIfInBounds_toArray, List.set_cons_zero, List.set_cons_succ]
                  refine wpAnyH_ready (rs := [18]) (by as_aux_lemma => kernel_rfl) (by simp) ?_
                  refine AllReadyH.cons rfl (fun K hK => ?_) AllReadyH.nil
                  go_simp
                  have bk2 := bk.set (i := 1) (.slice a3 (k + 1) e3)
                  have hgs := set_grown W6 B 1 (.slice a3 (k + 1) e3)
                  have hbz := hb6.grown hgs hb6.size (fun j hj => by cases hj; omega)
                  have y1 := bk2.cell 1
                  simp at y1
                  refine hK.out _ _ (⟨cell_later hbz f0, cell_later hbz f1, _, y1⟩) (fun hS2 => ?_)
                  clear hK K hS
                  have hS := hS2
                  clear hS2
                  (try simp only [Act.put, List.getElem_toArray, List.getElem_cons_zero, List.getElem_cons_succ, List.setIfInBounds_toArray, List.set_cons_zero, List.set_cons_succ])
                  refine wpAnyH_done (by kernel_rfl) ?_ _
                  refine ⟨rfl, .slice (some ⟨D.heap.size, 0, none⟩) 0 0, .slice a1 ss.length e1, .slice (some ⟨W2.heap.size, 0, none⟩) 0 0, .slice a2 az.length e2, .agg #[.slice a1 ss.length e1, .slice a2 az.length e2], .slice (some ⟨W4.heap.size, 0, none⟩) 1 1, a3, e3, ?_, by simpa using bk2, Blk.kept bx hgs (by simp; omega), Blk.kept br hgs (by simp; omega), ?_, hbz⟩
                  · rfl
                  · rw [HTK.out]; exact RowN.mono (tabOk false) (RowN.chg (tabOk false) hsn (Chg.one hgs) (.inr (by omega))) (Nat.le_refl _) hgs.size
                · skip
                  rw [if_pos (by rfl)]
                  go_simp
                  obtain ⟨W5, hW⟩ : ∃ V, V = W4.alloc (.cells #[.slice a1 ss.length e1, .slice a2 az.length e2] 91) := ⟨_, rfl⟩
                  rw [← hW]
                  have hb5 : Below D.heap.size D W5 := by rw [hW]; exact hb4.alloc hb4.size _
                  have hg5 : W4.grownBy W5 none := by rw [hW]; exact World.grownBy_alloc _ _ none
                  have oI5 := oI4.kept hg5 (fun _ _ e => nomatch e)
                  have oA5 := oA4.kept hg5 (fun _ _ e => nomatch e)
                  have hnw : Blk W5 W4.heap.size #[.slice a1 ss.length e1, .slice a2 az.length e2] 91 := by rw [hW]; exact Blk.new _ _ _
                  clear hW
                  refine hK.out _ _ (⟨cell_later hb5 d0, cell_later hb5 d1, _, cell_later hb5 dB⟩) (fun hS2 => ?_)
                  clear hK K hS
                  have hS := hS2
                  clear hS2
                  (try simp only [Act.put, List.getElem_toArray, List.getElem_cons_zero, List.getElem_cons_succ, List.setIfInBounds_toArray, List.set_cons_zero, List.set_cons_succ])
                  refine wpAnyH_ready (rs := [1]) (by as_aux_lemma => kernel_rfl) (by simp) ?_
                  refine AllReadyH.cons rfl (fun K hK => ?_) AllReadyH.nil
                  have k1 := cell_later hb5 dB
                  go_simp
                  refine hK.out _ _ (hS) (fun hS2 => ?_)
                  clear hK K hS
                  have hS := hS2
                  clear hS2
                  (try simp only [Act.put, List.getElem_toArray, List.getElem_cons_zero, List.getElem_cons_succ, List.setIfInBounds_toArray, List.set_cons_zero, List.set_cons_succ])
                  clear k1
                  refine wpAnyH_ready (rs := [16]) (by as_aux_lemma => kernel_rfl) (by simp) ?_
                  refine AllReadyH.cons rfl (fun K hK => ?_) AllReadyH.nil
                  rw [if_pos (by rfl)]
                  have hrw := RowN.below (tabOk false) HROW.out hb5
                  obtain ⟨us, hus⟩ : ∃ us : List Su, W5.ownsRow lo 91 2 (.slice va k cva) k (us.flatMap suE) := by obtain ⟨us, q1, -⟩ := hrw; exact ⟨us, q1.1.2⟩
                  refine wp_appSt _ _ rfl lo _ k (us.flatMap suE) rfl hus W4.heap.size 1 (.slice a1 ss.length e1) (.slice a2 az.length e2) rfl rfl rfl (by simpa using hnw.cell 0) (by simpa using hnw.cell 1) (by omega) (by have := hb5.size; omega) ?_
                  intro y3 W6 ho3 hg6
                  have hsn := tab_snoc hrw oI5 oA5 hus ho3 hg6 hlD
                  obtain ⟨a3, e3, rfl, -, -⟩ := RowN.shape suE_len hsn
                  have bk := Blk.kept (Blk.of HBB.out hb5) hg6 (Blk.not_row (Blk.of HBB.out hb5) (by decide) hus)
                  have bx := Blk.kept (Blk.of HBX.out hb5) hg6 (Blk.not_row (Blk.of HBX.out hb5) (by decide) hus)
                  have br := Blk.kept (Blk.of HBR.out hb5) hg6 (Blk.not_row (Blk.of HBR.out hb5) (by decide) hus)
                  have hb6 : Below w.heap.size w W6 := (HBW.out.trans (hb5.mono HBW.out.size)).grown hg6 (by have := hb5.size; have := HBW.out.size; omega) (fun j hj => by have := (World.ownsRow.lt hus j hj).1; omega)
                  have x1 := bk.cell 1
                  have xf := bk.frozen 1
                  simp at x1
                  refine hK.out _ _ (⟨cell_later hb6 f0, cell_later hb6 f1, _, x1⟩) (fun hS2 => ?_)
                  clear hK K hS
                  have hS := hS2
                  clear hS2
                  (try simp only [Act.put, List.getElem_toArray, List.getElem_cons_zero, List.getElem_cons_succ, List.setIfInBounds_toArray, List.set_cons_zero, List.set_cons_succ])
                  refine wpAnyH_take (i := 17) (v := (.pointer (some ⟨B, 1, none⟩))) rfl (by as_aux_lemma => kernel_rfl) (by as_aux_lemma => kernel_rfl) (by as_aux_lemma => kernel_rfl) (fun _ _ _ h => nomatch h.1) (Or.inl ⟨by kernel_rfl, ?_⟩) hS ?_
                  · intro w hSw; (try dsimp only at hSw); go_simp
                  simp only [Act.put, List.getElem_toArray, List.getElem_cons_zero, List.getElem_cons_succ, List.setIfInBounds_toArray, List.set_cons_zero, List.set_cons_succ]
                  refine wpAnyH_ready (rs := [18]) (by as_aux_lemma => kernel_rfl) (by simp) ?_
                  refine AllReadyH.cons rfl (fun K hK => ?_) AllReadyH.nil
                  go_simp
                  have bk2 := bk.set (i := 1) (.slice a3 (k + 1) e3)
                  have hgs := set_grown W6 B 1 (.slice a3 (k + 1) e3)
                  have hbz := hb6.grown hgs hb6.size (fun j hj => by cases hj; omega)
                  have y1 := bk2.cell 1
                  simp at y1
                  refine hK.out _ _ (⟨cell_later hbz f0, cell_later hbz f1, _, y1⟩) (fun hS2 => ?_)
                  clear hK K hS
                  have hS := hS2
                  clear hS2
                  (try simp only [Act.put, List.getElem_toArray, List.getElem_cons_zero, List.getElem_cons_succ, List.setIfInBounds_toArray, List.set_cons_zero, List.set_cons_succ])
                  refine wpAnyH_done (by kernel_rfl) ?_ _
                  refine ⟨rfl, .slice (some ⟨D.heap.size, 0, none⟩) 0 0, .slice a1 ss.length e1, .slice (some ⟨W2.heap.size, 0, none⟩) 0 0, .slice a2 az.length e2, .agg #[.slice a1 ss.length e1, .slice a2 az.length e2], .slice (some ⟨W4.heap.size, 0, none⟩) 1 1, a3, e3, ?_, by simpa using bk2, Blk.kept bx hgs (by simp; omega), Blk.kept br hgs (by simp; omega), ?_, hbz⟩
                  · rfl
                  · rw [HTK.out]; exact RowN.mono (tabOk false) (RowN.chg (tabOk false) hsn (Chg.one hgs) (.inr (by omega))) (Nat.le_refl _) hgs.size
          · skip
            rw [if_pos (by rfl)]
            go_simp
            obtain ⟨W2, hW⟩ : ∃ V, V = W1.alloc (.cells #[] 99) := ⟨_, rfl⟩
            rw [← hW]
            have hb2 : Below D.heap.size D W2 := by rw [hW]; exact hb1.alloc hb1.size _
            have hg2 : W1.grownBy W2 none := by rw [hW]; exact World.grownBy_alloc _ _ none
            have oA2 : OwnR lineE 2 99 W2 D.heap.size (.slice (some ⟨W1.heap.size, 0, none⟩) 0 0) 0 [] := by rw [hW]; exact ⟨rfl, World.ownsRow_lit W1 #[] _ hb1.size (by unfold maxLen; omega) rfl⟩
            have oI2 := oI1.kept hg2 (fun _ _ e => nomatch e)
            clear hW
            refine hK.out _ _ (⟨cell_later hb2 d0, cell_later hb2 d1, _, cell_later hb2 dB⟩) (fun hS2 => ?_)
            clear hK K hS
            have hS := hS2
            clear hS2
            (try simp only [Act.put, List.getElem_toArray, List.getElem_cons_zero, List.getElem_cons_succ, List.setIfInBounds_toArray, List.set_cons_zero, List.set_cons_succ])
            refine wpAnyH_ready (rs := [1, 7]) (by as_aux_lemma => kernel_rfl) (by simp) ?_
            refine AllReadyH.cons rfl (fun K hK => ?_) (AllReadyH.cons rfl (fun K hK => ?_) AllReadyH.nil)
            · skip
              have k1 := cell_later hb2 dB
              go_simp
              refine hK.out _ _ (hS) (fun hS2 => ?_)
              clear hK K hS
              have hS := hS2
              clear hS2
              (try simp only [Act.put, List.getElem_toArray, List.getElem_cons_zero, List.getElem_cons_succ, List.setIfInBounds_toArray, List.set_cons_zero, List.set_cons_succ])
              clear k1
              refine wpAnyH_ready (rs := [7]) (by as_aux_lemma => kernel_rfl) (by simp) ?_
              refine AllReadyH.cons rfl (fun K hK => ?_) AllReadyH.nil
              rw [if_pos (by rfl)]
              refine wp_append_rd _ _ 83 rfl .i64 D.heap.size 2 iI 8 Tryz.underlying83 hI hI0 hI1 hI2 _ 0 [] rfl oI2 p ss.length cp ss rfl (hrp.below hb2) (by unfold maxLen; omega) (by omega) hb2.size ?_
              intro y1 W3 oI3 hg3
              rw [Nat.zero_add, List.nil_append] at oI3
              obtain ⟨a1, e1, rfl, -, -⟩ := (RowI.of oI3).shape
              have hb3 := hb2.grown hg3 hb2.size (fun j hj => (oI2.lt j hj).1)
              have oA3 := oA2.kept hg3 (fun j hj => own_ne oI2 oA2.2 (by decide) j hj)
              refine hK.out _ _ (⟨cell_later hb3 d0, cell_later hb3 d1, _, cell_later hb3 dB⟩) (fun hS2 => ?_)
              clear hK K hS
              have hS := hS2
              clear hS2
              (try simp only [Act.put, List.getElem_toArray, List.getElem_cons_zero, List.getElem_cons_succ, List.setIfInBounds_toArray, List.set_cons_zero, List.set_cons_succ])
              refine wpAnyH_ready (rs := [13]) (by as_aux_lemma => kernel_rfl) (by simp) ?_
              refine AllReadyH.cons rfl (fun K hK => ?_) AllReadyH.nil
              rw [if_pos (by rfl)]
              refine wp_appArcs _ _ rfl D.heap.size _ 0 [] rfl oA3 q az.length cq az rfl (hrq.below hb3) (by omega) hb3.size ?_
              intro y2 W4 oA4 hg4
              rw [Nat.zero_add, List.nil_append] at oA4
              obtain ⟨a2, e2, rfl, -, -⟩ := (RowS.of oA4).shape lineE_len
              have hb4 := hb3.grown hg4 hb3.size (fun j hj => (oA3.lt j hj).1)
              have oI4 := oI3.kept hg4 (fun j hj => own_ne oA3.2 oI3 (by decide) j hj)
              refine hK.out _ _ (⟨cell_later hb4 d0, cell_later hb4 d1, _, cell_later hb4 dB⟩) (fun hS2 => ?_)
              clear hK K hS
              have hS := hS2
              clear hS2
              (try simp only [Act.put, List.getElem_toArray, List.getElem_cons_zero, List.getElem_cons_succ, List.setIfInBounds_toArray, List.set_cons_zero, List.set_cons_succ])
              refine wpAnyH_take (i := 14) (v := (.agg #[.slice a1 ss.length e1, .slice a2 az.length e2])) rfl (by as_aux_lemma => kernel_rfl) (by as_aux_lemma => kernel_rfl) (by as_aux_lemma => kernel_rfl) (fun _ _ _ h => nomatch h.1) (Or.inl ⟨by kernel_rfl, ?_⟩) hS ?_
              · intro w hSw; (try dsimp only at hSw); go_simp
              simp only [Act.put, List.getElem_toArray, List.getElem_cons_zero, List.getElem_cons_succ, List.setIfInBounds_toArray, List.set_cons_zero, List.set_cons_succ]
              refine wpAnyH_ready (rs := [15]) (by as_aux_lemma => kernel_rfl) (by simp) ?_
              refine AllReadyH.cons rfl (fun K hK => ?_) AllReadyH.nil
              rw [if_pos (by rfl)]
              go_simp
              obtain ⟨W5, hW⟩ : ∃ V, V = W4.alloc (.cells #[.slice a1 ss.length e1, .slice a2 az.length e2] 91) := ⟨_, rfl⟩
              rw [← hW]
              have hb5 : Below D.heap.size D W5 := by rw [hW]; exact hb4.alloc hb4.size _
              have hg5 : W4.grownBy W5 none := by rw [hW]; exact World.grownBy_alloc _ _ none
              have oI5 := oI4.kept hg5 (fun _ _ e => nomatch e)
              have oA5 := oA4.kept hg5 (fun _ _ e => nomatch e)
              have hnw : Blk W5 W4.heap.size #[.slice a1 ss.length e1, .slice a2 az.length e2] 91 := by rw [hW]; exact Blk.new _ _ _
              clear hW
              refine hK.out _ _ (⟨cell_later hb5 d0, cell_later hb5 d1, _, cell_later hb5 dB⟩) (fun hS2 => ?_)
              clear hK K hS
              have hS := hS2
              clear hS2
              (try simp only [Act.put, List.getElem_toArray, List.getElem_cons_zero, List.getElem_cons_succ, List.setIfInBounds_toArray, List.set_cons_zero, List.set_cons_succ])
              refine wpAnyH_ready (rs := [16]) (by as_aux_lemma => kernel_rfl) (by simp) ?_
              refine AllReadyH.cons rfl (fun K hK => ?_) AllReadyH.nil
              rw [if_pos (by rfl)]
              have hrw := RowN.below (tabOk false) HROW.out hb5
              obtain ⟨us, hus⟩ : ∃ us : List Su, W5.ownsRow lo 91 2 (.slice va k cva) k (us.flatMap suE) := by obtain ⟨us, q1, -⟩ := hrw; exact ⟨us, q1.1.2⟩
              refine wp_appSt _ _ rfl lo _ k (us.flatMap suE) rfl hus W4.heap.size 1 (.slice a1 ss.length e1) (.slice a2 az.length e2) rfl rfl rfl (by simpa using hnw.cell 0) (by simpa using hnw.cell 1) (by omega) (by have := hb5.size; omega) ?_
              intro y3 W6 ho3 hg6
              have hsn := tab_snoc hrw oI5 oA5 hus ho3 hg6 hlD
              obtain ⟨a3, e3, rfl, -, -⟩ := RowN.shape suE_len hsn
              have bk := Blk.kept (Blk.of HBB.out hb5) hg6 (Blk.not_row (Blk.of HBB.out hb5) (by decide) hus)
              have bx := Blk.kept (Blk.of HBX.out hb5) hg6 (Blk.not_row (Blk.of HBX.out hb5) (by decide) hus)
              have br := Blk.kept (Blk.of HBR.out hb5) hg6 (Blk.not_row (Blk.of HBR.out hb5) (by decide) hus)
              have hb6 : Below w.heap.size w W6 := (HBW.out.trans (hb5.mono HBW.out.size)).grown hg6 (by have := hb5.size; have := HBW.out.size; omega) (fun j hj => by have := (World.ownsRow.lt hus j hj).1; omega)
              have x1 := bk.cell 1
              have xf := bk.frozen 1
              simp at x1
              refine hK.out _ _ (⟨cell_later hb6 f0, cell_later hb6 f1, _, x1⟩) (fun hS2 => ?_)
              clear hK K hS
              have hS := hS2
              clear hS2
              (try simp only [Act.put, List.getElem_toArray, List.getElem_cons_zero, List.getElem_cons_succ, List.setIfInBounds_toArray, List.set_cons_zero, List.set_cons_succ])
              refine wpAnyH_take (i := 17) (v := (.pointer (some ⟨B, 1, none⟩))) rfl (by as_aux_lemma => kernel_rfl) (by as_aux_lemma => kernel_rfl) (by as_aux_lemma => kernel_rfl) (fun _ _ _ h => nomatch h.1) (Or.inl ⟨by kernel_rfl, ?_⟩) hS ?_
              · intro w hSw; (try dsimp only at hSw); go_simp
              simp only [Act.put, List.getElem_toArray, List.getElem_cons_zero, List.getElem_cons_succ, List.setIfInBounds_toArray, List.set_cons_zero, List.set_cons_succ]
              refine wpAnyH_ready (rs := [18]) (by as_aux_lemma => kernel_rfl) (by simp) ?_
              refine AllReadyH.cons rfl (fun K hK => ?_) AllReadyH.nil
              go_simp
              have bk2 := bk.set (i := 1) (.slice a3 (k + 1) e3)
              have hgs := set_grown W6 B 1 (.slice a3 (k + 1) e3)
              have hbz := hb6.grown hgs hb6.size (fun j hj => by cases hj; omega)
              have y1 := bk2.cell 1
              simp at y1
              refine hK.out _ _ (⟨cell_later hbz f0, cell_later hbz f1, _, y1⟩) (fun hS2 => ?_)
              clear hK K hS
              have hS := hS2
              clear hS2
              (try simp only [Act.put, List.getElem_toArray, List.getElem_cons_zero, List.getElem_cons_succ, List.setIfInBounds_toArray, List.set_cons_zero, List.set_cons_succ])
              refine wpAnyH_done (by kernel_rfl) ?_ _
              refine ⟨rfl, .slice (some ⟨D.heap.size, 0, none⟩) 0 0, .slice a1 ss.length e1, .slice (some ⟨W1.heap.size, 0, none⟩) 0 0, .slice a2 az.length e2, .agg #[.slice a1 ss.length e1, .slice a2 az.length e2], .slice (some ⟨W4.heap.size, 0, none⟩) 1 1, a3, e3, ?_, by simpa using bk2, Blk.kept bx hgs (by simp; omega), Blk.kept br hgs (by simp; omega), ?_, hbz⟩
              · rfl
              · rw [HTK.out]; exact RowN.mono (tabOk false) (RowN.chg (tabOk false) hsn (Chg.one hgs) (.inr (by omega))) (Nat.le_refl _) hgs.size
            · skip
              rw [if_pos (by rfl)]
              refine wp_append_rd _ _ 83 rfl .i64 D.heap.size 2 iI 8 Tryz.underlying83 hI hI0 hI1 hI2 _ 0 [] rfl oI2 p ss.length cp ss rfl (hrp.below hb2) (by unfold maxLen; omega) (by omega) hb2.size ?_
              intro y1 W3 oI3 hg3
              rw [Nat.zero_add, List.nil_append] at oI3
              obtain ⟨a1, e1, rfl, -, -⟩ := (RowI.of oI3).shape
              have hb3 := hb2.grown hg3 hb2.size (fun j hj => (oI2.lt j hj).1)
              have oA3 := oA2.kept hg3 (fun j hj => own_ne oI2 oA2.2 (by decide) j hj)
              refine hK.out _ _ (⟨cell_later hb3 d0, cell_later hb3 d1, _, cell_later hb3 dB⟩) (fun hS2 => ?_)
              clear hK K hS
              have hS := hS2
              clear hS2
              (try simp only [Act.put, List.getElem_toArray, List.getElem_cons_zero, List.getElem_cons_succ, List.setIfInBounds_toArray, List.set_cons_zero, List.set_cons_succ])
              refine wpAnyH_ready (rs := [1, 13]) (by as_aux_lemma => kernel_rfl) (by simp) ?_
              refine AllReadyH.cons rfl (fun K hK => ?_) (AllReadyH.cons rfl (fun K hK => ?_) AllReadyH.nil)
              · skip
                have k1 := cell_later hb3 dB
                go_simp
                refine hK.out _ _ (hS) (fun hS2 => ?_)
                clear hK K hS
                have hS := hS2
                clear hS2
                (try simp only [Act.put, List.getElem_toArray, List.getElem_cons_zero, List.getElem_cons_succ, List.setIfInBounds_toArray, List.set_cons_zero, List.set_cons_succ])
                clear k1
                refine wpAnyH_ready (rs := [13]) (by as_aux_lemma => kernel_rfl) (by simp) ?_
                refine AllReadyH.cons rfl (fun K hK => ?_) AllReadyH.nil
                rw [if_pos (by rfl)]
                refine wp_appArcs _ _ rfl D.heap.size _ 0 [] rfl oA3 q az.length cq az rfl (hrq.below hb3) (by omega) hb3.size ?_
                intro y2 W4 oA4 hg4
                rw [Nat.zero_add, List.nil_append] at oA4
                obtain ⟨a2, e2, rfl, -, -⟩ := (RowS.of oA4).shape lineE_len
                have hb4 := hb3.grown hg4 hb3.size (fun j hj => (oA3.lt j hj).1)
                have oI4 := oI3.kept hg4 (fun j hj => own_ne oA3.2 oI3 (by decide) j hj)
                refine hK.out _ _ (⟨cell_later hb4 d0, cell_later hb4 d1, _, cell_later hb4 dB⟩) (fun hS2 => ?_)
                clear hK K hS
                have hS := hS2
                clear hS2
                (try simp only [Act.put, List.getElem_toArray, List.getElem_cons_zero, List.getElem_cons_succ, List.setIfInBounds_toArray, List.set_cons_zero, List.set_cons_succ])
                refine wpAnyH_take (i := 14) (v := (.agg #[.slice a1 ss.length e1, .slice a2 az.length e2])) rfl (by as_aux_lemma => kernel_rfl) (by as_aux_lemma => kernel_rfl) (by as_aux_lemma => kernel_rfl) (fun _ _ _ h => nomatch h.1) (Or.inl ⟨by kernel_rfl, ?_⟩) hS ?_
                · intro w hSw; (try dsimp only at hSw); go_simp
                simp only [Act.put, List.getElem_toArray, List.getElem_cons_zero, List.getElem_cons_succ, List.setIfInBounds_toArray, List.set_cons_zero, List.set_cons_succ]
                refine wpAnyH_ready (rs := [15]) (by as_aux_lemma => kernel_rfl) (by simp) ?_
                refine AllReadyH.cons rfl (fun K hK => ?_) AllReadyH.nil
                rw [if_pos (by rfl)]
                go_simp
                obtain ⟨W5, hW⟩ : ∃ V, V = W4.alloc (.cells #[.slice a1 ss.length e1, .slice a2 az.length e2] 91) := ⟨_, rfl⟩
                rw [← hW]
                have hb5 : Below D.heap.size D W5 := by rw [hW]; exact hb4.alloc hb4.size _
                have hg5 : W4.grownBy W5 none := by rw [hW]; exact World.grownBy_alloc _ _ none
                have oI5 := oI4.kept hg5 (fun _ _ e => nomatch e)
                have oA5 := oA4.kept hg5 (fun _ _ e => nomatch e)
                have hnw : Blk W5 W4.heap.size #[.slice a1 ss.length e1, .slice a2 az.length e2] 91 := by rw [hW]; exact Blk.new _ _ _
                clear hW
                refine hK.out _ _ (⟨cell_later hb5 d0, cell_later hb5 d1, _, cell_later hb5 dB⟩) (fun hS2 => ?_)
                clear hK K hS
                have hS := hS2
                clear hS2
                (try simp only [Act.put, List.getElem_toArray, List.getElem_cons_zero, List.getElem_cons_succ, List.setIfInBounds_toArray, List.set_cons_zero, List.set_cons_succ])
                refine wpAnyH_ready (rs := [16]) (by as_aux_lemma => kernel_rfl) (by simp) ?_
                refine AllReadyH.cons rfl (fun K hK => ?_) AllReadyH.nil
                rw [if_pos (by rfl)]
                have hrw := RowN.below (tabOk false) HROW.out hb5
                obtain ⟨us, hus⟩ : ∃ us : List Su, W5.ownsRow lo 91 2 (.slice va k cva) k (us.flatMap suE) := by obtain ⟨us, q1, -⟩ := hrw; exact ⟨us, q1.1.2⟩
                refine wp_appSt _ _ rfl lo _ k (us.flatMap suE) rfl hus W4.heap.size 1 (.slice a1 ss.length e1) (.slice a2 az.length e2) rfl rfl rfl (by simpa using hnw.cell 0) (by simpa using hnw.cell 1) (by omega) (by have := hb5.size; omega) ?_
                intro y3 W6 ho3 hg6
                have hsn := tab_snoc hrw oI5 oA5 hus ho3 hg6 hlD
                obtain ⟨a3, e3, rfl, -, -⟩ := RowN.shape suE_len hsn
                have bk := Blk.kept (Blk.of HBB.out hb5) hg6 (Blk.not_row (Blk.of HBB.out hb5) (by decide) hus)
                have bx := Blk.kept (Blk.of HBX.out hb5) hg6 (Blk.not_row (Blk.of HBX.out hb5) (by decide) hus)
                have br := Blk.kept (Blk.of HBR.out hb5) hg6 (Blk.not_row (Blk.of HBR.out hb5) (by decide) hus)
                have hb6 : Below w.heap.size w W6 := (HBW.out.trans (hb5.mono HBW.out.size)).grown hg6 (by have := hb5.size; have := HBW.out.size; omega) (fun j hj => by have := (World.ownsRow.lt hus j hj).1; omega)
                have x1 := bk.cell 1
                have xf := bk.frozen 1
                simp at x1
                refine hK.out _ _ (⟨cell_later hb6 f0, cell_later hb6 f1, _, x1⟩) (fun hS2 => ?_)
                clear hK K hS
                have hS := hS2
                clear hS2
                (try simp only [Act.put, List.getElem_toArray, List.getElem_cons_zero, List.getElem_cons_succ, List.setIfInBounds_toArray, List.set_cons_zero, List.set_cons_succ])
                refine wpAnyH_take (i := 17) (v := (.pointer (some ⟨B, 1, none⟩))) rfl (by as_aux_lemma => kernel_rfl) (by as_aux_lemma => kernel_rfl) (by as_aux_lemma => kernel_rfl) (fun _ _ _ h => nomatch h.1) (Or.inl ⟨by kernel_rfl, ?_⟩) hS ?_
                · intro w hSw; (try dsimp only at hSw); go_simp
                simp only [Act.put, List.getElem_toArray, List.getElem_cons_zero, List.getElem_cons_succ, List.setIfInBounds_toArray, List.set_cons_zero, List.set_cons_succ]
                refine wpAnyH_ready (rs := [18]) (by as_aux_lemma => kernel_rfl) (by simp) ?_
                refine AllReadyH.cons rfl (fun K hK => ?_) AllReadyH.nil
                go_simp
                have bk2 := bk.set (i := 1) (.slice a3 (k + 1) e3)
                have hgs := set_grown W6 B 1 (.slice a3 (k + 1) e3)
                have hbz := hb6.grown hgs hb6.size (fun j hj => by cases hj; omega)
                have y1 := bk2.cell 1
                simp at y1
                refine hK.out _ _ (⟨cell_later hbz f0, cell_later hbz f1, _, y1⟩) (fun hS2 => ?_)
                clear hK K hS
                have hS := hS2
                clear hS2
                (try simp only [Act.put, List.getElem_toArray, List.getElem_cons_zero, List.getElem_cons_succ, List.setIfInBounds_toArray, List.set_cons_zero, List.set_cons_succ])
                refine wpAnyH_done (by kernel_rfl) ?_ _
                refine ⟨rfl, .slice (some ⟨D.heap.size, 0, none⟩) 0 0, .slice a1 ss.length e1, .slice (some ⟨W1.heap.size, 0, none⟩) 0 0, .slice a2 az.length e2, .agg #[.slice a1 ss.length e1, .slice a2 az.length e2], .slice (some ⟨W4.heap.size, 0, none⟩) 1 1, a3, e3, ?_, by simpa using bk2, Blk.kept bx hgs (by simp; omega), Blk.kept br hgs (by simp; omega), ?_, hbz⟩
                · rfl
                · rw [HTK.out]; exact RowN.mono (tabOk false) (RowN.chg (tabOk false) hsn (Chg.one hgs) (.inr (by omega))) (Nat.le_refl _) hgs.size
              · skip
                rw [if_pos (by rfl)]
                refine wp_appArcs _ _ rfl D.heap.size _ 0 [] rfl oA3 q az.length cq az rfl (hrq.below hb3) (by omega) hb3.size ?_
                intro y2 W4 oA4 hg4
                rw [Nat.zero_add, List.nil_append] at oA4
                obtain ⟨a2, e2, rfl, -, -⟩ := (RowS.of oA4).shape lineE_len
                have hb4 := hb3.grown hg4 hb3.size (fun j hj => (oA3.lt j hj).1)
                have oI4 := oI3.kept hg4 (fun j hj => own_ne oA3.2 oI3 (by decide) j hj)
                refine hK.out _ _ (⟨cell_later hb4 d0, cell_later hb4 d1, _, cell_later hb4 dB⟩) (fun hS2 => ?_)
                clear hK K hS
                have hS := hS2
                clear hS2
                (try simp only [Act.put, List.getElem_toArray, List.getElem_cons_zero, List.getElem_cons_succ, List.setIfInBounds_toArray, List.set_cons_zero, List.set_cons_succ])
                refine wpAnyH_take (i := 14) (v := (.agg #[.slice a1 ss.length e1, .slice a2 az.length e2])) rfl (by as_aux_lemma => kernel_rfl) (by as_aux_lemma => kernel_rfl) (by as_aux_lemma => kernel_rfl) (fun _ _ _ h => nomatch h.1) (Or.inl ⟨by kernel_rfl, ?_⟩) hS ?_
                · intro w hSw; (try dsimp only at hSw); go_simp
                simp only [Act.put, List.getElem_toArray, List.getElem_cons_zero, List.getElem_cons_succ, List.setIfInBounds_toArray, List.set_cons_zero, List.set_cons_succ]
                refine wpAnyH_ready (rs := [1, 15]) (by as_aux_lemma => kernel_rfl) (by simp) ?_
                refine AllReadyH.cons rfl (fun K hK => ?_) (AllReadyH.cons rfl (fun K hK => ?_) AllReadyH.nil)
                · skip
                  have k1 := cell_later hb4 dB
                  go_simp
                  refine hK.out _ _ (hS) (fun hS2 => ?_)
                  clear hK K hS
                  have hS := hS2
                  clear hS2
                  (try simp only [Act.put, List.getElem_toArray, List.getElem_cons_zero, List.getElem_cons_succ, List.setIfInBounds_toArray, List.set_cons_zero, List.set_cons_succ])
                  clear k1
                  refine wpAnyH_ready (rs := [15]) (by as_aux_lemma => kernel_rfl) (by simp) ?_
                  refine AllReadyH.cons rfl (fun K hK => ?_) AllReadyH.nil
                  rw [if_pos (by rfl)]
                  go_simp
                  obtain ⟨W5, hW⟩ : ∃ V, V = W4.alloc (.cells #[.slice a1 ss.length e1, .slice a2 az.length e2] 91) := ⟨_, rfl⟩
                  rw [← hW]
                  have hb5 : Below D.heap.size D W5 := by rw [hW]; exact hb4.alloc hb4.size _
                  have hg5 : W4.grownBy W5 none := by rw [hW]; exact World.grownBy_alloc _ _ none
                  have oI5 := oI4.kept hg5 (fun _ _ e => nomatch e)
                  have oA5 := oA4.kept hg5 (fun _ _ e => nomatch e)
                  have hnw : Blk W5 W4.heap.size #[.slice a1 ss.length e1, .slice a2 az.length e2] 91 := by rw [hW]; exact Blk.new _ _ _
                  clear hW
                  refine hK.out _ _ (⟨cell_later hb5 d0, cell_later hb5 d1, _, cell_later hb5 dB⟩) (fun hS2 => ?_)
                  clear hK K hS
                  have hS := hS2
                  clear hS2
                  (try simp only [Act.put, List.getElem_toArray, List.getElem_cons_zero, List.getElem_cons_succ, List.setIfInBounds_toArray, List.set_cons_zero, List.set_cons_succ])
                  refine wpAnyH_ready (rs := [16]) (by as_aux_lemma => kernel_rfl) (by simp) ?_
                  refine AllReadyH.cons rfl (fun K hK => ?_) AllReadyH.nil
                  rw [if_pos (by rfl)]
                  have hrw := RowN.below (tabOk false) HROW.out hb5
                  obtain ⟨us, hus⟩ : ∃ us : List Su, W5.ownsRow lo 91 2 (.slice va k cva) k (us.flatMap suE) := by obtain ⟨us, q1, -⟩ := hrw; exact ⟨us, q1.1.2⟩
                  refine wp_appSt _ _ rfl lo _ k (us.flatMap suE) rfl hus W4.heap.size 1 (.slice a1 ss.length e1) (.slice a2 az.length e2) rfl rfl rfl (by simpa using hnw.cell 0) (by simpa using hnw.cell 1) (by omega) (by have := hb5.size; omega) ?_
                  intro y3 W6 ho3 hg6
                  have hsn := tab_snoc hrw oI5 oA5 hus ho3 hg6 hlD
                  obtain ⟨a3, e3, rfl, -, -⟩ := RowN.shape suE_len hsn
                  have bk := Blk.kept (Blk.of HBB.out hb5) hg6 (Blk.not_row (Blk.of HBB.out hb5) (by decide) hus)
                  have bx := Blk.kept (Blk.of HBX.out hb5) hg6 (Blk.not_row (Blk.of HBX.out hb5) (by decide) hus)
                  have br := Blk.kept (Blk.of HBR.out hb5) hg6 (Blk.not_row (Blk.of HBR.out hb5) (by decide) hus)
                  have hb6 : Below w.heap.size w W6 := (HBW.out.trans (hb5.mono HBW.out.size)).grown hg6 (by have := hb5.size; have := HBW.out.size; omega) (fun j hj => by have := (World.ownsRow.lt hus j hj).1; omega)
                  have x1 := bk.cell 1
                  have xf := bk.frozen 1
                  simp at x1
                  refine hK.out _ _ (⟨cell_later hb6 f0, cell_later hb6 f1, _, x1⟩) (fun hS2 => ?_)
                  clear hK K hS
                  have hS := hS2
                  clear hS2
                  (try simp only [Act.put, List.getElem_toArray, List.getElem_cons_zero, List.getElem_cons_succ, List.setIfInBounds_toArray, List.set_cons_zero, List.set_cons_succ])
                  refine wpAnyH_take (i := 17) (v := (.pointer (some ⟨B, 1, none⟩))) rfl (by as_aux_lemma => kernel_rfl) (by as_aux_lemma => kernel_rfl) (by as_aux_lemma => kernel_rfl) (fun _ _ _ h => nomatch h.1) (Or.inl ⟨by kernel_rfl, ?_⟩) hS ?_
                  · intro w hSw; (try dsimp only at hSw); go_simp
                  simp only [Act.put, List.getElem_toArray, List.getElem_cons_zero, List.getElem_cons_succ, List.setIfInBounds_toArray, List.set_cons_zero, List.set_cons_succ]
                  refine wpAnyH_ready (rs := [18]) (by as_aux_lemma => kernel_rfl) (by simp) ?_
                  refine AllReadyH.cons rfl (fun K hK => ?_) AllReadyH.nil
                  go_simp
                  have bk2 := bk.set (i := 1) (.slice a3 (k + 1) e3)
                  have hgs := set_grown W6 B 1 (.slice a3 (k + 1) e3)
                  have hbz := hb6.grown hgs hb6.size (fun j hj => by cases hj; omega)
                  have y1 := bk2.cell 1
                  simp at y1
                  refine hK.out _ _ (⟨cell_later hbz f0, cell_later hbz f1, _, y1⟩) (fun hS2 => ?_)
                  clear hK K hS
                  have hS := hS2
                  clear hS2
                  (try simp only [Act.put, List.getElem_toArray, List.getElem_cons_zero, List.getElem_cons_succ, List.setIfInBounds_toArray, List.set_cons_zero, List.set_cons_succ])
                  refine wpAnyH_done (by kernel_rfl) ?_ _
                  refine ⟨rfl, .slice (some ⟨D.heap.size, 0, none⟩) 0 0, .slice a1 ss.length e1, .slice (some ⟨W1.heap.size, 0, none⟩) 0 0, .slice a2 az.length e2, .agg #[.slice a1 ss.length e1, .slice a2 az.length e2], .slice (some ⟨W4.heap.size, 0, none⟩) 1 1, a3, e3, ?_, by simpa using bk2, Blk.kept bx hgs (by simp; omega), Blk.kept br hgs (by simp; omega), ?_, hbz⟩
                  · rfl
                  · rw [HTK.out]; exact RowN.mono (tabOk false) (RowN.chg (tabOk false) hsn (Chg.one hgs) (.inr (by omega))) (Nat.le_refl _) hgs.size
                · skip
                  rw [if_pos (by rfl)]
                  go_simp
                  obtain ⟨W5, hW⟩ : ∃ V, V = W4.alloc (.cells #[.slice a1 ss.length e1, .slice a2 az.length e2] 91) := ⟨_, rfl⟩
                  rw [← hW]
                  have hb5 : Below D.heap.size D W5 := by rw [hW]; exact hb4.alloc hb4.size _
                  have hg5 : W4.grownBy W5 none := by rw [hW]; exact World.grownBy_alloc _ _ none
                  have oI5 := oI4.kept hg5 (fun _ _ e => nomatch e)
                  have oA5 := oA4.kept hg5 (fun _ _ e => nomatch e)
                  have hnw : Blk W5 W4.heap.size #[.slice a1 ss.length e1, .slice a2 az.length e2] 91 := by rw [hW]; exact Blk.new _ _ _
                  clear hW
                  refine hK.out _ _ (⟨cell_later hb5 d0, cell_later hb5 d1, _, cell_later hb5 dB⟩) (fun hS2 => ?_)
                  clear hK K hS
                  have hS := hS2
                  clear hS2
                  (try simp only [Act.put, List.getElem_toArray, List.getElem_cons_zero, List.getElem_cons_succ, List.setIfInBounds_toArray, List.set_cons_zero, List.set_cons_succ])
                  refine wpAnyH_ready (rs := [1]) (by as_aux_lemma => kernel_rfl) (by simp) ?_
                  refine AllReadyH.cons rfl (fun K hK => ?_) AllReadyH.nil
                  have k1 := cell_later hb5 dB
                  go_simp
                  refine hK.out _ _ (hS) (fun hS2 => ?_)
                  clear hK K hS
                  have hS := hS2
                  clear hS2
                  (try simp only [Act.put, List.getElem_toArray, List.getElem_cons_zero, List.getElem_cons_succ, List.setIfInBounds_toArray, List.set_cons_zero, List.set_cons_succ])
                  clear k1
                  refine wpAnyH_ready (rs := [16]) (by as_aux_lemma => kernel_rfl) (by simp) ?_
                  refine AllReadyH.cons rfl (fun K hK => ?_) AllReadyH.nil
                  rw [if_pos (by rfl)]
                  have hrw := RowN.below (tabOk false) HROW.out hb5
                  obtain ⟨us, hus⟩ : ∃ us : List Su, W5.ownsRow lo 91 2 (.slice va k cva) k (us.flatMap suE) := by obtain ⟨us, q1, -⟩ := hrw; exact ⟨us, q1.1.2⟩
                  refine wp_appSt _ _ rfl lo _ k (us.flatMap suE) rfl hus W4.heap.size 1 (.slice a1 ss.length e1) (.slice a2 az.length e2) rfl rfl rfl (by simpa using hnw.cell 0) (by simpa using hnw.cell 1) (by omega) (by have := hb5.size; omega) ?_
                  intro y3 W6 ho3 hg6
                  have hsn := tab_snoc hrw oI5 oA5 hus ho3 hg6 hlD
                  obtain ⟨a3, e3, rfl, -, -⟩ := RowN.shape suE_len hsn
                  have bk := Blk.kept (Blk.of HBB.out hb5) hg6 (Blk.not_row (Blk.of HBB.out hb5) (by decide) hus)
                  have bx := Blk.kept (Blk.of HBX.out hb5) hg6 (Blk.not_row (Blk.of HBX.out hb5) (by decide) hus)
                  have br := Blk.kept (Blk.of HBR.out hb5) hg6 (Blk.not_row (Blk.of HBR.out hb5) (by decide) hus)
                  have hb6 : Below w.heap.size w W6 := (HBW.out.trans (hb5.mono HBW.out.size)).grown hg6 (by have := hb5.size; have := HBW.out.size; omega) (fun j hj => by have := (World.ownsRow.lt hus j hj).1; omega)
                  have x1 := bk.cell 1
                  have xf := bk.frozen 1
                  simp at x1
                  refine hK.out _ _ (⟨cell_later hb6 f0, cell_later hb6 f1, _, x1⟩) (fun hS2 => ?_)
                  clear hK K hS
                  have hS := hS2
                  clear hS2
                  (try simp only [Act.put, List.getElem_toArray, List.getElem_cons_zero, List.getElem_cons_succ, List.setIfInBounds_toArray, List.set_cons_zero, List.set_cons_succ])
                  refine wpAnyH_take (i := 17) (v := (.pointer (some ⟨B, 1, none⟩))) rfl (by as_aux_lemma => kernel_rfl) (by as_aux_lemma => kernel_rfl) (by as_aux_lemma => kernel_rfl) (fun _ _ _ h => nomatch h.1) (Or.inl ⟨by kernel_rfl, ?_⟩) hS ?_
                  · intro w hSw; (try dsimp only at hSw); go_simp
                  simp only [Act.put, List.getElem_toArray, List.getElem_cons_zero, List.getElem_cons_succ, List.setIfInBounds_toArray, List.set_cons_zero, List.set_cons_succ]
                  refine wpAnyH_ready (rs := [18]) (by as_aux_lemma => kernel_rfl) (by simp) ?_
                  refine AllReadyH.cons rfl (fun K hK => ?_) AllReadyH.nil
                  go_simp
                  have bk2 := bk.set (i := 1) (.slice a3 (k + 1) e3)
                  have hgs := set_grown W6 B 1 (.slice a3 (k + 1) e3)
                  have hbz := hb6.grown hgs hb6.size (fun j hj => by cases hj; omega)
                  have y1 := bk2.cell 1
                  simp at y1
                  refine hK.out _ _ (⟨cell_later hbz f0, cell_later hbz f1, _, y1⟩) (fun hS2 => ?_)
                  clear hK K hS
                  have hS := hS2
                  clear hS2
                  (try simp only [Act.put, List.getElem_toArray, List.getElem_cons_zero, List.getElem_cons_succ, List.setIfInBounds_toArray, List.set_cons_zero, List.set_cons_succ])
                  refine wpAnyH_done (by kernel_rfl) ?_ _
                  refine ⟨rfl, .slice (some ⟨D.heap.size, 0, none⟩) 0 0, .slice a1 ss.length e1, .slice (some ⟨W1.heap.size, 0, none⟩) 0 0, .slice a2 az.length e2, .agg #[.slice a1 ss.length e1, .slice a2 az.length e2], .slice (some ⟨W4.heap.size, 0, none⟩) 1 1, a3, e3, ?_, by simpa using bk2, Blk.kept bx hgs (by simp; omega), Blk.kept br hgs (by simp; omega), ?_, hbz⟩
                  · rfl
                  · rw [HTK.out]; exact RowN.mono (tabOk false) (RowN.chg (tabOk false) hsn (Chg.one hgs) (.inr (by omega))) (Nat.le_refl _) hgs.size
        · skip
          rw [if_pos (by rfl)]
          go_simp
          obtain ⟨W1, hW⟩ : ∃ V, V = D.alloc (.cells #[] 99) := ⟨_, rfl⟩
          rw [← hW]
          have hb1 : Below D.heap.size D W1 := by rw [hW]; exact hb0.alloc hb0.size _
          have hg1 : D.grownBy W1 none := by rw [hW]; exact World.grownBy_alloc _ _ none
          have oA1 : OwnR lineE 2 99 W1 D.heap.size (.slice (some ⟨D.heap.size, 0, none⟩) 0 0) 0 [] := by rw [hW]; exact ⟨rfl, World.ownsRow_lit D #[] _ hb0.size (by unfold maxLen; omega) rfl⟩
          clear hW
          refine hK.out _ _ (⟨cell_later hb1 d0, cell_later hb1 d1, _, cell_later hb1 dB⟩) (fun hS2 => ?_)
          clear hK K hS
          have hS := hS2
          clear hS2
          (try simp only [Act.put, List.getElem_toArray, List.getElem_cons_zero, List.getElem_cons_succ, List.setIfInBounds_toArray, List.set_cons_zero, List.set_cons_succ])
          refine wpAnyH_ready (rs := [1, 2]) (by as_aux_lemma => kernel_rfl) (by simp) ?_
          refine AllReadyH.cons rfl (fun K hK => ?_) (AllReadyH.cons rfl (fun K hK => ?_) AllReadyH.nil)
          · skip
            have k1 := cell_later hb1 dB
            go_simp
            refine hK.out _ _ (hS) (fun hS2 => ?_)
            clear hK K hS
            have hS := hS2
            clear hS2
            (try simp only [Act.put, List.getElem_toArray, List.getElem_cons_zero, List.getElem_cons_succ, List.setIfInBounds_toArray, List.set_cons_zero, List.set_cons_succ])
            clear k1
            refine wpAnyH_ready (rs := [2]) (by as_aux_lemma => kernel_rfl) (by simp) ?_
            refine AllReadyH.cons rfl (fun K hK => ?_) AllReadyH.nil
            rw [if_pos (by rfl)]
            go_simp
            obtain ⟨W2, hW⟩ : ∃ V, V = W1.alloc (.cells #[] 2) := ⟨_, rfl⟩
            rw [← hW]
            have hb2 : Below D.heap.size D W2 := by rw [hW]; exact hb1.alloc hb1.size _
            have hg2 : W1.grownBy W2 none := by rw [hW]; exact World.grownBy_alloc _ _ none
            have oI2 : Own .i64 2 W2 D.heap.size (.slice (some ⟨W1.heap.size, 0, none⟩) 0 0) 0 [] := by rw [hW]; exact own_lit W1 #[] 0 D.heap.size [] rfl rfl hb1.size (by unfold maxLen; omega)
            have oA2 := oA1.kept hg2 (fun _ _ e => nomatch e)
            clear hW
            refine hK.out _ _ (⟨cell_later hb2 d0, cell_later hb2 d1, _, cell_later hb2 dB⟩) (fun hS2 => ?_)
            clear hK K hS
            have hS := hS2
            clear hS2
            (try simp only [Act.put, List.getElem_toArray, List.getElem_cons_zero, List.getElem_cons_succ, List.setIfInBounds_toArray, List.set_cons_zero, List.set_cons_succ])
            refine wpAnyH_ready (rs := [7]) (by as_aux_lemma => kernel_rfl) (by simp) ?_
            refine AllReadyH.cons rfl (fun K hK => ?_) AllReadyH.nil
            rw [if_pos (by rfl)]
            refine wp_append_rd _ _ 83 rfl .i64 D.heap.size 2 iI 8 Tryz.underlying83 hI hI0 hI1 hI2 _ 0 [] rfl oI2 p ss.length cp ss rfl (hrp.below hb2) (by unfold maxLen; omega) (by omega) hb2.size ?_
            intro y1 W3 oI3 hg3
            rw [Nat.zero_add, List.nil_append] at oI3
            obtain ⟨a1, e1, rfl, -, -⟩ := (RowI.of oI3).shape
            have hb3 := hb2.grown hg3 hb2.size (fun j hj => (oI2.lt j hj).1)
            have oA3 := oA2.kept hg3 (fun j hj => own_ne oI2 oA2.2 (by decide) j hj)
            refine hK.out _ _ (⟨cell_later hb3 d0, cell_later hb3 d1, _, cell_later hb3 dB⟩) (fun hS2 => ?_)
            clear hK K hS
            have hS := hS2
            clear hS2
            (try simp only [Act.put, List.getElem_toArray, List.getElem_cons_zero, List.getElem_cons_succ, List.setIfInBounds_toArray, List.set_cons_zero, List.set_cons_succ])
            refine wpAnyH_ready (rs := [13]) (by as_aux_lemma => kernel_rfl) (by simp) ?_
            refine AllReadyH.cons rfl (fun K hK => ?_) AllReadyH.nil
            rw [if_pos (by rfl)]
            refine wp_appArcs _ _ rfl D.heap.size _ 0 [] rfl oA3 q az.length cq az rfl (hrq.below hb3) (by omega) hb3.size ?_
            intro y2 W4 oA4 hg4
            rw [Nat.zero_add, List.nil_append] at oA4
            obtain ⟨a2, e2, rfl, -, -⟩ := (RowS.of oA4).shape lineE_len
            have hb4 := hb3.grown hg4 hb3.size (fun j hj => (oA3.lt j hj).1)
            have oI4 := oI3.kept hg4 (fun j hj => own_ne oA3.2 oI3 (by decide) j hj)
            refine hK.out _ _ (⟨cell_later hb4 d0, cell_later hb4 d1, _, cell_later hb4 dB⟩) (fun hS2 => ?_)
            clear hK K hS
            have hS := hS2
            clear hS2
            (try simp only [Act.put, List.getElem_toArray, List.getElem_cons_zero, List.getElem_cons_succ, List.setIfInBounds_toArray, List.set_cons_zero, List.set_cons_succ])
            refine wpAnyH_take (i := 14) (v := (.agg #[.slice a1 ss.length e1, .slice a2 az.length e2])) rfl (by as_aux_lemma => kernel_rfl) (by as_aux_lemma => kernel_rfl) (by as_aux_lemma => kernel_rfl) (fun _ _ _ h => nomatch h.1) (Or.inl ⟨by kernel_rfl, ?_⟩) hS ?_
            · intro w hSw; (try dsimp only at hSw); go_simp
            simp only [Act.put, List.getElem_toArray, List.getElem_cons_zero, List.getElem_cons_succ, List.setIfInBounds_toArray, List.set_cons_zero, List.set_cons_succ]
            refine wpAnyH_ready (rs := [15]) (by as_aux_lemma => kernel_rfl) (by simp) ?_
            refine AllReadyH.cons rfl (fun K hK => ?_) AllReadyH.nil
            rw [if_pos (by rfl)]
            go_simp
            obtain ⟨W5, hW⟩ : ∃ V, V = W4.alloc (.cells #[.slice a1 ss.length e1, .slice a2 az.length e2] 91) := ⟨_, rfl⟩
            rw [← hW]
            have hb5 : Below D.heap.size D W5 := by rw [hW]; exact hb4.alloc hb4.size _
            have hg5 : W4.grownBy W5 none := by rw [hW]; exact World.grownBy_alloc _ _ none
            have oI5 := oI4.kept hg5 (fun _ _ e => nomatch e)
            have oA5 := oA4.kept hg5 (fun _ _ e => nomatch e)
            have hnw : Blk W5 W4.heap.size #[.slice a1 ss.length e1, .slice a2 az.length e2] 91 := by rw [hW]; exact Blk.new _ _ _
            clear hW
            refine hK.out _ _ (⟨cell_later hb5 d0, cell_later hb5 d1, _, cell_later hb5 dB⟩) (fun hS2 => ?_)
            clear hK K hS
            have hS := hS2
            clear hS2
            (try simp only [Act.put, List.getElem_toArray, List.getElem_cons_zero, List.getElem_cons_succ, List.setIfInBounds_toArray, List.set_cons_zero, List.set_cons_succ])
            refine wpAnyH_ready (rs := [16]) (by as_aux_lemma => kernel_rfl) (by simp) ?_
            refine AllReadyH.cons rfl (fun K hK => ?_) AllReadyH.nil
            rw [if_pos (by rfl)]
            have hrw := RowN.below (tabOk false) HROW.out hb5
            obtain ⟨us, hus⟩ : ∃ us : List Su, W5.ownsRow lo 91 2 (.slice va k cva) k (us.flatMap suE) := by obtain ⟨us, q1, -⟩ := hrw; exact ⟨us, q1.1.2⟩
            refine wp_appSt _ _ rfl lo _ k (us.flatMap suE) rfl hus W4.heap.size 1 (.slice a1 ss.length e1) (.slice a2 az.length e2) rfl rfl rfl (by simpa using hnw.cell 0) (by simpa using hnw.cell 1) (by omega) (by have := hb5.size; omega) ?_
            intro y3 W6 ho3 hg6
            have hsn := tab_snoc hrw oI5 oA5 hus ho3 hg6 hlD
            obtain ⟨a3, e3, rfl, -, -⟩ := RowN.shape suE_len hsn
            have bk := Blk.kept (Blk.of HBB.out hb5) hg6 (Blk.not_row (Blk.of HBB.out hb5) (by decide) hus)
            have bx := Blk.kept (Blk.of HBX.out hb5) hg6 (Blk.not_row (Blk.of HBX.out hb5) (by decide) hus)
            have br := Blk.kept (Blk.of HBR.out hb5) hg6 (Blk.not_row (Blk.of HBR.out hb5) (by decide) hus)
            have hb6 : Below w.heap.size w W6 := (HBW.out.trans (hb5.mono HBW.out.size)).grown hg6 (by have := hb5.size; have := HBW.out.size; omega) (fun j hj => by have := (World.ownsRow.lt hus j hj).1; omega)
            have x1 := bk.cell 1
            have xf := bk.frozen 1
            simp at x1
            refine hK.out _ _ (⟨cell_later hb6 f0, cell_later hb6 f1, _, x1⟩) (fun hS2 => ?_)
            clear hK K hS
            have hS := hS2
            clear hS2
            (try simp only [Act.put, List.getElem_toArray, List.getElem_cons_zero, List.getElem_cons_succ, List.setIfInBounds_toArray, List.set_cons_zero, List.set_cons_succ])
            refine wpAnyH_take (i := 17) (v := (.pointer (some ⟨B, 1, none⟩))) rfl (by as_aux_lemma => kernel_rfl) (by as_aux_lemma => kernel_rfl) (by as_aux_lemma => kernel_rfl) (fun _ _ _ h => nomatch h.1) (Or.inl ⟨by kernel_rfl, ?_⟩) hS ?_
            · intro w hSw; (try dsimp only at hSw); go_simp
            simp only [Act.put, List.getElem_toArray, List.getElem_cons_zero, List.getElem_cons_succ, List.setIfInBounds_toArray, List.set_cons_zero, List.set_cons_succ]
            refine wpAnyH_ready (rs := [18]) (by as_aux_lemma => kernel_rfl) (by simp) ?_
            refine AllReadyH.cons rfl (fun K hK => ?_) AllReadyH.nil
            go_simp
            have bk2 := bk.set (i := 1) (.slice a3 (k + 1) e3)
            have hgs := set_grown W6 B 1 (.slice a3 (k + 1) e3)
            have hbz := hb6.grown hgs hb6.size (fun j hj => by cases hj; omega)
            have y1 := bk2.cell 1
            simp at y1
            refine hK.out _ _ (⟨cell_later hbz f0, cell_later hbz f1, _, y1⟩) (fun hS2 => ?_)
            clear hK K hS
            have hS := hS2
            clear hS2
            (try simp only [Act.put, List.getElem_toArray, List.getElem_cons_zero, List.getElem_cons_succ, List.setIfInBounds_toArray, List.set_cons_zero, List.set_cons_succ])
            refine wpAnyH_done (by kernel_rfl) ?_ _
            refine ⟨rfl, .slice (some ⟨W1.heap.size, 0, none⟩) 0 0, .slice a1 ss.length e1, .slice (some ⟨D.heap.size, 0, none⟩) 0 0, .slice a2 az.length e2, .agg #[.slice a1 ss.length e1, .slice a2 az.length e2], .slice (some ⟨W4.heap.size, 0, none⟩) 1 1, a3, e3, ?_, by simpa using bk2, Blk.kept bx hgs (by simp; omega), Blk.kept br hgs (by simp; omega), ?_, hbz⟩
            · rfl
            · rw [HTK.out]; exact RowN.mono (tabOk false) (RowN.chg (tabOk false) hsn (Chg.one hgs) (.inr (by omega))) (Nat.le_refl _) hgs.size
          · skip
            rw [if_pos (by rfl)]
            go_simp
            obtain ⟨W2, hW⟩ : ∃ V, V = W1.alloc (.cells #[] 2) := ⟨_, rfl⟩
            rw [← hW]
            have hb2 : Below D.heap.size D W2 := by rw [hW]; exact hb1.alloc hb1.size _
            have hg2 : W1.grownBy W2 none := by rw [hW]; exact World.grownBy_alloc _ _ none
            have oI2 : Own .i64 2 W2 D.heap.size (.slice (some ⟨W1.heap.size, 0, none⟩) 0 0) 0 [] := by rw [hW]; exact own_lit W1 #[] 0 D.heap.size [] rfl rfl hb1.size (by unfold maxLen; omega)
            have oA2 := oA1.kept hg2 (fun _ _ e => nomatch e)
            clear hW
            refine hK.out _ _ (⟨cell_later hb2 d0, cell_later hb2 d1, _, cell_later hb2 dB⟩) (fun hS2 => ?_)
            clear hK K hS
            have hS := hS2
            clear hS2
            (try simp only [Act.put, List.getElem_toArray, List.getElem_cons_zero, List.getElem_cons_succ, List.setIfInBounds_toArray, List.set_cons_zero, List.set_cons_succ])
            refine wpAnyH_ready (rs := [1, 7]) (by as_aux_lemma => kernel_rfl) (by simp) ?_
            refine AllReadyH.cons rfl (fun K hK => ?_) (AllReadyH.cons rfl (fun K hK => ?_) AllReadyH.nil)
            · skip
              have k1 := cell_later hb2 dB
              go_simp
              refine hK.out _ _ (hS) (fun hS2 => ?_)
              clear hK K hS
              have hS := hS2
              clear hS2
              (try simp only [Act.put, List.getElem_toArray, List.getElem_cons_zero, List.getElem_cons_succ, List.setIfInBounds_toArray, List.set_cons_zero, List.set_cons_succ])
              clear k1
              refine wpAnyH_ready (rs := [7]) (by as_aux_lemma => kernel_rfl) (by simp) ?_
              refine AllReadyH.cons rfl (fun K hK => ?_) AllReadyH.nil
              rw [if_pos (by rfl)]
              refine wp_append_rd _ _ 83 rfl .i64 D.heap.size 2 iI 8 Tryz.underlying83 hI hI0 hI1 hI2 _ 0 [] rfl oI2 p ss.length cp ss rfl (hrp.below hb2) (by unfold maxLen; omega) (by omega) hb2.size ?_
              intro y1 W3 oI3 hg3
              rw [Nat.zero_add, List.nil_append] at oI3
              obtain ⟨a1, e1, rfl, -, -⟩ := (RowI.of oI3).shape
              have hb3 := hb2.grown hg3 hb2.size (fun j hj => (oI2.lt j hj).1)
              have oA3 := oA2.kept hg3 (fun j hj => own_ne oI2 oA2.2 (by decide) j hj)
              refine hK.out _ _ (⟨cell_later hb3 d0, cell_later hb3 d1, _, cell_later hb3 dB⟩) (fun hS2 => ?_)
              clear hK K hS
              have hS := hS2
              clear hS2
              (try simp only [Act.put, List.getElem_toArray, List.getElem_cons_zero, List.getElem_cons_succ, List.setIfInBounds_toArray, List.set_cons_zero, List.set_cons_succ])
              refine wpAnyH_ready (rs := [13]) (by as_aux_lemma => kernel_rfl) (by simp) ?_
              refine AllReadyH.cons rfl (fun K hK => ?_) AllReadyH.nil
              rw [if_pos (by rfl)]
              refine wp_appArcs _ _ rfl D.heap.size _ 0 [] rfl oA3 q az.length cq az rfl (hrq.below hb3) (by omega) hb3.size ?_
              intro y2 W4 oA4 hg4
              rw [Nat.zero_add, List.nil_append] at oA4
              obtain ⟨a2, e2, rfl, -, -⟩ := (RowS.of oA4).shape lineE_len
              have hb4 := hb3.grown hg4 hb3.size (fun j hj => (oA3.lt j hj).1)
              have oI4 := oI3.kept hg4 (fun j hj => own_ne oA3.2 oI3 (by decide) j hj)
              refine hK.out _ _ (⟨cell_later hb4 d0, cell_later hb4 d1, _, cell_later hb4 dB⟩) (fun hS2 => ?_)
              clear hK K hS
              have hS := hS2
              clear hS2
              (try simp only [Act.put, List.getElem_toArray, List.getElem_cons_zero, List.getElem_cons_succ, List.setIfInBounds_toArray, List.set_cons_zero, List.set_cons_succ])
              refine wpAnyH_take (i := 14) (v := (.agg #[.slice a1 ss.length e1, .slice a2 az.length e2])) rfl (by as_aux_lemma => kernel_rfl) (by as_aux_lemma => kernel_rfl) (by as_aux_lemma => kernel_rfl) (fun _ _ _ h => nomatch h.1) (Or.inl ⟨by kernel_rfl, ?_⟩) hS ?_
              · intro w hSw; (try dsimp only at hSw); go_simp
              simp only [Act.put, List.getElem_toArray, List.getElem_cons_zero, List.getElem_cons_succ, List.setIfInBounds_toArray, List.set_cons_zero, List.set_cons_succ]
              refine wpAnyH_ready (rs := [15]) (by as_aux_lemma => kernel_rfl) (by simp) ?_
              refine AllReadyH.cons rfl (fun K hK => ?_) AllReadyH.nil
              rw [if_pos (by rfl)]
              go_simp
              obtain ⟨W5, hW⟩ : ∃ V, V = W4.alloc (.cells #[.slice a1 ss.length e1, .slice a2 az.length e2] 91) := ⟨_, rfl⟩
              rw [← hW]
              have hb5 : Below D.heap.size D W5 := by rw [hW]; exact hb4.alloc hb4.size _
              have hg5 : W4.grownBy W5 none := by rw [hW]; exact World.grownBy_alloc _ _ none
              have oI5 := oI4.kept hg5 (fun _ _ e => nomatch e)
              have oA5 := oA4.kept hg5 (fun _ _ e => nomatch e)
              have hnw : Blk W5 W4.heap.size #[.slice a1 ss.length e1, .slice a2 az.length e2] 91 := by rw [hW]; exact Blk.new _ _ _
              clear hW
              refine hK.out _ _ (⟨cell_later hb5 d0, cell_later hb5 d1, _, cell_later hb5 dB⟩) (fun hS2 => ?_)
              clear hK K hS
              have hS := hS2
              clear hS2
              (try simp only [Act.put, List.getElem_toArray, List.getElem_cons_zero, List.getElem_cons_succ, List.setIfInBounds_toArray, List.set_cons_zero, List.set_cons_succ])
              refine wpAnyH_ready (rs := [16]) (by as_aux_lemma => kernel_rfl) (by simp) ?_
              refine AllReadyH.cons rfl (fun K hK => ?_) AllReadyH.nil
              rw [if_pos (by rfl)]
              have hrw := RowN.below (tabOk false) HROW.out hb5
              obtain ⟨us, hus⟩ : ∃ us : List Su, W5.ownsRow lo 91 2 (.slice va k cva) k (us.flatMap suE) := by obtain ⟨us, q1, -⟩ := hrw; exact ⟨us, q1.1.2⟩
              refine wp_appSt _ _ rfl lo _ k (us.flatMap suE) rfl hus W4.heap.size 1 (.slice a1 ss.length e1) (.slice a2 az.length e2) rfl rfl rfl (by simpa using hnw.cell 0) (by simpa using hnw.cell 1) (by omega) (by have := hb5.size; omega) ?_
              intro y3 W6 ho3 hg6
              have hsn := tab_snoc hrw oI5 oA5 hus ho3 hg6 hlD
              obtain ⟨a3, e3, rfl, -, -⟩ := RowN.shape suE_len hsn
              have bk := Blk.kept (Blk.of HBB.out hb5) hg6 (Blk.not_row (Blk.of HBB.out hb5) (by decide) hus)
              have bx := Blk.kept (Blk.of HBX.out hb5) hg6 (Blk.not_row (Blk.of HBX.out hb5) (by decide) hus)
              have br := Blk.kept (Blk.of HBR.out hb5) hg6 (Blk.not_row (Blk.of HBR.out hb5) (by decide) hus)
              have hb6 : Below w.heap.size w W6 := (HBW.out.trans (hb5.mono HBW.out.size)).grown hg6 (by have := hb5.size; have := HBW.out.size; omega) (fun j hj => by have := (World.ownsRow.lt hus j hj).1; omega)
              have x1 := bk.cell 1
              have xf := bk.frozen 1
              simp at x1
              refine hK.out _ _ (⟨cell_later hb6 f0, cell_later hb6 f1, _, x1⟩) (fun hS2 => ?_)
              clear hK K hS
              have hS := hS2
              clear hS2
              (try simp only [Act.put, List.getElem_toArray, List.getElem_cons_zero, List.getElem_cons_succ, List.setIfInBounds_toArray, List.set_cons_zero, List.set_cons_succ])
              refine wpAnyH_take (i := 17) (v := (.pointer (some ⟨B, 1, none⟩))) rfl (by as_aux_lemma => kernel_rfl) (by as_aux_lemma => kernel_rfl) (by as_aux_lemma => kernel_rfl) (fun _ _ _ h => nomatch h.1) (Or.inl ⟨by kernel_rfl, ?_⟩) hS ?_
              · intro w hSw; (try dsimp only at hSw); go_simp
              simp only [Act.put, List.getElem_toArray, List.getElem_cons_zero, List.getElem_cons_succ, List.setIfInBounds_toArray, List.set_cons_zero, List.set_cons_succ]
              refine wpAnyH_ready (rs := [18]) (by as_aux_lemma => kernel_rfl) (by simp) ?_
              refine AllReadyH.cons rfl (fun K hK => ?_) AllReadyH.nil
              go_simp
              have bk2 := bk.set (i := 1) (.slice a3 (k + 1) e3)
              have hgs := set_grown W6 B 1 (.slice a3 (k + 1) e3)
              have hbz := hb6.grown hgs hb6.size (fun j hj => by cases hj; omega)
              have y1 := bk2.cell 1
              simp at y1
              refine hK.out _ _ (⟨cell_later hbz f0, cell_later hbz f1, _, y1⟩) (fun hS2 => ?_)
              clear hK K hS
              have hS := hS2
              clear hS2
              (try simp only [Act.put, List.getElem_toArray, List.getElem_cons_zero, List.getElem_cons_succ, List.setIfInBounds_toArray, List.set_cons_zero, List.set_cons_succ])
              refine wpAnyH_done (by kernel_rfl) ?_ _
              refine ⟨rfl, .slice (some ⟨W1.heap.size, 0, none⟩) 0 0, .slice a1 ss.length e1, .slice (some ⟨D.heap.size, 0, none⟩) 0 0, .slice a2 az.length e2, .agg #[.slice a1 ss.length e1, .slice a2 az.length e2], .slice (some ⟨W4.heap.size, 0, none⟩) 1 1, a3, e3, ?_, by simpa using bk2, Blk.kept bx hgs (by simp; omega), Blk.kept br hgs (by simp; omega), ?_, hbz⟩
              · rfl
              · rw [HTK.out]; exact RowN.mono (tabOk false) (RowN.chg (tabOk false) hsn (Chg.one hgs) (.inr (by omega))) (Nat.le_refl _) hgs.size
            · skip
              rw [if_pos (by rfl)]
              refine wp_append_rd _ _ 83 rfl .i64 D.heap.size 2 iI 8 Tryz.underlying83 hI hI0 hI1 hI2 _ 0 [] rfl oI2 p ss.length cp ss rfl (hrp.below hb2) (by unfold maxLen; omega) (by omega) hb2.size ?_
              intro y1 W3 oI3 hg3
              rw [Nat.zero_add, List.nil_append] at oI3
              obtain ⟨a1, e1, rfl, -, -⟩ := (RowI.of oI3).shape
              have hb3 := hb2.grown hg3 hb2.size (fun j hj => (oI2.lt j hj).1)
              have oA3 := oA2.kept hg3 (fun j hj => own_ne oI2 oA2.2 (by decide) j hj)
              refine hK.out _ _ (⟨cell_later hb3 d0, cell_later hb3 d1, _, cell_later hb3 dB⟩) (fun hS2 => ?_)
              clear hK K hS
              have hS := hS2
              clear hS2
              (try simp only [Act.put, List.getElem_toArray, List.getElem_cons_zero, List.getElem_cons_succ, List.setIfInBounds_toArray, List.set_cons_zero, List.set_cons_succ])
              refine wpAnyH_ready (rs := [1, 13]) (by as_aux_lemma => kernel_rfl) (by simp) ?_
              refine AllReadyH.cons rfl (fun K hK => ?_) (AllReadyH.cons rfl (fun K hK => ?_) AllReadyH.nil)
              · skip
                have k1 := cell_later hb3 dB
                go_simp
                refine hK.out _ _ (hS) (fun hS2 => ?_)
                clear hK K hS
                have hS := hS2
                clear hS2
                (try simp only [Act.put, List.getElem_toArray, List.getElem_cons_zero, List.getElem_cons_succ, List.setIfInBounds_toArray, List.set_cons_zero, List.set_cons_succ])
                clear k1
                refine wpAnyH_ready (rs := [13]) (by as_aux_lemma => kernel_rfl) (by simp) ?_
                refine AllReadyH.cons rfl (fun K hK => ?_) AllReadyH.nil
                rw [if_pos (by rfl)]
                refine wp_appArcs _ _ rfl D.heap.size _ 0 [] rfl oA3 q az.length cq az rfl (hrq.below hb3) (by omega) hb3.size ?_
                intro y2 W4 oA4 hg4
                rw [Nat.zero_add, List.nil_append] at oA4
                obtain ⟨a2, e2, rfl, -, -⟩ := (RowS.of oA4).shape lineE_len
                have hb4 := hb3.grown hg4 hb3.size (fun j hj => (oA3.lt j hj).1)
                have oI4 := oI3.kept hg4 (fun j hj => own_ne oA3.2 oI3 (by decide) j hj)
                refine hK.out _ _ (⟨cell_later hb4 d0, cell_later hb4 d1, _, cell_later hb4 dB⟩) (fun hS2 => ?_)
                clear hK K hS
                have hS := hS2
                clear hS2
                (try simp only [Act.put, List.getElem_toArray, List.getElem_cons_zero, List.getElem_cons_succ, List.setIfInBounds_toArray, List.set_cons_zero, List.set_cons_succ])
                refine wpAnyH_take (i := 14) (v := (.agg #[.slice a1 ss.length e1, .slice a2 az.length e2])) rfl (by as_aux_lemma => kernel_rfl) (by as_aux_lemma => kernel_rfl) (by as_aux_lemma => kernel_rfl) (fun _ _ _ h => nomatch h.1) (Or.inl ⟨by kernel_rfl, ?_⟩) hS ?_
                · intro w hSw; (try dsimp only at hSw); go_simp
                simp only [Act.put, List.getElem_toArray, List.getElem_cons_zero, List.getElem_cons_succ, List.setIfInBounds_toArray, List.set_cons_zero, List.set_cons_succ]
                refine wpAnyH_ready (rs := [15]) (by as_aux_lemma => kernel_rfl) (by simp) ?_
                refine AllReadyH.cons rfl (fun K hK => ?_) AllReadyH.nil
                rw [if_pos (by rfl)]
                go_simp
                obtain ⟨W5, hW⟩ : ∃ V, V = W4.alloc (.cells #[.slice a1 ss.length e1, .slice a2 az.length e2] 91) := ⟨_, rfl⟩
                rw [← hW]
                have hb5 : Below D.heap.size D W5 := by rw [hW]; exact hb4.alloc hb4.size _
                have hg5 : W4.grownBy W5 none := by rw [hW]; exact World.grownBy_alloc _ _ none
                have oI5 := oI4.kept hg5 (fun _ _ e => nomatch e)
                have oA5 := oA4.kept hg5 (fun _ _ e => nomatch e)
                have hnw : Blk W5 W4.heap.size #[.slice a1 ss.length e1, .slice a2 az.length e2] 91 := by rw [hW]; exact Blk.new _ _ _
                clear hW
                refine hK.out _ _ (⟨cell_later hb5 d0, cell_later hb5 d1, _, cell_later hb5 dB⟩) (fun hS2 => ?_)
                clear hK K hS
                have hS := hS2
                clear hS2
                (try simp only [Act.put, List.getElem_toArray, List.getElem_cons_zero, List.getElem_cons_succ, List.setIfInBounds_toArray, List.set_cons_zero, List.set_cons_succ])
                refine wpAnyH_ready (rs := [16]) (by as_aux_lemma => kernel_rfl) (by simp) ?_
                refine AllReadyH.cons rfl (fun K hK => ?_) AllReadyH.nil
                rw [if_pos (by rfl)]
                have hrw := RowN.below (tabOk false) HROW.out hb5
                obtain ⟨us, hus⟩ : ∃ us : List Su, W5.ownsRow lo 91 2 (.slice va k cva) k (us.flatMap suE) := by obtain ⟨us, q1, -⟩ := hrw; exact ⟨us, q1.1.2⟩
                refine wp_appSt _ _ rfl lo _ k (us.flatMap suE) rfl hus W4.heap.size 1 (.slice a1 ss.length e1) (.slice a2 az.length e2) rfl rfl rfl (by simpa using hnw.cell 0) (by simpa using hnw.cell 1) (by omega) (by have := hb5.size; omega) ?_
                intro y3 W6 ho3 hg6
                have hsn := tab_snoc hrw oI5 oA5 hus ho3 hg6 hlD
                obtain ⟨a3, e3, rfl, -, -⟩ := RowN.shape suE_len hsn
                have bk := Blk.kept (Blk.of HBB.out hb5) hg6 (Blk.not_row (Blk.of HBB.out hb5) (by decide) hus)
                have bx := Blk.kept (Blk.of HBX.out hb5) hg6 (Blk.not_row (Blk.of HBX.out hb5) (by decide) hus)
                have br := Blk.kept (Blk.of HBR.out hb5) hg6 (Blk.not_row (Blk.of HBR.out hb5) (by decide) hus)
                have hb6 : Below w.heap.size w W6 := (HBW.out.trans (hb5.mono HBW.out.size)).grown hg6 (by have := hb5.size; have := HBW.out.size; omega) (fun j hj => by have := (World.ownsRow.lt hus j hj).1; omega)
                have x1 := bk.cell 1
                have xf := bk.frozen 1
                simp at x1
                refine hK.out _ _ (⟨cell_later hb6 f0, cell_later hb6 f1, _, x1⟩) (fun hS2 => ?_)
                clear hK K hS
                have hS := hS2
                clear hS2
                (try simp only [Act.put, List.getElem_toArray, List.getElem_cons_zero, List.getElem_cons_succ, List.setIfInBounds_toArray, List.set_cons_zero, List.set_cons_succ])
                refine wpAnyH_take (i := 17) (v := (.pointer (some ⟨B, 1, none⟩))) rfl (by as_aux_lemma => kernel_rfl) (by as_aux_lemma => kernel_rfl) (by as_aux_lemma => kernel_rfl) (fun _ _ _ h => nomatch h.1) (Or.inl ⟨by kernel_rfl, ?_⟩) hS ?_
                · intro w hSw; (try dsimp only at hSw); go_simp
                simp only [Act.put, List.getElem_toArray, List.getElem_cons_zero, List.getElem_cons_succ, List.setIfInBounds_toArray, List.set_cons_zero, List.set_cons_succ]
                refine wpAnyH_ready (rs := [18]) (by as_aux_lemma => kernel_rfl) (by simp) ?_
                refine AllReadyH.cons rfl (fun K hK => ?_) AllReadyH.nil
                go_simp
                have bk2 := bk.set (i := 1) (.slice a3 (k + 1) e3)
                have hgs := set_grown W6 B 1 (.slice a3 (k + 1) e3)
                have hbz := hb6.grown hgs hb6.size (fun j hj => by cases hj; omega)
                have y1 := bk2.cell 1
                simp at y1
                refine hK.out _ _ (⟨cell_later hbz f0, cell_later hbz f1, _, y1⟩) (fun hS2 => ?_)
                clear hK K hS
                have hS := hS2
                clear hS2
                (try simp only [Act.put, List.getElem_toArray, List.getElem_cons_zero, List.getElem_cons_succ, List.setIfInBounds_toArray, List.set_cons_zero, List.set_cons_succ])
                refine wpAnyH_done (by kernel_rfl) ?_ _
                refine ⟨rfl, .slice (some ⟨W1.heap.size, 0, none⟩) 0 0, .slice a1 ss.length e1, .slice (some ⟨D.heap.size, 0, none⟩) 0 0, .slice a2 az.length e2, .agg #[.slice a1 ss.length e1, .slice a2 az.length e2], .slice (some ⟨W4.heap.size, 0, none⟩) 1 1, a3, e3, ?_, by simpa using bk2, Blk.kept bx hgs (by simp; omega), Blk.kept br hgs (by simp; omega), ?_, hbz⟩
                · rfl
                · rw [HTK.out]; exact RowN.mono (tabOk false) (RowN.chg (tabOk false) hsn (Chg.one hgs) (.inr (by omega))) (Nat.le_refl _) hgs.size
              · skip
                rw [if_pos (by rfl)]
                refine wp_appArcs _ _ rfl D.heap.size _ 0 [] rfl oA3 q az.length cq az rfl (hrq.below hb3) (by omega) hb3.size ?_
                intro y2 W4 oA4 hg4
                rw [Nat.zero_add, List.nil_append] at oA4
                obtain ⟨a2, e2, rfl, -, -⟩ := (RowS.of oA4).shape lineE_len
                have hb4 := hb3.grown hg4 hb3.size (fun j hj => (oA3.lt j hj).1)
                have oI4 := oI3.kept hg4 (fun j hj => own_ne oA3.2 oI3 (by decide) j hj)
                refine hK.out _ _ (⟨cell_later hb4 d0, cell_later hb4 d1, _, cell_later hb4 dB⟩) (fun hS2 => ?_)
                clear hK K hS
                have hS := hS2
                clear hS2
                (try simp only [Act.put, List.getElem_toArray, List.getElem_cons_zero, List.getElem_cons_succ, List.setIfInBounds_toArray, List.set_cons_zero, List.set_cons_succ])
                refine wpAnyH_take (i := 14) (v := (.agg #[.slice a1 ss.length e1, .slice a2 az.length e2])) rfl (by as_aux_lemma => kernel_rfl) (by as_aux_lemma => kernel_rfl) (by as_aux_lemma => kernel_rfl) (fun _ _ _ h => nomatch h.1) (Or.inl ⟨by kernel_rfl, ?_⟩) hS ?_
                · intro w hSw; (try dsimp only at hSw); go_simp
                simp only [Act.put, List.getElem_toArray, List.getElem_cons_zero, List.getElem_cons_succ, List.setIfInBounds_toArray, List.set_cons_zero, List.set_cons_succ]
                refine wpAnyH_ready (rs := [1, 15]) (by as_aux_lemma => kernel_rfl) (by simp) ?_
                refine AllReadyH.cons rfl (fun K hK => ?_) (AllReadyH.cons rfl (fun K hK => ?_) AllReadyH.nil)
                · skip
                  have k1 := cell_later hb4 dB
                  go_simp
                  refine hK.out _ _ (hS) (fun hS2 => ?_)
                  clear hK K hS
                  have hS := hS2
                  clear hS2
                  (try simp only [Act.put, List.getElem_toArray, List.getElem_cons_zero, List.getElem_cons_succ, List.setIfInBounds_toArray, List.set_cons_zero, List.set_cons_succ])
                  clear k1
                  refine wpAnyH_ready (rs := [15]) (by as_aux_lemma => kernel_rfl) (by simp) ?_
                  refine AllReadyH.cons rfl (fun K hK => ?_) AllReadyH.nil
                  rw [if_pos (by rfl)]
                  go_simp
                  obtain ⟨W5, hW⟩ : ∃ V, V = W4.alloc (.cells #[.slice a1 ss.length e1, .slice a2 az.length e2] 91) := ⟨_, rfl⟩
                  rw [← hW]
                  have hb5 : Below D.heap.size D W5 := by rw [hW]; exact hb4.alloc hb4.size _
                  have hg5 : W4.grownBy W5 none := by rw [hW]; exact World.grownBy_alloc _ _ none
                  have oI5 := oI4.kept hg5 (fun _ _ e => nomatch e)
                  have oA5 := oA4.kept hg5 (fun _ _ e => nomatch e)
                  have hnw : Blk W5 W4.heap.size #[.slice a1 ss.length e1, .slice a2 az.length e2] 91 := by rw [hW]; exact Blk.new _ _ _
                  clear hW
                  refine hK.out _ _ (⟨cell_later hb5 d0, cell_later hb5 d1, _, cell_later hb5 dB⟩) (fun hS2 => ?_)
                  clear hK K hS
                  have hS := hS2
                  clear hS2
                  (try simp only [Act.put, List.getElem_toArray, List.getElem_cons_zero, List.getElem_cons_succ, List.setIfInBounds_toArray, List.set_cons_zero, List.set_cons_succ])
                  refine wpAnyH_ready (rs := [16]) (by as_aux_lemma => kernel_rfl) (by simp) ?_
                  refine AllReadyH.cons rfl (fun K hK => ?_) AllReadyH.nil
                  rw [if_pos (by rfl)]
                  have hrw := RowN.below (tabOk false) HROW.out hb5
                  obtain ⟨us, hus⟩ : ∃ us : List Su, W5.ownsRow lo 91 2 (.slice va k cva) k (us.flatMap suE) := by obtain ⟨us, q1, -⟩ := hrw; exact ⟨us, q1.1.2⟩
                  refine wp_appSt _ _ rfl lo _ k (us.flatMap suE) rfl hus W4.heap.size 1 (.slice a1 ss.length e1) (.slice a2 az.length e2) rfl rfl rfl (by simpa using hnw.cell 0) (by simpa using hnw.cell 1) (by omega) (by have := hb5.size; omega) ?_
                  intro y3 W6 ho3 hg6
                  have hsn := tab_snoc hrw oI5 oA5 hus ho3 hg6 hlD
                  obtain ⟨a3, e3, rfl, -, -⟩ := RowN.shape suE_len hsn
                  have bk := Blk.kept (Blk.of HBB.out hb5) hg6 (Blk.not_row (Blk.of HBB.out hb5) (by decide) hus)
                  have bx := Blk.kept (Blk.of HBX.out hb5) hg6 (Blk.not_row (Blk.of HBX.out hb5) (by decide) hus)
                  have br := Blk.kept (Blk.of HBR.out hb5) hg6 (Blk.not_row (Blk.of HBR.out hb5) (by decide) hus)
                  have hb6 : Below w.heap.size w W6 := (HBW.out.trans (hb5.mono HBW.out.size)).grown hg6 (by have := hb5.size; have := HBW.out.size; omega) (fun j hj => by have := (World.ownsRow.lt hus j hj).1; omega)
                  have x1 := bk.cell 1
                  have xf := bk.frozen 1
                  simp at x1
                  refine hK.out _ _ (⟨cell_later hb6 f0, cell_later hb6 f1, _, x1⟩) (fun hS2 => ?_)
                  clear hK K hS
                  have hS := hS2
                  clear hS2
                  (try simp only [Act.put, List.getElem_toArray, List.getElem_cons_zero, List.getElem_cons_succ, List.setIfInBounds_toArray, List.set_cons_zero, List.set_cons_succ])
                  refine wpAnyH_take (i := 17) (v := (.pointer (some ⟨B, 1, none⟩))) rfl (by as_aux_lemma => kernel_rfl) (by as_aux_lemma => kernel_rfl) (by as_aux_lemma => kernel_rfl) (fun _ _ _ h => nomatch h.1) (Or.inl ⟨by kernel_rfl, ?_⟩) hS ?_
                  · intro w hSw; (try dsimp only at hSw); go_simp
                  simp only [Act.put, List.getElem_toArray, List.getElem_cons_zero, List.getElem_cons_succ, List.setIfInBounds_toArray, List.set_cons_zero, List.set_cons_succ]
                  refine wpAnyH_ready (rs := [18]) (by as_aux_lemma => kernel_rfl) (by simp) ?_
                  refine AllReadyH.cons rfl (fun K hK => ?_) AllReadyH.nil
                  go_simp
                  have bk2 := bk.set (i := 1) (.slice a3 (k + 1) e3)
                  have hgs := set_grown W6 B 1 (.slice a3 (k + 1) e3)
                  have hbz := hb6.grown hgs hb6.size (fun j hj => by cases hj; omega)
                  have y1 := bk2.cell 1
                  simp at y1
                  refine hK.out _ _ (⟨cell_later hbz f0, cell_later hbz f1, _, y1⟩) (fun hS2 => ?_)
                  clear hK K hS
                  have hS := hS2
                  clear hS2
                  (try simp only [Act.put, List.getElem_toArray, List.getElem_cons_zero, List.getElem_cons_succ, List.setIfInBounds_toArray, List.set_cons_zero, List.set_cons_succ])
                  refine wpAnyH_done (by kernel_rfl) ?_ _
                  refine ⟨rfl, .slice (some ⟨W1.heap.size, 0, none⟩) 0 0, .slice a1 ss.length e1, .slice (some ⟨D.heap.size, 0, none⟩) 0 0, .slice a2 az.length e2, .agg #[.slice a1 ss.length e1, .slice a2 az.length e2], .slice (some ⟨W4.heap.size, 0, none⟩) 1 1, a3, e3, ?_, by simpa using bk2, Blk.kept bx hgs (by simp; omega), Blk.kept br hgs (by simp; omega), ?_, hbz⟩
                  · rfl
                  · rw [HTK.out]; exact RowN.mono (tabOk false) (RowN.chg (tabOk false) hsn (Chg.one hgs) (.inr (by omega))) (Nat.le_refl _) hgs.size
                · skip
                  rw [if_pos (by rfl)]
                  go_simp
                  obtain ⟨W5, hW⟩ : ∃ V, V = W4.alloc (.cells #[.slice a1 ss.length e1, .slice a2 az.length e2] 91) := ⟨_, rfl⟩
                  rw [← hW]
                  have hb5 : Below D.heap.size D W5 := by rw [hW]; exact hb4.alloc hb4.size _
                  have hg5 : W4.grownBy W5 none := by rw [hW]; exact World.grownBy_alloc _ _ none
                  have oI5 := oI4.kept hg5 (fun _ _ e => nomatch e)
                  have oA5 := oA4.kept hg5 (fun _ _ e => nomatch e)
                  have hnw : Blk W5 W4.heap.size #[.slice a1 ss.length e1, .slice a2 az.length e2] 91 := by rw [hW]; exact Blk.new _ _ _
                  clear hW
                  refine hK.out _ _ (⟨cell_later hb5 d0, cell_later hb5 d1, _, cell_later hb5 dB⟩) (fun hS2 => ?_)
                  clear hK K hS
                  have hS := hS2
                  clear hS2
                  (try simp only [Act.put, List.getElem_toArray, List.getElem_cons_zero, List.getElem_cons_succ, List.setIfInBounds_toArray, List.set_cons_zero, List.set_cons_succ])
                  refine wpAnyH_ready (rs := [1]) (by as_aux_lemma => kernel_rfl) (by simp) ?_
                  refine AllReadyH.cons rfl (fun K hK => ?_) AllReadyH.nil
                  have k1 := cell_later hb5 dB
                  go_simp
                  refine hK.out _ _ (hS) (fun hS2 => ?_)
                  clear hK K hS
                  have hS := hS2
                  clear hS2
                  (try simp only [Act.put, List.getElem_toArray, List.getElem_cons_zero, List.getElem_cons_succ, List.setIfInBounds_toArray, List.set_cons_zero, List.set_cons_succ])
                  clear k1
                  refine wpAnyH_ready (rs := [16]) (by as_aux_lemma => kernel_rfl) (by simp) ?_
                  refine AllReadyH.cons rfl (fun K hK => ?_) AllReadyH.nil
                  rw [if_pos (by rfl)]
                  have hrw := RowN.below (tabOk false) HROW.out hb5
                  obtain ⟨us, hus⟩ : ∃ us : List Su, W5.ownsRow lo 91 2 (.slice va k cva) k (us.flatMap suE) := by obtain ⟨us, q1, -⟩ := hrw; exact ⟨us, q1.1.2⟩
                  refine wp_appSt _ _ rfl lo _ k (us.flatMap suE) rfl hus W4.heap.size 1 (.slice a1 ss.length e1) (.slice a2 az.length e2) rfl rfl rfl (by simpa using hnw.cell 0) (by simpa using hnw.cell 1) (by omega) (by have := hb5.size; omega) ?_
                  intro y3 W6 ho3 hg6
                  have hsn := tab_snoc hrw oI5 oA5 hus ho3 hg6 hlD
                  obtain ⟨a3, e3, rfl, -, -⟩ := RowN.shape suE_len hsn
                  have bk := Blk.kept (Blk.of HBB.out hb5) hg6 (Blk.not_row (Blk.of HBB.out hb5) (by decide) hus)
                  have bx := Blk.kept (Blk.of HBX.out hb5) hg6 (Blk.not_row (Blk.of HBX.out hb5) (by decide) hus)
                  have br := Blk.kept (Blk.of HBR.out hb5) hg6 (Blk.not_row (Blk.of HBR.out hb5) (by decide) hus)
                  have hb6 : Below w.heap.size w W6 := (HBW.out.trans (hb5.mono HBW.out.size)).grown hg6 (by have := hb5.size; have := HBW.out.size; omega) (fun j hj => by have := (World.ownsRow.lt hus j hj).1; omega)
                  have x1 := bk.cell 1
                  have xf := bk.frozen 1
                  simp at x1
                  refine hK.out _ _ (⟨cell_later hb6 f0, cell_later hb6 f1, _, x1⟩) (fun hS2 => ?_)
                  clear hK K hS
                  have hS := hS2
                  clear hS2
                  (try simp only [Act.put, List.getElem_toArray, List.getElem_cons_zero, List.getElem_cons_succ, List.setIfInBounds_toArray, List.set_cons_zero, List.set_cons_succ])
                  refine wpAnyH_take (i := 17) (v := (.pointer (some ⟨B, 1, none⟩))) rfl (by as_aux_lemma => kernel_rfl) (by as_aux_lemma => kernel_rfl) (by as_aux_lemma => kernel_rfl) (fun _ _ _ h => nomatch h.1) (Or.inl ⟨by kernel_rfl, ?_⟩) hS ?_
                  · intro w hSw; (try dsimp only at hSw); go_simp
                  simp only [Act.put, List.getElem_toArray, List.getElem_cons_zero, List.getElem_cons_succ, List.setIfInBounds_toArray, List.set_cons_zero, List.set_cons_succ]
                  refine wpAnyH_ready (rs := [18]) (by as_aux_lemma => kernel_rfl) (by simp) ?_
                  refine AllReadyH.cons rfl (fun K hK => ?_) AllReadyH.nil
                  go_simp
                  have bk2 := bk.set (i := 1) (.slice a3 (k + 1) e3)
                  have hgs := set_grown W6 B 1 (.slice a3 (k + 1) e3)
                  have hbz := hb6.grown hgs hb6.size (fun j hj => by cases hj; omega)
                  have y1 := bk2.cell 1
                  simp at y1
                  refine hK.out _ _ (⟨cell_later hbz f0, cell_later hbz f1, _, y1⟩) (fun hS2 => ?_)
                  clear hK K hS
                  have hS := hS2
                  clear hS2
                  (try simp only [Act.put, List.getElem_toArray, List.getElem_cons_zero, List.getElem_cons_succ, List.setIfInBounds_toArray, List.set_cons_zero, List.set_cons_succ])
                  refine wpAnyH_done (by kernel_rfl) ?_ _
                  refine ⟨rfl, .slice (some ⟨W1.heap.size, 0, none⟩) 0 0, .slice a1 ss.length e1, .slice (some ⟨D.heap.size, 0, none⟩) 0 0, .slice a2 az.length e2, .agg #[.slice a1 ss.length e1, .slice a2 az.length e2], .slice (some ⟨W4.heap.size, 0, none⟩) 1 1, a3, e3, ?_, by simpa using bk2, Blk.kept bx hgs (by simp; omega), Blk.kept br hgs (by simp; omega), ?_, hbz⟩
                  · rfl
                  · rw [HTK.out]; exact RowN.mono (tabOk false) (RowN.chg (tabOk false) hsn (Chg.one hgs) (.inr (by omega))) (Nat.le_refl _) hgs.size

      · rintro a' w5 ⟨z22, z27, z28, z33, z34, z35, a3, e3, rfl, hb5, hx5, hr5, hw5, hbl5⟩
        have H1 := hid hb5
        have H2 := hid hx5
        have H3 := hid hr5
        have H4 := hid hw5
        have H5 := hid hbl5
        clear hb5 hx5 hr5 hw5 hbl5
        simp only [Act.put, List.getElem_toArray, List.getElem_cons_zero, List.getElem_cons_succ, List.setIfInBounds_toArray, List.set_cons_zero, List.set_cons_succ]
        go_wp2
        go_roundw
        case rel => exact ⟨k + 1, a3, e3, by omega, by go_num, H2, H3, H1, H4, by rw [show X = w.heap.size by omega]; exact H5⟩
        case measure => simp [intOf]; omega
    · obtain rfl : k = n := by omega
      have HR := hid hrow.out
      have HB := hid hbw.out
      have hRz : R < wr.heap.size := hbr.out.lt
      clear hrow hbw
      go_wp2
      refine bodyPost_ret (v := .agg #[.int .i64 z, .slice va _ cva]) (by simp [results, Tryz.results28, go_sem, g3, g4, gf0, gf1]) rfl ⟨va, cva, rfl, ?_, ?_⟩
      · have h1 := RowN.chg (tabOk false) (RowN.chg (tabOk false) HR.out (Chg.one (set_grown wr R 0 (.int .i64 z))) (.inr (by omega))) (Chg.one (set_grown (wr.setCell ⟨R, 0, none⟩ (.int .i64 z)) R 1 (.slice va k cva))) (.inr (by omega))
        have hz := (set_grown (wr.setCell ⟨R, 0, none⟩ (.int .i64 z)) R 1 (.slice va k cva)).size
        have hz0 := (set_grown wr R 0 (.int .i64 z)).size
        rw [List.take_of_length_le (Nat.le_of_eq HT.out.len)] at h1
        exact RowN.mono (tabOk false) h1 (by omega) (by omega)
      · exact (HB.out.setCell (by show w.heap.size ≤ R; omega) _).setCell (by show w.heap.size ≤ R; omega) _
end Go.Proofs.YtlemdjgpkmjihaaGreat

namespace Go.Proofs.YtlemdjgpkmjihaaGreat
open Go.RowKit
set_option linter.unusedVariables false
set_option linter.unusedSimpArgs false

def enCode (cs : List In) (z : Int) (ts : List St) (xs : List Int) : Int := if tabF cs z ts ≠ 0 then tabF cs z ts else setFault cs xs
def enVal (cs : List In) (z : Int) (ts : List St) (xs : List Int) : Int := if enCode cs z ts xs = 0 then entP z ts xs else 0
def enSize (cs : List In) (z : Int) (ts : List St) (xs : List Int) : Int := if enCode cs z ts xs = 0 then z else 0
def enRows (cs : List In) (z : Int) (ts : List St) (xs : List Int) : List St := if enCode cs z ts xs = 0 then entS z ts xs else []

end Go.Proofs.YtlemdjgpkmjihaaGreat