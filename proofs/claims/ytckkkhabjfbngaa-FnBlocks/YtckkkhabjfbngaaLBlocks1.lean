/-
  For every code, FnBlocks returns true: what is fetched of a drawn cache is what the file has there, and there are never too many; no condition.
  (Draw13, Later, Draw14, WBlocks, LBlocks in one text.)
-/
import Derived.Deep.RegionWith
import Derived.Deep.RegionHeld3
import Derived.Test.YtckkkhabjfbngaaDrawsC
import Derived.Test.YtckkkhabjfbngaaDrawsA
import Derived.Test.YtckkkhabjfbngaaBlkA
import Derived.Test.YtckkkhabjfbngaaCache5
import Derived.Test.YtckkkhabjfbngaaDrawsB
namespace Go.Proofs.Ytckkkhabjfbngaa
open Go.RowKit Go.ChangeMaps Go.MapKept
set_option linter.unusedVariables false
set_option linter.unusedSimpArgs false

set_option maxRecDepth 20000 in
set_option maxHeartbeats 6400000 in
theorem l3With_any (a : Option Addr) (n ca : Nat) (xs : List Int) (w : World) (ha : Rd .u8 w a n xs) (hB : Bytes xs) (hn : n ≤ 1048576) :
    Calls Try.prog 43 #[.slice a n ca] w fun e w' => ∃ u z va bs vf ys, e = .returned (.tuple #[.agg #[.int .i64 u, .int .i64 z, va], .agg #[vf]]) ∧ (BytesB bs ∧ SmallB bs) ∧ RowB 93 5 w' w.heap.size w'.heap.size va bs.length bs ∧ RowI .u8 5 w' w.heap.size w'.heap.size vf ys.length ys ∧ ys.length ≤ 401 ∧ Bytes ys ∧ Below w.heap.size w w' := by
  have hbt : ∀ o1 o2, Below w.heap.size w ((w.alloc o1).alloc o2) := fun o1 o2 => ((Below.refl _ _).alloc (Nat.le_refl _) o1).alloc (by simp) o2
  go_enter Try.func43, Try.ntmps43
  go_wp2_with fail
  refine (l1Source_any a n ca xs w.heap.size _ (ha.below (hbt _ _)) hB hn (src_below ha) (by simp; omega)).mono ?_
  rintro e w1 ⟨rfl, hs1, hb1⟩
  have hb01 := (hbt _ _).trans (hb1.mono (by simp; omega))
  have q2 : Blk w1 w.heap.size #[.int .i64 0, .int .i64 0, .slice none 0 0] 26 := ((Blk.new w _ _).alloc _).below hb1
  have q3 : Blk w1 (w.heap.size + 1) #[.slice none 0 0] 28 := by
    have := (Blk.new (w.alloc (.cells #[.int .i64 0, .int .i64 0, .slice none 0 0] 26)) #[.slice none 0 0] 28).below hb1
    simpa using this
  have hs1' : Src w1 w.heap.size (w.heap.size + 2) 0 := by simpa using hs1
  have z1 := hs1'.lt
  rw [show ((w.alloc (.cells #[.int .i64 0, .int .i64 0, .slice none 0 0] 26)).alloc (.cells #[.slice none 0 0] 28)).heap.size = w.heap.size + 2 by simp]
  clear hb1 hs1 hbt
  go_wp2_with fail
  refine (l2Bent_any w.heap.size (w.heap.size + 2) 0 w1 hs1' (by omega)).mono ?_
  rintro e w2 ⟨v2, ys, rfl, o2, hyl, hyb, hs2, hg2⟩
  have z2 := hg2.size
  have hb02 := below_src hb01 hg2 (by omega)
  have q2' := q2.kept hg2 (by simp)
  have q3' := q3.kept hg2 (by simp)
  obtain ⟨af, kf, rfl, -⟩ := o2.shape
  have O2 := hid o2
  have Q2 := hid q2'
  have Q3 := hid q3'
  have HYB := hid hyb
  clear hg2 hs1' q2 q3 hb01 o2 q2' q3' hyb
  have NB : ∀ o, Below w2.heap.size w2 (w2.alloc o) := fun o => (Below.refl _ _).alloc (Nat.le_refl _) o
  go_wp2_with fail
  refine (l3Bent_any w.heap.size (w.heap.size + 2) (0 + 1100) w2.heap.size w1.heap.size w2.heap.size af ys.length kf ys _ (hs2.alloc _) (by omega) (by simp; omega) (by simp [go_sem]) (O2.out.below (NB _)) (by omega) (by omega) (by simp) hyl HYB.out).mono ?_
  rintro e w3 ⟨u, z, v3, bs, rfl, hsb, o3, hs3, hg3⟩
  have z3 := hg3.size
  rw [World.size_alloc] at z3 o3
  have hb03 := (hb02.trans ((NB _).mono hb02.size)).grown hg3 (by have := hb02.size; simp; omega) (fun j hj => by cases hj; omega)
  have bf3 := (Blk.new w2 #[.slice af ys.length kf] 28).kept hg3 (by simp; omega)
  have q23 := (Q2.out.alloc _).kept hg3 (by simp)
  have q33 := (Q3.out.alloc _).kept hg3 (by simp)
  have o23 := RowI.chg (O2.out.below (NB _)) (Chg.one hg3) (.inr (by omega))
  obtain ⟨ax, kx, rfl, -, -⟩ := o3.shape
  have n3 : Below w3.heap.size w3 (w3.alloc (.cells #[.int .i64 u, .int .i64 z, .slice ax bs.length kx] 26)) := (Below.refl _ _).alloc (Nat.le_refl _) _
  have HS3 := hid (hs3.alloc (.cells #[.int .i64 u, .int .i64 z, .slice ax bs.length kx] 26))
  have BF3 := hid (bf3.alloc (.cells #[.int .i64 u, .int .i64 z, .slice ax bs.length kx] 26))
  have BX3 := hid (Blk.new w3 #[.int .i64 u, .int .i64 z, .slice ax bs.length kx] 26)
  have Q23 := hid (q23.alloc (.cells #[.int .i64 u, .int .i64 z, .slice ax bs.length kx] 26))
  have Q33 := hid (q33.alloc (.cells #[.int .i64 u, .int .i64 z, .slice ax bs.length kx] 26))
  have RF3 := hid (o23.below n3)
  have RX3 := hid (o3.below n3)
  have BW3 := hid (hb03.trans (n3.mono hb03.size))
  have HSB := hid hsb
  have z3' : (w3.alloc (.cells #[.int .i64 u, .int .i64 z, .slice ax bs.length kx] 26)).heap.size = w3.heap.size + 1 := by simp
  clear bf3 q23 q33 o23 o3 hs3 hg3 hb03 hs2 O2 Q2 Q3 hb02 NB n3 hsb
  go_wp2_with fail
  refine (l1Chance_any w.heap.size (w.heap.size + 2) (0 + 1100 + 16) 8 _ HS3.out (by omega) (by omega)).mono ?_
  rintro e w4 ⟨q, rfl, hs4, hg4⟩
  have z4 := hg4.size
  have BF := hid (BF3.out.kept hg4 (by simp; omega))
  have BX := hid (BX3.out.kept hg4 (by simp; omega))
  have R2 := hid (Q23.out.kept hg4 (by simp))
  have R3 := hid (Q33.out.kept hg4 (by simp))
  have RF := hid ((RowI.chg RF3.out (Chg.one hg4) (.inr (by omega))).mono (show w.heap.size + 3 ≤ w1.heap.size by omega) (show w2.heap.size ≤ w4.heap.size by omega))
  have RX := hid ((RowB.chg RX3.out (Chg.one hg4) (.inr (by omega))).mono (show w.heap.size + 3 ≤ w2.heap.size + 1 by omega) (show w3.heap.size ≤ w4.heap.size by omega))
  have BW := hid (below_src BW3.out hg4 (by omega))
  obtain ⟨fb, hfbe⟩ : ∃ fb, fb = w2.heap.size := ⟨_, rfl⟩
  obtain ⟨xb, hxbe⟩ : ∃ xb, xb = w3.heap.size := ⟨_, rfl⟩
  have hfb3 : w.heap.size + 3 ≤ fb := by omega
  have hxb3 : fb < xb := by omega
  have hxw : xb < w4.heap.size := by omega
  rw [← hfbe, ← hxbe]
  rw [← hfbe] at BF
  rw [← hxbe] at BX
  have HS4 := hid hs4
  clear BF3 BX3 Q23 Q33 RF3 RX3 BW3 HS3 hs4 hg4 z3' hfbe hxbe
  cases q with
  | false =>
    have hWW : w.heap.size + 3 ≤ w4.heap.size := by omega
    go_wp2_with fail
    have x0 : w4.cell? ⟨xb, 0, none⟩ = some (.int .i64 u) := by have q := BX.out.cell 0; simpa using q
    have x1 : w4.cell? ⟨xb, 1, none⟩ = some (.int .i64 z) := by have q := BX.out.cell 1; simpa using q
    have x2 : w4.cell? ⟨xb, 2, none⟩ = some (.slice ax bs.length kx) := by have q := BX.out.cell 2; simpa using q
    have x3 : w4.cell? ⟨fb, 0, none⟩ = some (.slice af ys.length kf) := by have q := BF.out.cell 0; simpa using q
    have HR2 := hid (show Blk w4.drew w.heap.size #[.int .i64 0, .int .i64 0, .slice none 0 0] 26 from R2.out)
    have HR3 := hid (show Blk w4.drew (w.heap.size + 1) #[.slice none 0 0] 28 from R3.out)
    have HRX := hid (show RowB 93 5 w4.drew (w.heap.size + 3) w4.drew.heap.size (.slice ax bs.length kx) bs.length bs from RX.out.below ((Below.refl _ _).drew))
    have HRF := hid (show RowI .u8 5 w4.drew (w.heap.size + 3) w4.drew.heap.size (.slice af ys.length kf) ys.length ys from RF.out.below ((Below.refl _ _).drew))
    have HBW := hid (show Below w.heap.size w w4.drew from BW.out.drew)
    have hWz : w.heap.size + 3 ≤ w4.drew.heap.size := hWW
    refine wp_region_held_drew (S := fun w' => w'.cell? ⟨xb, 0, none⟩ = some (.int .i64 u) ∧ w'.cell? ⟨xb, 1, none⟩ = some (.int .i64 z) ∧ w'.cell? ⟨xb, 2, none⟩ = some (.slice ax bs.length kx) ∧ w'.cell? ⟨fb, 0, none⟩ = some (.slice af ys.length kf)) (by kernel_rfl) (by exact ⟨x0, x1, x2, x3⟩) (fun hS => ?_)
    generalize w4.drew = WD at *
    clear x0 x1 x2 x3 R2 R3 RX RF BW BX BF
    refine wpAnyH_take (i := 0) (v := (.agg #[.int .i64 u, .int .i64 z, .slice ax bs.length kx])) rfl (by as_aux_lemma => kernel_rfl) (by as_aux_lemma => kernel_rfl) (by as_aux_lemma => kernel_rfl) (fun _ _ _ h => h) (Or.inl ⟨by kernel_rfl, ?_⟩) hS ?_
    · intro w hSw; (try dsimp only at hSw); go_simp
    simp only [Act.put, List.getElem_toArray, List.getElem_cons_zero, List.getElem_cons_succ, List.setIfInBounds_toArray, List.set_cons_zero, List.set_cons_succ]
    refine wpAnyH_take (i := 1) (v := (.agg #[.slice af ys.length kf])) rfl (by as_aux_lemma => kernel_rfl) (by as_aux_lemma => kernel_rfl) (by as_aux_lemma => kernel_rfl) (fun _ _ _ h => h) (Or.inl ⟨by kernel_rfl, ?_⟩) hS ?_
    · intro w hSw; (try dsimp only at hSw); go_simp
    simp only [Act.put, List.getElem_toArray, List.getElem_cons_zero, List.getElem_cons_succ, List.setIfInBounds_toArray, List.set_cons_zero, List.set_cons_succ]
    refine wpAnyH_ready (rs := [2]) (by as_aux_lemma => kernel_rfl) (by simp) ?_
    refine AllReadyH.cons rfl (fun K hK => ?_) AllReadyH.nil
    have y0 := HR2.out.cell 0
    have y1 := HR2.out.cell 1
    have y2 := HR2.out.cell 2
    have yf0 := HR2.out.frozen 0
    have yf1 := HR2.out.frozen 1
    have yf2 := HR2.out.frozen 2
    simp at y0 y1 y2
    go_simp
    have gA : WD.grownBy (((WD.setCell ⟨w.heap.size, 0, none⟩ (.int .i64 u)).setCell ⟨w.heap.size, 1, none⟩ (.int .i64 z)).setCell ⟨w.heap.size, 2, none⟩ (.slice ax bs.length kx)) (some w.heap.size) := grownT (grownT (set_grown _ _ _ _) (set_grown _ _ _ _)) (set_grown _ _ _ _)
    have rA := ((HR2.out.set (i := 0) (.int .i64 u)).set (i := 1) (.int .i64 z)).set (i := 2) (.slice ax bs.length kx)
    have rB := Blk.kept HR3.out gA (by simp)
    clear y0 y1 y2 yf0 yf1 yf2
    refine hK.out _ _ ⟨grown_cell gA hS.1 (fun j hj => by cases hj; simp only; omega), grown_cell gA hS.2.1 (fun j hj => by cases hj; simp only; omega), grown_cell gA hS.2.2.1 (fun j hj => by cases hj; simp only; omega), grown_cell gA hS.2.2.2 (fun j hj => by cases hj; simp only; omega)⟩ (fun hS => ?_)
    clear hK K
    (try simp only [Act.put, List.getElem_toArray, List.getElem_cons_zero, List.getElem_cons_succ, List.setIfInBounds_toArray, List.set_cons_zero, List.set_cons_succ])
    refine wpAnyH_ready (rs := [3]) (by as_aux_lemma => kernel_rfl) (by simp) ?_
    refine AllReadyH.cons rfl (fun K hK => ?_) AllReadyH.nil
    have z0 := rB.cell 0
    have zf0 := rB.frozen 0
    simp at z0
    go_simp
    have gB := set_grown (((WD.setCell ⟨w.heap.size, 0, none⟩ (.int .i64 u)).setCell ⟨w.heap.size, 1, none⟩ (.int .i64 z)).setCell ⟨w.heap.size, 2, none⟩ (.slice ax bs.length kx)) (w.heap.size + 1) 0 (.slice af ys.length kf)
    have rC := rB.set (i := 0) (.slice af ys.length kf)
    have rD := Blk.kept rA gB (by simp)
    clear z0 zf0
    refine hK.out _ _ ⟨grown_cell gB hS.1 (fun j hj => by cases hj; simp only; omega), grown_cell gB hS.2.1 (fun j hj => by cases hj; simp only; omega), grown_cell gB hS.2.2.1 (fun j hj => by cases hj; simp only; omega), grown_cell gB hS.2.2.2 (fun j hj => by cases hj; simp only; omega)⟩ (fun hS => ?_)
    clear hK K
    (try simp only [Act.put, List.getElem_toArray, List.getElem_cons_zero, List.getElem_cons_succ, List.setIfInBounds_toArray, List.set_cons_zero, List.set_cons_succ])
    refine wpAnyH_done (by kernel_rfl) ?_ _
    have e0 := rD.cell 0
    have e1 := rD.cell 1
    have e2 := rD.cell 2
    have e3 := rC.cell 0
    simp at e0 e1 e2 e3
    have hC : Chg w.heap.size (w.heap.size + 2) WD ((((WD.setCell ⟨w.heap.size, 0, none⟩ (.int .i64 u)).setCell ⟨w.heap.size, 1, none⟩ (.int .i64 z)).setCell ⟨w.heap.size, 2, none⟩ (.slice ax bs.length kx)).setCell ⟨w.heap.size + 1, 0, none⟩ (.slice af ys.length kf)) := ((Chg.one gA).mono (by omega) (by omega)).trans ((Chg.one gB).mono (by omega) (by omega))
    have hzV := hC.size
    generalize ((((WD.setCell ⟨w.heap.size, 0, none⟩ (.int .i64 u)).setCell ⟨w.heap.size, 1, none⟩ (.int .i64 z)).setCell ⟨w.heap.size, 2, none⟩ (.slice ax bs.length kx)).setCell ⟨w.heap.size + 1, 0, none⟩ (.slice af ys.length kf)) = WE at *
    go_wp2
    refine bodyPost_ret (v := .tuple #[.agg #[.int .i64 u, .int .i64 z, .slice ax bs.length kx], .agg #[.slice af ys.length kf]]) (by simp [results, Try.results43, go_sem, e0, e1, e2, e3]) rfl ⟨u, z, .slice ax bs.length kx, bs, .slice af ys.length kf, ys, rfl, HSB.out, ?_, ?_, hyl, HYB.out, ?_⟩
    · exact (RowB.chg HRX.out hC (.inr (by omega))).mono (by omega) hzV
    · exact (RowI.chg HRF.out hC (.inr (by omega))).mono (by omega) hzV
    · exact below_chg HBW.out hC (by omega) (by omega)
  | true =>
    go_wp2_with fail
    refine (l2Draw_any w.heap.size (w.heap.size + 2) _ w4 HS4.out (by omega)).mono ?_
    rintro e w5 ⟨v5, zs, rfl, o5, hzl, hzb, hs5, hg5⟩
    obtain ⟨ag, kg, rfl, -⟩ := o5.shape
    have z5 := hg5.size
    have hg6 := set_grown w5 fb 0 (.slice ag zs.length kg)
    have bf5 := BF.out.kept hg5 (by simp; omega)
    have g0 := bf5.cell 0
    have gf0 := bf5.frozen 0
    simp at g0
    have bx5 := BX.out.kept hg5 (by simp; omega)
    have RX := hid ((RowB.apart (RowB.chg RX.out (Chg.one hg5) (.inr (by omega))) bf5 (by decide) (by decide) hg6).mono (Nat.le_refl _) (Nat.le_trans z5 hg6.size))
    have RF := hid ((RowI.apart o5 bf5 (by decide) hg6).mono (show w.heap.size + 3 ≤ w4.heap.size by omega) hg6.size)
    have BX := hid (bx5.kept hg6 (by simp; omega))
    have R2 := hid ((R2.out.kept hg5 (by simp)).kept hg6 (by simp; omega))
    have R3 := hid ((R3.out.kept hg5 (by simp)).kept hg6 (by simp; omega))
    have BW := hid (below_chg (below_src BW.out hg5 (by omega)) (Chg.one hg6) (by omega) (by omega))
    have BF := hid (show Blk (w5.setCell ⟨fb, 0, none⟩ (.slice ag zs.length kg)) fb #[.slice ag zs.length kg] 28 from by simpa using bf5.set (i := 0) (.slice ag zs.length kg))
    have HYB := hid hzb
    have hyl : zs.length ≤ 401 := by omega
    have hWW : w.heap.size + 3 ≤ (w5.setCell ⟨fb, 0, none⟩ (.slice ag zs.length kg)).heap.size := by have := hg6.size; omega
    clear hg6 bf5 bx5 o5 hs5 hg5 HS4 hzb
    go_wp2_with fail
    clear g0 gf0
    have x0 : (w5.setCell ⟨fb, 0, none⟩ (.slice ag zs.length kg)).cell? ⟨xb, 0, none⟩ = some (.int .i64 u) := by have q := BX.out.cell 0; simpa using q
    have x1 : (w5.setCell ⟨fb, 0, none⟩ (.slice ag zs.length kg)).cell? ⟨xb, 1, none⟩ = some (.int .i64 z) := by have q := BX.out.cell 1; simpa using q
    have x2 : (w5.setCell ⟨fb, 0, none⟩ (.slice ag zs.length kg)).cell? ⟨xb, 2, none⟩ = some (.slice ax bs.length kx) := by have q := BX.out.cell 2; simpa using q
    have x3 : (w5.setCell ⟨fb, 0, none⟩ (.slice ag zs.length kg)).cell? ⟨fb, 0, none⟩ = some (.slice ag zs.length kg) := by have q := BF.out.cell 0; simpa using q
    have HR2 := hid (show Blk (w5.setCell ⟨fb, 0, none⟩ (.slice ag zs.length kg)).drew w.heap.size #[.int .i64 0, .int .i64 0, .slice none 0 0] 26 from R2.out)
    have HR3 := hid (show Blk (w5.setCell ⟨fb, 0, none⟩ (.slice ag zs.length kg)).drew (w.heap.size + 1) #[.slice none 0 0] 28 from R3.out)
    have HRX := hid (show RowB 93 5 (w5.setCell ⟨fb, 0, none⟩ (.slice ag zs.length kg)).drew (w.heap.size + 3) (w5.setCell ⟨fb, 0, none⟩ (.slice ag zs.length kg)).drew.heap.size (.slice ax bs.length kx) bs.length bs from RX.out.below ((Below.refl _ _).drew))
    have HRF := hid (show RowI .u8 5 (w5.setCell ⟨fb, 0, none⟩ (.slice ag zs.length kg)).drew (w.heap.size + 3) (w5.setCell ⟨fb, 0, none⟩ (.slice ag zs.length kg)).drew.heap.size (.slice ag zs.length kg) zs.length zs from RF.out.below ((Below.refl _ _).drew))
    have HBW := hid (show Below w.heap.size w (w5.setCell ⟨fb, 0, none⟩ (.slice ag zs.length kg)).drew from BW.out.drew)
    have hWz : w.heap.size + 3 ≤ (w5.setCell ⟨fb, 0, none⟩ (.slice ag zs.length kg)).drew.heap.size := hWW
    refine wp_region_held_drew (S := fun w' => w'.cell? ⟨xb, 0, none⟩ = some (.int .i64 u) ∧ w'.cell? ⟨xb, 1, none⟩ = some (.int .i64 z) ∧ w'.cell? ⟨xb, 2, none⟩ = some (.slice ax bs.length kx) ∧ w'.cell? ⟨fb, 0, none⟩ = some (.slice ag zs.length kg)) (by kernel_rfl) (by exact ⟨x0, x1, x2, x3⟩) (fun hS => ?_)
    generalize (w5.setCell ⟨fb, 0, none⟩ (.slice ag zs.length kg)).drew = WD at *
    clear x0 x1 x2 x3 R2 R3 RX RF BW BX BF
    refine wpAnyH_take (i := 0) (v := (.agg #[.int .i64 u, .int .i64 z, .slice ax bs.length kx])) rfl (by as_aux_lemma => kernel_rfl) (by as_aux_lemma => kernel_rfl) (by as_aux_lemma => kernel_rfl) (fun _ _ _ h => h) (Or.inl ⟨by kernel_rfl, ?_⟩) hS ?_
    · intro w hSw; (try dsimp only at hSw); go_simp
    simp only [Act.put, List.getElem_toArray, List.getElem_cons_zero, List.getElem_cons_succ, List.setIfInBounds_toArray, List.set_cons_zero, List.set_cons_succ]
    refine wpAnyH_take (i := 1) (v := (.agg #[.slice ag zs.length kg])) rfl (by as_aux_lemma => kernel_rfl) (by as_aux_lemma => kernel_rfl) (by as_aux_lemma => kernel_rfl) (fun _ _ _ h => h) (Or.inl ⟨by kernel_rfl, ?_⟩) hS ?_
    · intro w hSw; (try dsimp only at hSw); go_simp
    simp only [Act.put, List.getElem_toArray, List.getElem_cons_zero, List.getElem_cons_succ, List.setIfInBounds_toArray, List.set_cons_zero, List.set_cons_succ]
    refine wpAnyH_ready (rs := [2]) (by as_aux_lemma => kernel_rfl) (by simp) ?_
    refine AllReadyH.cons rfl (fun K hK => ?_) AllReadyH.nil
    have y0 := HR2.out.cell 0
    have y1 := HR2.out.cell 1
    have y2 := HR2.out.cell 2
    have yf0 := HR2.out.frozen 0
    have yf1 := HR2.out.frozen 1
    have yf2 := HR2.out.frozen 2
    simp at y0 y1 y2
    go_simp
    have gA : WD.grownBy (((WD.setCell ⟨w.heap.size, 0, none⟩ (.int .i64 u)).setCell ⟨w.heap.size, 1, none⟩ (.int .i64 z)).setCell ⟨w.heap.size, 2, none⟩ (.slice ax bs.length kx)) (some w.heap.size) := grownT (grownT (set_grown _ _ _ _) (set_grown _ _ _ _)) (set_grown _ _ _ _)
    have rA := ((HR2.out.set (i := 0) (.int .i64 u)).set (i := 1) (.int .i64 z)).set (i := 2) (.slice ax bs.length kx)
    have rB := Blk.kept HR3.out gA (by simp)
    clear y0 y1 y2 yf0 yf1 yf2
    refine hK.out _ _ ⟨grown_cell gA hS.1 (fun j hj => by cases hj; simp only; omega), grown_cell gA hS.2.1 (fun j hj => by cases hj; simp only; omega), grown_cell gA hS.2.2.1 (fun j hj => by cases hj; simp only; omega), grown_cell gA hS.2.2.2 (fun j hj => by cases hj; simp only; omega)⟩ (fun hS => ?_)
    clear hK K
    (try simp only [Act.put, List.getElem_toArray, List.getElem_cons_zero, List.getElem_cons_succ, List.setIfInBounds_toArray, List.set_cons_zero, List.set_cons_succ])
    refine wpAnyH_ready (rs := [3]) (by as_aux_lemma => kernel_rfl) (by simp) ?_
    refine AllReadyH.cons rfl (fun K hK => ?_) AllReadyH.nil
    have z0 := rB.cell 0
    have zf0 := rB.frozen 0
    simp at z0
    go_simp
    have gB := set_grown (((WD.setCell ⟨w.heap.size, 0, none⟩ (.int .i64 u)).setCell ⟨w.heap.size, 1, none⟩ (.int .i64 z)).setCell ⟨w.heap.size, 2, none⟩ (.slice ax bs.length kx)) (w.heap.size + 1) 0 (.slice ag zs.length kg)
    have rC := rB.set (i := 0) (.slice ag zs.length kg)
    have rD := Blk.kept rA gB (by simp)
    clear z0 zf0
    refine hK.out _ _ ⟨grown_cell gB hS.1 (fun j hj => by cases hj; simp only; omega), grown_cell gB hS.2.1 (fun j hj => by cases hj; simp only; omega), grown_cell gB hS.2.2.1 (fun j hj => by cases hj; simp only; omega), grown_cell gB hS.2.2.2 (fun j hj => by cases hj; simp only; omega)⟩ (fun hS => ?_)
    clear hK K
    (try simp only [Act.put, List.getElem_toArray, List.getElem_cons_zero, List.getElem_cons_succ, List.setIfInBounds_toArray, List.set_cons_zero, List.set_cons_succ])
    refine wpAnyH_done (by kernel_rfl) ?_ _
    have e0 := rD.cell 0
    have e1 := rD.cell 1
    have e2 := rD.cell 2
    have e3 := rC.cell 0
    simp at e0 e1 e2 e3
    have hC : Chg w.heap.size (w.heap.size + 2) WD ((((WD.setCell ⟨w.heap.size, 0, none⟩ (.int .i64 u)).setCell ⟨w.heap.size, 1, none⟩ (.int .i64 z)).setCell ⟨w.heap.size, 2, none⟩ (.slice ax bs.length kx)).setCell ⟨w.heap.size + 1, 0, none⟩ (.slice ag zs.length kg)) := ((Chg.one gA).mono (by omega) (by omega)).trans ((Chg.one gB).mono (by omega) (by omega))
    have hzV := hC.size
    generalize ((((WD.setCell ⟨w.heap.size, 0, none⟩ (.int .i64 u)).setCell ⟨w.heap.size, 1, none⟩ (.int .i64 z)).setCell ⟨w.heap.size, 2, none⟩ (.slice ax bs.length kx)).setCell ⟨w.heap.size + 1, 0, none⟩ (.slice ag zs.length kg)) = WE at *
    go_wp2
    refine bodyPost_ret (v := .tuple #[.agg #[.int .i64 u, .int .i64 z, .slice ax bs.length kx], .agg #[.slice ag zs.length kg]]) (by simp [results, Try.results43, go_sem, e0, e1, e2, e3]) rfl ⟨u, z, .slice ax bs.length kx, bs, .slice ag zs.length kg, zs, rfl, HSB.out, ?_, ?_, hyl, HYB.out, ?_⟩
    · exact (RowB.chg HRX.out hC (.inr (by omega))).mono (by omega) hzV
    · exact (RowI.chg HRF.out hC (.inr (by omega))).mono (by omega) hzV
    · exact below_chg HBW.out hC (by omega) (by omega)
end Go.Proofs.Ytckkkhabjfbngaa

namespace Go.Proofs.Ytckkkhabjfbngaa
open Go.RowKit
set_option linter.unusedVariables false

set_option maxHeartbeats 400000 in
theorem l1Later_any (a : Option Addr) (n ca k : Nat) (xs : List Int) (B : Nat) (w : World) (ha : Rd .u8 w a n xs) (hB : Bytes xs) (hn : n ≤ 1048576) (hb : n = 0 ∨ ∃ b' off, a = some ⟨b', off, none⟩ ∧ b' < B) (hBw : B ≤ w.heap.size) (hk : k ≤ 100) :
    Calls Try.prog 44 #[.slice a n ca, .int .i64 k] w fun e w' => e = .returned (.pointer (some ⟨w.heap.size, 0, none⟩)) ∧ Src w' B w.heap.size (5 + 7 * k) ∧ Below w.heap.size w w' := by
  have hw1 : IntKind.i64.wrap (7 * (k : Int)) = 7 * k := by rw [IntKind.wrap_i64] <;> omega
  have hw2 : IntKind.i64.wrap (5 + 7 * (k : Int)) = 5 + 7 * k := by rw [IntKind.wrap_i64] <;> omega
  go_enter Try.func44, Try.ntmps44
  go_wp2
  go_ret
  have hbw : Below w.heap.size w (w.alloc (.cells #[.slice a n ca, .int .i64 (5 + 7 * (k : Int))] 117)) := (Below.refl _ _).alloc (Nat.le_refl _) _
  exact ⟨rfl, ⟨hBw, a, n, ca, xs, 5 + 7 * k, by simp, by simp, by simp, ha.below hbw, hB, hn, by omega, by omega, hb⟩, hbw⟩
end Go.Proofs.Ytckkkhabjfbngaa

namespace Go.Proofs.Ytckkkhabjfbngaa
open Go.RowKit Go.ChangeMaps Go.MapKept
set_option linter.unusedVariables false
set_option linter.unusedSimpArgs false

set_option maxRecDepth 20000 in
set_option maxHeartbeats 6400000 in
theorem DrawFetchBlock_any (a : Option Addr) (n ca : Nat) (xs : List Int) (w : World) (ha : Rd .u8 w a n xs) (hB : Bytes xs) (hn : n ≤ 1048576) :
    Calls Try.prog 12 #[.slice a n ca] w fun e w' => ∃ u z va bs vf ys num M, e = .returned (.tuple #[.agg #[.int .i64 u, .int .i64 z, va], .agg #[vf], .int .i64 num, .int .i64 M]) ∧ (BytesB bs ∧ SmallB bs) ∧ RowB 93 5 w' w.heap.size w'.heap.size va bs.length bs ∧ RowI .u8 5 w' w.heap.size w'.heap.size vf ys.length ys ∧ ys.length ≤ 401 ∧ Bytes ys ∧ Below w.heap.size w w' := by
  have hbt : ∀ o1 o2, Below w.heap.size w ((w.alloc o1).alloc o2) := fun o1 o2 => ((Below.refl _ _).alloc (Nat.le_refl _) o1).alloc (by simp) o2
  go_enter Try.func12, Try.ntmps12
  go_wp2_with fail
  refine (l3With_any a n ca xs _ (ha.below (hbt _ _)) hB hn).mono ?_
  rintro e w1 ⟨u, z, va, bs, vf, ys, rfl, hsb, ox, of, hyl, hyb, hb1⟩
  have hb01 := (hbt _ _).trans (hb1.mono (by simp; omega))
  obtain ⟨ax, kx, rfl, -, -⟩ := ox.shape
  obtain ⟨af, kf, rfl, -, -⟩ := of.shape
  simp only [World.size_alloc] at ox of
  have s1 : w.heap.size + 2 ≤ w1.heap.size := by have := hb1.size; simp at this; omega
  have q2 : Blk w1 w.heap.size #[.int .i64 0, .int .i64 0, .slice none 0 0] 26 := ((Blk.new w _ _).alloc _).below hb1
  have q3 : Blk w1 (w.heap.size + 1) #[.slice none 0 0] 28 := by
    have := (Blk.new (w.alloc (.cells #[.int .i64 0, .int .i64 0, .slice none 0 0] 26)) #[.slice none 0 0] 28).below hb1
    simpa using this
  have OX := hid ox
  have OF := hid of
  have Q2 := hid q2
  have Q3 := hid q3
  have HSB := hid hsb
  have HYB := hid hyb
  clear ox of hb1 q2 q3 hsb hyb
  have N2 : ∀ o1 o2, Below w1.heap.size w1 ((w1.alloc o1).alloc o2) := fun o1 o2 => ((Below.refl _ _).alloc (Nat.le_refl _) o1).alloc (by simp) o2
  go_wp2_with fail
  refine (l1Later_any a n ca 3 xs w.heap.size _ ((ha.below hb01).below (N2 _ _)) hB hn (src_below ha) (by simp; omega) (by omega)).mono ?_
  rintro e w2 ⟨rfl, hs2, hb2⟩
  have hb12 := (N2 _ _).trans (hb2.mono (by simp; omega))
  have bx := ((Blk.new w1 #[.int .i64 u, .int .i64 z, .slice ax bs.length kx] 26).alloc (.cells #[.slice af ys.length kf] 28)).below hb2
  have bf := (Blk.new (w1.alloc (.cells #[.int .i64 u, .int .i64 z, .slice ax bs.length kx] 26)) #[.slice af ys.length kf] 28).below hb2
  rw [World.size_alloc] at bf
  have hs2' : Src w2 w.heap.size (w1.heap.size + 2) 26 := by simpa using hs2
  rw [show ((w1.alloc (.cells #[.int .i64 u, .int .i64 z, .slice ax bs.length kx] 26)).alloc (.cells #[.slice af ys.length kf] 28)).heap.size = w1.heap.size + 2 by simp]
  have hb02 := hb01.trans (hb12.mono hb01.size)
  have hz2 := hs2'.lt
  have x0 : w2.cell? ⟨w1.heap.size, 0, none⟩ = some (.int .i64 u) := by have q := bx.cell 0; simpa using q
  have x1 : w2.cell? ⟨w1.heap.size, 1, none⟩ = some (.int .i64 z) := by have q := bx.cell 1; simpa using q
  have x2 : w2.cell? ⟨w1.heap.size, 2, none⟩ = some (.slice ax bs.length kx) := by have q := bx.cell 2; simpa using q
  have x3 : w2.cell? ⟨w1.heap.size + 1, 0, none⟩ = some (.slice af ys.length kf) := by have q := bf.cell 0; simpa using q
  have hdr : w2.grownBy w2.drew none := ⟨rfl, rfl, rfl, Nat.le_refl _, fun _ _ _ => rfl⟩
  have HSD := hid (show Src w2.drew w.heap.size (w1.heap.size + 2) 26 from hs2'.kept hdr (by simp))
  have HR2 := hid (show Blk w2.drew w.heap.size #[.int .i64 0, .int .i64 0, .slice none 0 0] 26 from show Blk w2 w.heap.size #[.int .i64 0, .int .i64 0, .slice none 0 0] 26 from Q2.out.below hb12)
  have HR3 := hid (show Blk w2.drew (w.heap.size + 1) #[.slice none 0 0] 28 from show Blk w2 (w.heap.size + 1) #[.slice none 0 0] 28 from Q3.out.below hb12)
  have HRX := hid (show RowB 93 5 w2.drew (w.heap.size + 2) w1.heap.size (.slice ax bs.length kx) bs.length bs from (OX.out.below hb12).below ((Below.refl _ _).drew))
  have HRF := hid (show RowI .u8 5 w2.drew (w.heap.size + 2) w1.heap.size (.slice af ys.length kf) ys.length ys from (OF.out.below hb12).below ((Below.refl _ _).drew))
  have HBW := hid (show Below w.heap.size w w2.drew from hb02.drew)
  have hDz : w1.heap.size + 2 < w2.drew.heap.size := hz2
  clear hs2 hs2' hb2 hb12 hb02 hb01 bx bf hdr OX OF Q2 Q3 N2 hbt
  go_wp2_with fail
  refine wp_region_held_drew (S := fun w' => w'.cell? ⟨w1.heap.size, 0, none⟩ = some (.int .i64 u) ∧ w'.cell? ⟨w1.heap.size, 1, none⟩ = some (.int .i64 z) ∧ w'.cell? ⟨w1.heap.size, 2, none⟩ = some (.slice ax bs.length kx) ∧ w'.cell? ⟨w1.heap.size + 1, 0, none⟩ = some (.slice af ys.length kf)) (by kernel_rfl) (by exact ⟨x0, x1, x2, x3⟩) (fun hS => ?_)
  generalize w2.drew = D at *
  clear x0 x1 x2 x3
  generalize w1.heap.size = cb at *
  generalize hfb : cb + 1 = fb at hS ⊢
  generalize hb : cb + 2 = b at HSD hDz ⊢
  have hb1 : b ≤ cb + 2 := by omega
  have hb2 : cb + 2 ≤ b := by omega
  have hf1 : fb ≤ cb + 1 := by omega
  have hf2 : cb + 1 ≤ fb := by omega
  clear hb hfb
  refine wpAnyH_take (i := 0) (v := (.agg #[.int .i64 u, .int .i64 z, .slice ax bs.length kx])) rfl (by as_aux_lemma => kernel_rfl) (by as_aux_lemma => kernel_rfl) (by as_aux_lemma => kernel_rfl) (fun _ _ _ h => h) (Or.inl ⟨by kernel_rfl, ?_⟩) hS ?_
  · intro w hSw; (try dsimp only at hSw); go_simp; try (rw [IntKind.wrap_i64] <;> omega)
  simp only [Act.put, List.getElem_toArray, List.getElem_cons_zero, List.getElem_cons_succ, List.setIfInBounds_toArray, List.set_cons_zero, List.set_cons_succ]
  refine wpAnyH_take (i := 1) (v := (.agg #[.slice af ys.length kf])) rfl (by as_aux_lemma => kernel_rfl) (by as_aux_lemma => kernel_rfl) (by as_aux_lemma => kernel_rfl) (fun _ _ _ h => h) (Or.inl ⟨by kernel_rfl, ?_⟩) hS ?_
  · intro w hSw; (try dsimp only at hSw); go_simp; try (rw [IntKind.wrap_i64] <;> omega)
  simp only [Act.put, List.getElem_toArray, List.getElem_cons_zero, List.getElem_cons_succ, List.setIfInBounds_toArray, List.set_cons_zero, List.set_cons_succ]
  refine wpAnyH_take (i := 2) (v := (.pointer (some ⟨b, 0, none⟩))) rfl (by as_aux_lemma => kernel_rfl) (by as_aux_lemma => kernel_rfl) (by as_aux_lemma => kernel_rfl) (fun _ _ _ h => h) (Or.inl ⟨by kernel_rfl, ?_⟩) hS ?_
  · intro w hSw; (try dsimp only at hSw); go_simp; try (rw [IntKind.wrap_i64] <;> omega)
  simp only [Act.put, List.getElem_toArray, List.getElem_cons_zero, List.getElem_cons_succ, List.setIfInBounds_toArray, List.set_cons_zero, List.set_cons_succ]
  refine wpAnyH_take (i := 3) (v := (.pointer (some ⟨b, 0, none⟩))) rfl (by as_aux_lemma => kernel_rfl) (by as_aux_lemma => kernel_rfl) (by as_aux_lemma => kernel_rfl) (fun _ _ _ h => h) (Or.inl ⟨by kernel_rfl, ?_⟩) hS ?_
  · intro w hSw; (try dsimp only at hSw); go_simp; try (rw [IntKind.wrap_i64] <;> omega)
  simp only [Act.put, List.getElem_toArray, List.getElem_cons_zero, List.getElem_cons_succ, List.setIfInBounds_toArray, List.set_cons_zero, List.set_cons_succ]
  refine wpAnyH_take (i := 5) (v := (.pointer (some ⟨b, 0, none⟩))) rfl (by as_aux_lemma => kernel_rfl) (by as_aux_lemma => kernel_rfl) (by as_aux_lemma => kernel_rfl) (fun _ _ _ h => h) (Or.inl ⟨by kernel_rfl, ?_⟩) hS ?_
  · intro w hSw; (try dsimp only at hSw); go_simp; try (rw [IntKind.wrap_i64] <;> omega)
  simp only [Act.put, List.getElem_toArray, List.getElem_cons_zero, List.getElem_cons_succ, List.setIfInBounds_toArray, List.set_cons_zero, List.set_cons_succ]
  refine wpAnyH_take (i := 9) (v := (.pointer (some ⟨b, 0, none⟩))) rfl (by as_aux_lemma => kernel_rfl) (by as_aux_lemma => kernel_rfl) (by as_aux_lemma => kernel_rfl) (fun _ _ _ h => h) (Or.inl ⟨by kernel_rfl, ?_⟩) hS ?_
  · intro w hSw; (try dsimp only at hSw); go_simp; try (rw [IntKind.wrap_i64] <;> omega)
  simp only [Act.put, List.getElem_toArray, List.getElem_cons_zero, List.getElem_cons_succ, List.setIfInBounds_toArray, List.set_cons_zero, List.set_cons_succ]
  refine wpAnyH_take (i := 10) (v := (.pointer (some ⟨b, 0, none⟩))) rfl (by as_aux_lemma => kernel_rfl) (by as_aux_lemma => kernel_rfl) (by as_aux_lemma => kernel_rfl) (fun _ _ _ h => h) (Or.inl ⟨by kernel_rfl, ?_⟩) hS ?_
  · intro w hSw; (try dsimp only at hSw); go_simp; try (rw [IntKind.wrap_i64] <;> omega)
  simp only [Act.put, List.getElem_toArray, List.getElem_cons_zero, List.getElem_cons_succ, List.setIfInBounds_toArray, List.set_cons_zero, List.set_cons_succ]
  refine wpAnyH_ready (rs := [4]) (by as_aux_lemma => kernel_rfl) (by simp) ?_
  refine AllReadyH.cons rfl (fun K hK => ?_) AllReadyH.nil
  go_simp
  refine (l1Next_any w.heap.size b 26 9 D HSD.out (by omega) (by omega)).mono ?_
  rintro e w3 ⟨q1, rfl, hq1, hs1, hg1⟩
  obtain ⟨hq1a, hq1b⟩ := hq1.2 (by omega)
  have gg1 := grown_trans (World.grownBy.refl D (some b)) hg1
  have hzg1 := gg1.size
  refine hK.out _ _ ⟨grown_cell hg1 hS.1 (fun j hj => by cases hj; simp only; omega), grown_cell hg1 hS.2.1 (fun j hj => by cases hj; simp only; omega), grown_cell hg1 hS.2.2.1 (fun j hj => by cases hj; simp only; omega), grown_cell hg1 hS.2.2.2 (fun j hj => by cases hj; simp only; omega)⟩ (fun hS => ?_)
  clear hK K
  (try simp only [Act.put, List.getElem_toArray, List.getElem_cons_zero, List.getElem_cons_succ, List.setIfInBounds_toArray, List.set_cons_zero, List.set_cons_succ])
  refine wpAnyH_ready (rs := [6]) (by as_aux_lemma => kernel_rfl) (by simp) ?_
  refine AllReadyH.cons rfl (fun K hK => ?_) AllReadyH.nil
  go_simp
  refine (l1Next_any w.heap.size b (26 + 1) 9 w3 hs1 (by omega) (by omega)).mono ?_
  rintro e w4 ⟨q2, rfl, hq2, hs2, hg2⟩
  obtain ⟨hq2a, hq2b⟩ := hq2.2 (by omega)
  have gg2 := grown_trans gg1 hg2
  have hzg2 := gg2.size
  refine hK.out _ _ ⟨grown_cell hg2 hS.1 (fun j hj => by cases hj; simp only; omega), grown_cell hg2 hS.2.1 (fun j hj => by cases hj; simp only; omega), grown_cell hg2 hS.2.2.1 (fun j hj => by cases hj; simp only; omega), grown_cell hg2 hS.2.2.2 (fun j hj => by cases hj; simp only; omega)⟩ (fun hS => ?_)
  clear hK K
  (try simp only [Act.put, List.getElem_toArray, List.getElem_cons_zero, List.getElem_cons_succ, List.setIfInBounds_toArray, List.set_cons_zero, List.set_cons_succ])
  refine wpAnyH_ready (rs := [7]) (by as_aux_lemma => kernel_rfl) (by simp) ?_
  refine AllReadyH.cons rfl (fun K hK => ?_) AllReadyH.nil
  go_simp
  have ga3 : w4.grownBy (w4.alloc (Obj.cells #[Value.int .i64 q1, Value.int .i64 q2, Value.int .i64 400, Value.int .i64 401, Value.int .i64 (-1)] 2)) (some b) := grown_none (World.grownBy_alloc _ _ none)
  have lit3 := lit_rd (k := .i64) (e := 2) w4 [q1, q2, 400, 401, -1] 5 rfl (by simp [maxLen])
  have gb3 := grown_trans gg2 ga3
  have sa3 : Src (w4.alloc (Obj.cells #[Value.int .i64 q1, Value.int .i64 q2, Value.int .i64 400, Value.int .i64 401, Value.int .i64 (-1)] 2)) w.heap.size b ((26 + 1) + 1) := Src.alloc hs2 _
  refine hK.out _ _ ⟨grown_cell ga3 hS.1 (fun j hj => by cases hj; simp only; omega), grown_cell ga3 hS.2.1 (fun j hj => by cases hj; simp only; omega), grown_cell ga3 hS.2.2.1 (fun j hj => by cases hj; simp only; omega), grown_cell ga3 hS.2.2.2 (fun j hj => by cases hj; simp only; omega)⟩ (fun hS => ?_)
  clear hK K
  (try simp only [Act.put, List.getElem_toArray, List.getElem_cons_zero, List.getElem_cons_succ, List.setIfInBounds_toArray, List.set_cons_zero, List.set_cons_succ])
  refine wpAnyH_ready (rs := [8]) (by as_aux_lemma => kernel_rfl) (by simp) ?_
  refine AllReadyH.cons rfl (fun K hK => ?_) AllReadyH.nil
  go_simp
  refine (l1Pick_any w.heap.size b ((26 + 1) + 1) w4.heap.size 5 [q1, q2, 400, 401, -1] (w4.alloc (Obj.cells #[Value.int .i64 q1, Value.int .i64 q2, Value.int .i64 400, Value.int .i64 401, Value.int .i64 (-1)] 2)) sa3 (by omega) rfl (by omega) (by omega) (by omega) lit3).mono ?_
  rintro e w5 ⟨q3, rfl, hq3, hs3, hg3⟩
  have gg3 := grown_trans gb3 hg3
  have hzg3 := gg3.size
  refine hK.out _ _ ⟨grown_cell hg3 hS.1 (fun j hj => by cases hj; simp only; omega), grown_cell hg3 hS.2.1 (fun j hj => by cases hj; simp only; omega), grown_cell hg3 hS.2.2.1 (fun j hj => by cases hj; simp only; omega), grown_cell hg3 hS.2.2.2 (fun j hj => by cases hj; simp only; omega)⟩ (fun hS => ?_)
  clear hK K
  (try simp only [Act.put, List.getElem_toArray, List.getElem_cons_zero, List.getElem_cons_succ, List.setIfInBounds_toArray, List.set_cons_zero, List.set_cons_succ])
  refine wpAnyH_ready (rs := [11]) (by as_aux_lemma => kernel_rfl) (by simp) ?_
  refine AllReadyH.cons rfl (fun K hK => ?_) AllReadyH.nil
  go_simp
  refine (l1Next_any w.heap.size b (((26 + 1) + 1) + 1) 9 w5 hs3 (by omega) (by omega)).mono ?_
  rintro e w6 ⟨q4, rfl, hq4, hs4, hg4⟩
  obtain ⟨hq4a, hq4b⟩ := hq4.2 (by omega)
  have gg4 := grown_trans gg3 hg4
  have hzg4 := gg4.size
  refine hK.out _ _ ⟨grown_cell hg4 hS.1 (fun j hj => by cases hj; simp only; omega), grown_cell hg4 hS.2.1 (fun j hj => by cases hj; simp only; omega), grown_cell hg4 hS.2.2.1 (fun j hj => by cases hj; simp only; omega), grown_cell hg4 hS.2.2.2 (fun j hj => by cases hj; simp only; omega)⟩ (fun hS => ?_)
  clear hK K
  (try simp only [Act.put, List.getElem_toArray, List.getElem_cons_zero, List.getElem_cons_succ, List.setIfInBounds_toArray, List.set_cons_zero, List.set_cons_succ])
  refine wpAnyH_take (i := 12) (v := (.int .i64 (1 + q4))) rfl (by as_aux_lemma => kernel_rfl) (by as_aux_lemma => kernel_rfl) (by as_aux_lemma => kernel_rfl) (fun _ _ _ h => h) (Or.inl ⟨by kernel_rfl, ?_⟩) hS ?_
  · intro w hSw; (try dsimp only at hSw); go_simp; try (rw [IntKind.wrap_i64] <;> omega)
  simp only [Act.put, List.getElem_toArray, List.getElem_cons_zero, List.getElem_cons_succ, List.setIfInBounds_toArray, List.set_cons_zero, List.set_cons_succ]
  refine wpAnyH_ready (rs := [13]) (by as_aux_lemma => kernel_rfl) (by simp) ?_
  refine AllReadyH.cons rfl (fun K hK => ?_) AllReadyH.nil
  go_simp
  have ga5 : w6.grownBy (w6.alloc (Obj.cells #[Value.int .i64 (1 + q4), Value.int .i64 400, Value.int .i64 0] 2)) (some b) := grown_none (World.grownBy_alloc _ _ none)
  have lit5 := lit_rd (k := .i64) (e := 2) w6 [1 + q4, 400, 0] 3 rfl (by simp [maxLen])
  have gb5 := grown_trans gg4 ga5
  have sa5 : Src (w6.alloc (Obj.cells #[Value.int .i64 (1 + q4), Value.int .i64 400, Value.int .i64 0] 2)) w.heap.size b ((((26 + 1) + 1) + 1) + 1) := Src.alloc hs4 _
  refine hK.out _ _ ⟨grown_cell ga5 hS.1 (fun j hj => by cases hj; simp only; omega), grown_cell ga5 hS.2.1 (fun j hj => by cases hj; simp only; omega), grown_cell ga5 hS.2.2.1 (fun j hj => by cases hj; simp only; omega), grown_cell ga5 hS.2.2.2 (fun j hj => by cases hj; simp only; omega)⟩ (fun hS => ?_)
  clear hK K
  (try simp only [Act.put, List.getElem_toArray, List.getElem_cons_zero, List.getElem_cons_succ, List.setIfInBounds_toArray, List.set_cons_zero, List.set_cons_succ])
  refine wpAnyH_ready (rs := [14]) (by as_aux_lemma => kernel_rfl) (by simp) ?_
  refine AllReadyH.cons rfl (fun K hK => ?_) AllReadyH.nil
  go_simp
  refine (l1Pick_any w.heap.size b ((((26 + 1) + 1) + 1) + 1) w6.heap.size 3 [1 + q4, 400, 0] (w6.alloc (Obj.cells #[Value.int .i64 (1 + q4), Value.int .i64 400, Value.int .i64 0] 2)) sa5 (by omega) rfl (by omega) (by omega) (by omega) lit5).mono ?_
  rintro e w7 ⟨q5, rfl, hq5, hs5, hg5⟩
  have gg5 := grown_trans gb5 hg5
  have hzg5 := gg5.size
  refine hK.out _ _ ⟨grown_cell hg5 hS.1 (fun j hj => by cases hj; simp only; omega), grown_cell hg5 hS.2.1 (fun j hj => by cases hj; simp only; omega), grown_cell hg5 hS.2.2.1 (fun j hj => by cases hj; simp only; omega), grown_cell hg5 hS.2.2.2 (fun j hj => by cases hj; simp only; omega)⟩ (fun hS => ?_)
  clear hK K
  (try simp only [Act.put, List.getElem_toArray, List.getElem_cons_zero, List.getElem_cons_succ, List.setIfInBounds_toArray, List.set_cons_zero, List.set_cons_succ])
  refine wpAnyH_ready (rs := [15]) (by as_aux_lemma => kernel_rfl) (by simp) ?_
  refine AllReadyH.cons rfl (fun K hK => ?_) AllReadyH.nil
  have r7 := Blk.kept HR2.out gg5 (by simp; omega)
  have r8 := Blk.kept HR3.out gg5 (by simp; omega)
  have y0 := r7.cell 0
  have y1 := r7.cell 1
  have y2 := r7.cell 2
  have yf0 := r7.frozen 0
  have yf1 := r7.frozen 1
  have yf2 := r7.frozen 2
  simp at y0 y1 y2
  go_simp
  have gA : w7.grownBy (((w7.setCell ⟨w.heap.size, 0, none⟩ (.int .i64 u)).setCell ⟨w.heap.size, 1, none⟩ (.int .i64 z)).setCell ⟨w.heap.size, 2, none⟩ (.slice ax bs.length kx)) (some w.heap.size) := grownT (grownT (set_grown _ _ _ _) (set_grown _ _ _ _)) (set_grown _ _ _ _)
  have rA := ((r7.set (i := 0) (.int .i64 u)).set (i := 1) (.int .i64 z)).set (i := 2) (.slice ax bs.length kx)
  have rB := Blk.kept r8 gA (by simp)
  clear y0 y1 y2 yf0 yf1 yf2
  refine hK.out _ _ ⟨grown_cell gA hS.1 (fun j hj => by cases hj; simp only; omega), grown_cell gA hS.2.1 (fun j hj => by cases hj; simp only; omega), grown_cell gA hS.2.2.1 (fun j hj => by cases hj; simp only; omega), grown_cell gA hS.2.2.2 (fun j hj => by cases hj; simp only; omega)⟩ (fun hS => ?_)
  clear hK K
  (try simp only [Act.put, List.getElem_toArray, List.getElem_cons_zero, List.getElem_cons_succ, List.setIfInBounds_toArray, List.set_cons_zero, List.set_cons_succ])
  refine wpAnyH_ready (rs := [16]) (by as_aux_lemma => kernel_rfl) (by simp) ?_
  refine AllReadyH.cons rfl (fun K hK => ?_) AllReadyH.nil
  have z0 := rB.cell 0
  have zf0 := rB.frozen 0
  simp at z0
  go_simp
  have gB := set_grown (((w7.setCell ⟨w.heap.size, 0, none⟩ (.int .i64 u)).setCell ⟨w.heap.size, 1, none⟩ (.int .i64 z)).setCell ⟨w.heap.size, 2, none⟩ (.slice ax bs.length kx)) (w.heap.size + 1) 0 (.slice af ys.length kf)
  have rC := rB.set (i := 0) (.slice af ys.length kf)
  have rD := Blk.kept rA gB (by simp)
  clear z0 zf0
  refine hK.out _ _ ⟨grown_cell gB hS.1 (fun j hj => by cases hj; simp only; omega), grown_cell gB hS.2.1 (fun j hj => by cases hj; simp only; omega), grown_cell gB hS.2.2.1 (fun j hj => by cases hj; simp only; omega), grown_cell gB hS.2.2.2 (fun j hj => by cases hj; simp only; omega)⟩ (fun hS => ?_)
  clear hK K
  (try simp only [Act.put, List.getElem_toArray, List.getElem_cons_zero, List.getElem_cons_succ, List.setIfInBounds_toArray, List.set_cons_zero, List.set_cons_succ])
  refine wpAnyH_take (i := 17) (v := (.int .i64 q3)) rfl (by as_aux_lemma => kernel_rfl) (by as_aux_lemma => kernel_rfl) (by as_aux_lemma => kernel_rfl) (fun _ _ _ h => h) (Or.inl ⟨by kernel_rfl, ?_⟩) hS ?_
  · intro w hSw; (try dsimp only at hSw); go_simp; try (rw [IntKind.wrap_i64] <;> omega)
  simp only [Act.put, List.getElem_toArray, List.getElem_cons_zero, List.getElem_cons_succ, List.setIfInBounds_toArray, List.set_cons_zero, List.set_cons_succ]
  refine wpAnyH_take (i := 18) (v := (.int .i64 q5)) rfl (by as_aux_lemma => kernel_rfl) (by as_aux_lemma => kernel_rfl) (by as_aux_lemma => kernel_rfl) (fun _ _ _ h => h) (Or.inl ⟨by kernel_rfl, ?_⟩) hS ?_
  · intro w hSw; (try dsimp only at hSw); go_simp; try (rw [IntKind.wrap_i64] <;> omega)
  simp only [Act.put, List.getElem_toArray, List.getElem_cons_zero, List.getElem_cons_succ, List.setIfInBounds_toArray, List.set_cons_zero, List.set_cons_succ]
  refine wpAnyH_done (by kernel_rfl) ?_ _
  have e0 := rD.cell 0
  have e1 := rD.cell 1
  have e2 := rD.cell 2
  have e3 := rC.cell 0
  simp at e0 e1 e2 e3
  have hC : Chg w.heap.size (w.heap.size + 2) w7 ((((w7.setCell ⟨w.heap.size, 0, none⟩ (.int .i64 u)).setCell ⟨w.heap.size, 1, none⟩ (.int .i64 z)).setCell ⟨w.heap.size, 2, none⟩ (.slice ax bs.length kx)).setCell ⟨w.heap.size + 1, 0, none⟩ (.slice af ys.length kf)) := ((Chg.one gA).mono (by omega) (by omega)).trans ((Chg.one gB).mono (by omega) (by omega))
  have hzV := hC.size
  generalize ((((w7.setCell ⟨w.heap.size, 0, none⟩ (.int .i64 u)).setCell ⟨w.heap.size, 1, none⟩ (.int .i64 z)).setCell ⟨w.heap.size, 2, none⟩ (.slice ax bs.length kx)).setCell ⟨w.heap.size + 1, 0, none⟩ (.slice af ys.length kf)) = WE at *
  go_wp2
  refine bodyPost_ret (v := .tuple #[.agg #[.int .i64 u, .int .i64 z, .slice ax bs.length kx], .agg #[.slice af ys.length kf], .int .i64 q3, .int .i64 q5]) (by simp [results, Try.results12, go_sem, e0, e1, e2, e3]) rfl ⟨u, z, .slice ax bs.length kx, bs, .slice af ys.length kf, ys, q3, q5, rfl, HSB.out, ?_, ?_, hyl, HYB.out, ?_⟩
  · exact (RowB.chg (RowB.chg HRX.out (Chg.one gg5) (.inl (by omega))) hC (.inr (by omega))).mono (by omega) (by omega)
  · exact (RowI.chg (RowI.chg HRF.out (Chg.one gg5) (.inl (by omega))) hC (.inr (by omega))).mono (by omega) (by omega)
  · exact below_chg (below_src HBW.out gg5 (by omega)) hC (by omega) (by omega)
end Go.Proofs.Ytckkkhabjfbngaa

namespace Go.Proofs.Ytckkkhabjfbngaa.fnBlocks
open Go.RowKit
set_option linter.unusedVariables false
set_option linter.unusedSimpArgs false

theorem fldC0 (x y z u p : Value) (w : World) : (Instr.field 32 (.agg #[x, y, z, u, p]) 0).run Try.prog w = .ok x w := by kernel_rfl

theorem fldC1 (x y z u p : Value) (w : World) : (Instr.field 32 (.agg #[x, y, z, u, p]) 1).run Try.prog w = .ok y w := by kernel_rfl

set_option maxRecDepth 20000 in
set_option maxHeartbeats 12800000 in
theorem walk (a : Option Addr) (n ca : Nat) (xs : List Int) (w : World) (hr0 : Rd .u8 w a n xs) (hB : Bytes xs) (hm : n ≤ maxLen) :
    Calls Try.prog 3 #[.slice a n ca] w fun e w' => e = .returned (.bool true) ∧ Below w.heap.size w w' := by
  unfold maxLen at hm
  by_cases hn : n ≤ 1048576
  · go_enter Try.func3, Try.ntmps3
    go_wp2_with (go_at_call 11; go_in)
    refine (DrawFetchBlock_any a n ca xs _ hr0 hB hn).mono ?_
    rintro e w1 ⟨u, z, vc, bs, vf, fs, num, M, rfl, hsb, rc, rf, hfl, hfb, hb⟩
    obtain ⟨ac, kc, rfl, q1, q2⟩ := rc.shape
    have Kc : Hid _ := And.intro q1 q2
    clear q1 q2
    obtain ⟨af, kf, rfl, q1, q2⟩ := rf.shape
    have Kf : Hid _ := And.intro q1 q2
    clear q1 q2
    have s1 := hb.size
    have HBB := hid hsb.1
    have hsm : (bs.length : Int) + byB bs ≤ 1000 := hsb.2
    have HFB := hid hfb
    clear hsb hfb
    have IR := fun (W' : World) (h : RdB W' ac bs.length bs) (h2 : Rd .u8 W' af fs.length fs) => implFetchBlock_any u z ac bs.length kc bs af fs.length kf fs num M W' h h2 (by omega) (by omega) Kc.out.1 Kf.out.1 Kf.out.2
    have SR := fun (W' : World) (h : RdB W' ac bs.length bs) (h2 : Rd .u8 W' af fs.length fs) => specFetchBlock_any u z ac bs.length kc bs af fs.length kf fs num M W' h h2 (by omega) (by omega) Kf.out.1 Kf.out.2
    have hA := ft_all (u := u) (z := z) (bs := bs) (fs := fs) (num := num) (M := M)
    have hRl := ftR_len u z bs fs num M
    generalize ftCode u z bs fs num M = rcd at IR SR hA
    generalize ftU u z bs fs num M = ru at IR SR hA
    generalize ftZ u z bs fs num M = rz at IR SR hA
    generalize ftR u z bs fs num M = R at IR SR hA hRl
    generalize ftS u z bs fs num M = Q at IR SR hA
    have HIR := hid IR
    have HSR := hid SR
    have HA := hid hA
    clear IR SR hA
    have IT := fun (W' : World) (h : RdB W' ac bs.length bs) (h2 : Rd .u8 W' af fs.length fs) => implCacheTrue_any u z ac bs.length kc bs af fs.length kf fs W' h h2 HBB.out HFB.out (by omega) (by omega) Kc.out.1 Kf.out.1 Kf.out.2
    obtain ⟨BB, hBB⟩ : ∃ BB, BB = cacheTrue u z bs fs := ⟨_, rfl⟩
    rw [← hBB] at IT
    have HBT := hid hBB
    have HIT := hid IT
    clear IT hBB
    go_wp2_with fail
    have bp : ∀ o0 o1, Below w1.heap.size w1 ((w1.alloc o0).alloc o1) := fun o0 o1 => ((Below.refl _ _).alloc (Nat.le_refl _) o0).alloc (by simp) o1
    have hbt : ∀ o0 o1, Below w.heap.size w ((w1.alloc o0).alloc o1) := fun o0 o1 => hb.trans ((bp o0 o1).mono hb.size)
    refine Calls.mono (HIR.out _ (rc.below (bp _ _)).read (rf.below (bp _ _)).read) ?_
    rintro e w2 ⟨vr, vq, mid, rfl, -, -, rr, rq, hc⟩
    obtain ⟨ar, kr, rfl, q1, q2⟩ := rr.shape
    have Kr : Hid _ := And.intro q1 q2
    clear q1 q2
    obtain ⟨aq, kq, rfl, q1, q2⟩ := rq.shape
    have Kq : Hid _ := And.intro q1 q2
    clear q1 q2
    have s2 : w1.heap.size + 2 ≤ w2.heap.size := by have := hc.size; simp at this; omega
    have bq : Below w1.heap.size w1 w2 := (bp _ _).trans (hc.mono (bp _ _).size)
    have cC0 : w2.cell? ⟨w1.heap.size, 0, none⟩ = some (.int .i64 u) := cell_later hc (by simp [go_sem])
    have cC1 : w2.cell? ⟨w1.heap.size, 1, none⟩ = some (.int .i64 z) := cell_later hc (by simp [go_sem])
    have cC2 : w2.cell? ⟨w1.heap.size, 2, none⟩ = some (.slice ac bs.length kc) := cell_later hc (by simp [go_sem])
    have zC : w1.heap.size < w2.heap.size := by omega
    have cF0 : w2.cell? ⟨w1.heap.size + 1, 0, none⟩ = some (.slice af fs.length kf) := cell_later hc (by simp [go_sem])
    have zF : w1.heap.size + 1 < w2.heap.size := by omega
    replace rc := rc.below bq
    replace rf := rf.below bq
    replace hb := hb.trans (bq.mono hb.size)
    clear hc bq bp hbt
    clear HIR
    by_cases hcc : rcd = 0
    case neg =>
      have hcc' : (rcd == 0) = false := by simpa using hcc
      go_wp2_with fail
      have hc : Below w2.heap.size w2 (w2.alloc (.cells #[.int .i64 rcd, .slice ar R.length kr, .int .i64 ru, .int .i64 rz, .slice aq Q.length kq] 32)).drew := ((Below.refl _ _).alloc (Nat.le_refl _) _).drew
      have cR0 : (w2.alloc (.cells #[.int .i64 rcd, .slice ar R.length kr, .int .i64 ru, .int .i64 rz, .slice aq Q.length kq] 32)).drew.cell? ⟨w2.heap.size, 0, none⟩ = some (.int .i64 rcd) := by simp [go_sem]
      have cR1 : (w2.alloc (.cells #[.int .i64 rcd, .slice ar R.length kr, .int .i64 ru, .int .i64 rz, .slice aq Q.length kq] 32)).drew.cell? ⟨w2.heap.size, 1, none⟩ = some (.slice ar R.length kr) := by simp [go_sem]
      have cR2 : (w2.alloc (.cells #[.int .i64 rcd, .slice ar R.length kr, .int .i64 ru, .int .i64 rz, .slice aq Q.length kq] 32)).drew.cell? ⟨w2.heap.size, 2, none⟩ = some (.int .i64 ru) := by simp [go_sem]
      have cR3 : (w2.alloc (.cells #[.int .i64 rcd, .slice ar R.length kr, .int .i64 ru, .int .i64 rz, .slice aq Q.length kq] 32)).drew.cell? ⟨w2.heap.size, 3, none⟩ = some (.int .i64 rz) := by simp [go_sem]
      have cR4 : (w2.alloc (.cells #[.int .i64 rcd, .slice ar R.length kr, .int .i64 ru, .int .i64 rz, .slice aq Q.length kq] 32)).drew.cell? ⟨w2.heap.size, 4, none⟩ = some (.slice aq Q.length kq) := by simp [go_sem]
      have zR : w2.heap.size < (w2.alloc (.cells #[.int .i64 rcd, .slice ar R.length kr, .int .i64 ru, .int .i64 rz, .slice aq Q.length kq] 32)).drew.heap.size := by simp [World.size_alloc]
      refine wp_region_held_drew (S := fun w' => Below (w2.alloc (.cells #[.int .i64 rcd, .slice ar R.length kr, .int .i64 ru, .int .i64 rz, .slice aq Q.length kq] 32)).drew.heap.size (w2.alloc (.cells #[.int .i64 rcd, .slice ar R.length kr, .int .i64 ru, .int .i64 rz, .slice aq Q.length kq] 32)).drew w') (by kernel_rfl) (Below.refl _ _) (fun hS => ?_)
      replace rc := rc.below hc
      replace rf := rf.below hc
      replace rr := rr.below hc
      replace rq := rq.below hc
      replace cC0 := cell_later hc cC0
      replace cC1 := cell_later hc cC1
      replace cC2 := cell_later hc cC2
      replace zC := Nat.lt_of_lt_of_le zC hc.size
      replace cF0 := cell_later hc cF0
      replace zF := Nat.lt_of_lt_of_le zF hc.size
      replace hb := hb.trans (hc.mono hb.size)
      clear hc
      generalize (w2.alloc (.cells #[.int .i64 rcd, .slice ar R.length kr, .int .i64 ru, .int .i64 rz, .slice aq Q.length kq] 32)).drew = w3 at *
      have fC := fldC0
      refine wpAnyH_take (i := 0) (v := (.agg #[.int .i64 u, .int .i64 z, .slice ac bs.length kc])) rfl (by as_aux_lemma => kernel_rfl) (by as_aux_lemma => kernel_rfl) (by as_aux_lemma => kernel_rfl) (fun _ _ _ h => h) (Or.inl ⟨by kernel_rfl, ?_⟩) hS ?_
      · intro w hSw; (try dsimp only at hSw); have hl0 := cell_later hSw cC0; have hl1 := cell_later hSw cC1; have hl2 := cell_later hSw cC2; go_simp
      (try simp only [Act.put, List.getElem_toArray, List.getElem_cons_zero, List.getElem_cons_succ, List.setIfInBounds_toArray, List.set_cons_zero, List.set_cons_succ])
      refine wpAnyH_take (i := 1) (v := (.agg #[.slice af fs.length kf])) rfl (by as_aux_lemma => kernel_rfl) (by as_aux_lemma => kernel_rfl) (by as_aux_lemma => kernel_rfl) (fun _ _ _ h => h) (Or.inl ⟨by kernel_rfl, ?_⟩) hS ?_
      · intro w hSw; (try dsimp only at hSw); have hl0 := cell_later hSw cF0; go_simp
      (try simp only [Act.put, List.getElem_toArray, List.getElem_cons_zero, List.getElem_cons_succ, List.setIfInBounds_toArray, List.set_cons_zero, List.set_cons_succ])
      refine wpAnyH_take (i := 2) (v := (.int .i64 num)) rfl (by as_aux_lemma => kernel_rfl) (by as_aux_lemma => kernel_rfl) (by as_aux_lemma => kernel_rfl) (fun _ _ _ h => h) (Or.inl ⟨by kernel_rfl, ?_⟩) hS ?_
      · intro w hSw; (try dsimp only at hSw); go_simp
      (try simp only [Act.put, List.getElem_toArray, List.getElem_cons_zero, List.getElem_cons_succ, List.setIfInBounds_toArray, List.set_cons_zero, List.set_cons_succ])
      refine wpAnyH_take (i := 3) (v := (.int .i64 M)) rfl (by as_aux_lemma => kernel_rfl) (by as_aux_lemma => kernel_rfl) (by as_aux_lemma => kernel_rfl) (fun _ _ _ h => h) (Or.inl ⟨by kernel_rfl, ?_⟩) hS ?_
      · intro w hSw; (try dsimp only at hSw); go_simp
      (try simp only [Act.put, List.getElem_toArray, List.getElem_cons_zero, List.getElem_cons_succ, List.setIfInBounds_toArray, List.set_cons_zero, List.set_cons_succ])
      refine wpAnyH_take (i := 6) (v := (.pointer (some ⟨w2.heap.size, 0, none⟩))) rfl (by as_aux_lemma => kernel_rfl) (by as_aux_lemma => kernel_rfl) (by as_aux_lemma => kernel_rfl) (fun _ _ _ h => h) (Or.inl ⟨by kernel_rfl, ?_⟩) hS ?_
      · intro w hSw; (try dsimp only at hSw); go_simp
      (try simp only [Act.put, List.getElem_toArray, List.getElem_cons_zero, List.getElem_cons_succ, List.setIfInBounds_toArray, List.set_cons_zero, List.set_cons_succ])
      refine wpAnyH_take (i := 7) (v := (.int .i64 rcd)) rfl (by as_aux_lemma => kernel_rfl) (by as_aux_lemma => kernel_rfl) (by as_aux_lemma => kernel_rfl) (fun _ _ _ h => h) (Or.inl ⟨by kernel_rfl, ?_⟩) hS ?_
      · intro w hSw; (try dsimp only at hSw); have hl0 := cell_later hSw cR0; go_simp
      (try simp only [Act.put, List.getElem_toArray, List.getElem_cons_zero, List.getElem_cons_succ, List.setIfInBounds_toArray, List.set_cons_zero, List.set_cons_succ])
      refine wpAnyH_ready (rs := [4]) (by as_aux_lemma => kernel_rfl) (by simp) ?_
      refine AllReadyH.cons rfl (fun K hK => ?_) AllReadyH.nil
      go_simp
      refine Calls.mono (HSR.out _ (rc.below hS).read (rf.below hS).read) ?_
      rintro e u ⟨vs, vt, rfl, -, -, hc⟩
      refine hK.out _ _ (hS.trans (hc.mono hS.size)) (fun hS => ?_)
      clear hK K hc
      (try simp only [Act.put, List.getElem_toArray, List.getElem_cons_zero, List.getElem_cons_succ, List.setIfInBounds_toArray, List.set_cons_zero, List.set_cons_succ])
      refine wpAnyH_take (i := 5) (v := (.int .i64 rcd)) rfl (by as_aux_lemma => kernel_rfl) (by as_aux_lemma => kernel_rfl) (by as_aux_lemma => kernel_rfl) (fun _ _ _ h => h) (Or.inl ⟨by kernel_rfl, ?_⟩) hS ?_
      · intro w hSw; (try dsimp only at hSw); go_simp
      (try simp only [Act.put, List.getElem_toArray, List.getElem_cons_zero, List.getElem_cons_succ, List.setIfInBounds_toArray, List.set_cons_zero, List.set_cons_succ])
      refine wpAnyH_take (i := 8) (v := (.bool true)) rfl (by as_aux_lemma => kernel_rfl) (by as_aux_lemma => kernel_rfl) (by as_aux_lemma => kernel_rfl) (fun _ _ _ h => h) (Or.inl ⟨by kernel_rfl, ?_⟩) hS ?_
      · intro w hSw; (try dsimp only at hSw); go_simp
      (try simp only [Act.put, List.getElem_toArray, List.getElem_cons_zero, List.getElem_cons_succ, List.setIfInBounds_toArray, List.set_cons_zero, List.set_cons_succ])
      refine wpAnyH_take (i := 9) (v := (.bool true)) rfl (by as_aux_lemma => kernel_rfl) (by as_aux_lemma => kernel_rfl) (by as_aux_lemma => kernel_rfl) (fun _ _ _ h => h) (Or.inl ⟨by kernel_rfl, ?_⟩) hS ?_
      · intro w hSw; (try dsimp only at hSw); go_simp
      (try simp only [Act.put, List.getElem_toArray, List.getElem_cons_zero, List.getElem_cons_succ, List.setIfInBounds_toArray, List.set_cons_zero, List.set_cons_succ])
      refine wpAnyH_done (by kernel_rfl) ?_ _
      go_wp2
      go_ret
      exact ⟨rfl, hb.trans (hS.mono hb.size)⟩
    have hall := HA.out hcc
    subst hcc
    obtain ⟨e1, e2, fa⟩ := hall
    subst e1
    subst e2
    have hcc' : ((0 : Int) == 0) = true := rfl
    have FA := hid fa
    have hqs : (Q.length : Int) + byB Q ≤ 1000 := fa.small
    have hu1 := fa.u1
    have hu2 := fa.u2
    have hn0 := fa.n0
    have hn1 := fa.n1
    have hfs := fa.fl
    clear fa HA
    have IA := fun (W' : World) (h : RdB W' aq Q.length Q) (h2 : Rd .u8 W' af fs.length fs) => implFetchBlock_any ru rz aq Q.length kq Q af fs.length kf fs num M W' h h2 (by omega) (by omega) Kq.out.1 Kf.out.1 Kf.out.2
    rw [FA.out.code, FA.out.same] at IA
    generalize ftU ru rz Q fs num M = au at IA
    generalize ftZ ru rz Q fs num M = az at IA
    generalize ftS ru rz Q fs num M = PS at IA
    have HIA := hid IA
    clear IA
    go_wp2_with fail
    have bp : ∀ o0, Below w2.heap.size w2 (w2.alloc o0) := fun o0 => (Below.refl _ _).alloc (Nat.le_refl _) o0
    have hbt : ∀ o0, Below w.heap.size w (w2.alloc o0) := fun o0 => hb.trans ((bp o0).mono hb.size)
    refine Calls.mono (HIA.out _ (rq.below (bp _)).read (rf.below (bp _)).read) ?_
    rintro e w3 ⟨va, vp, mid2, rfl, -, -, ra, rp, hc⟩
    obtain ⟨aa, ka, rfl, q1, q2⟩ := ra.shape
    have Ka : Hid _ := And.intro q1 q2
    clear q1 q2
    obtain ⟨ap, kp, rfl, q1, q2⟩ := rp.shape
    have Kp : Hid _ := And.intro q1 q2
    clear q1 q2
    have s3 : w2.heap.size + 1 ≤ w3.heap.size := by have := hc.size; simp at this; omega
    have bq : Below w2.heap.size w2 w3 := (bp _).trans (hc.mono (bp _).size)
    replace cC0 := cell_later bq cC0
    replace cC1 := cell_later bq cC1
    replace cC2 := cell_later bq cC2
    replace zC := Nat.lt_of_lt_of_le zC bq.size
    replace cF0 := cell_later bq cF0
    replace zF := Nat.lt_of_lt_of_le zF bq.size
    have cR0 : w3.cell? ⟨w2.heap.size, 0, none⟩ = some (.int .i64 0) := cell_later hc (by simp [go_sem])
    have cR1 : w3.cell? ⟨w2.heap.size, 1, none⟩ = some (.slice ar R.length kr) := cell_later hc (by simp [go_sem])
    have cR2 : w3.cell? ⟨w2.heap.size, 2, none⟩ = some (.int .i64 ru) := cell_later hc (by simp [go_sem])
    have cR3 : w3.cell? ⟨w2.heap.size, 3, none⟩ = some (.int .i64 rz) := cell_later hc (by simp [go_sem])
    have cR4 : w3.cell? ⟨w2.heap.size, 4, none⟩ = some (.slice aq Q.length kq) := cell_later hc (by simp [go_sem])
    have zR : w2.heap.size < w3.heap.size := by omega
    replace rc := rc.below bq
    replace rf := rf.below bq
    replace rr := rr.below bq
    replace rq := rq.below bq
    replace hb := hb.trans (bq.mono hb.size)
    clear hc bq bp hbt
    clear HIA
    go_wp2_with fail
    have bp : ∀ o0, Below w3.heap.size w3 (w3.alloc o0) := fun o0 => (Below.refl _ _).alloc (Nat.le_refl _) o0
    have hbt : ∀ o0, Below w.heap.size w (w3.alloc o0) := fun o0 => hb.trans ((bp o0).mono hb.size)
    refine Calls.mono (HIT.out _ (rc.below (bp _)).read (rf.below (bp _)).read) ?_
    rintro e w4 ⟨rfl, hc⟩
    have s4 : w3.heap.size + 1 ≤ w4.heap.size := by have := hc.size; simp at this; omega
    have bq : Below w3.heap.size w3 w4 := (bp _).trans (hc.mono (bp _).size)
    replace cC0 := cell_later bq cC0
    replace cC1 := cell_later bq cC1
    replace cC2 := cell_later bq cC2
    replace zC := Nat.lt_of_lt_of_le zC bq.size
    replace cF0 := cell_later bq cF0
    replace zF := Nat.lt_of_lt_of_le zF bq.size
    replace cR0 := cell_later bq cR0
    replace cR1 := cell_later bq cR1
    replace cR2 := cell_later bq cR2
    replace cR3 := cell_later bq cR3
    replace cR4 := cell_later bq cR4
    replace zR := Nat.lt_of_lt_of_le zR bq.size
    have cA0 : w4.cell? ⟨w3.heap.size, 0, none⟩ = some (.int .i64 0) := cell_later hc (by simp [go_sem])
    have cA1 : w4.cell? ⟨w3.heap.size, 1, none⟩ = some (.slice aa R.length ka) := cell_later hc (by simp [go_sem])
    have cA2 : w4.cell? ⟨w3.heap.size, 2, none⟩ = some (.int .i64 au) := cell_later hc (by simp [go_sem])
    have cA3 : w4.cell? ⟨w3.heap.size, 3, none⟩ = some (.int .i64 az) := cell_later hc (by simp [go_sem])
    have cA4 : w4.cell? ⟨w3.heap.size, 4, none⟩ = some (.slice ap PS.length kp) := cell_later hc (by simp [go_sem])
    have zA : w3.heap.size < w4.heap.size := by omega
    replace rc := rc.below bq
    replace rf := rf.below bq
    replace rr := rr.below bq
    replace rq := rq.below bq
    replace ra := ra.below bq
    replace rp := rp.below bq
    replace hb := hb.trans (bq.mono hb.size)
    clear hc bq bp hbt
    have CFQ := fun (W' : World) (h : RdB W' aq Q.length Q) => implCacheFault_any ru rz aq Q.length kq Q W' h (by omega) Kq.out.1
    rw [FA.out.fault] at CFQ
    have HCF := hid CFQ
    clear CFQ HIT
    cases BB
    · skip
      go_wp2_with fail
      have hc : Below w4.heap.size w4 w4.drew := (Below.refl _ _).drew
      refine wp_region_held_drew (S := fun w' => Below w4.drew.heap.size w4.drew w') (by kernel_rfl) (Below.refl _ _) (fun hS => ?_)
      replace rc := rc.below hc
      replace rf := rf.below hc
      replace rr := rr.below hc
      replace rq := rq.below hc
      replace ra := ra.below hc
      replace rp := rp.below hc
      replace cC0 := cell_later hc cC0
      replace cC1 := cell_later hc cC1
      replace cC2 := cell_later hc cC2
      replace cF0 := cell_later hc cF0
      replace cR0 := cell_later hc cR0
      replace cR1 := cell_later hc cR1
      replace cR2 := cell_later hc cR2
      replace cR3 := cell_later hc cR3
      replace cR4 := cell_later hc cR4
      replace cA0 := cell_later hc cA0
      replace cA1 := cell_later hc cA1
      replace cA2 := cell_later hc cA2
      replace cA3 := cell_later hc cA3
      replace cA4 := cell_later hc cA4
      replace hb := hb.trans (hc.mono hb.size)
      clear hc
      generalize w4.drew = w5 at *
      have fC1 := fldC1
      refine wpAnyH_take (i := 0) (v := (.pointer (some ⟨w2.heap.size, 2, none⟩))) rfl (by as_aux_lemma => kernel_rfl) (by as_aux_lemma => kernel_rfl) (by as_aux_lemma => kernel_rfl) (fun _ _ _ h => h) (Or.inl ⟨by kernel_rfl, ?_⟩) hS ?_
      · intro w hSw; (try dsimp only at hSw); go_simp
      (try simp only [Act.put, List.getElem_toArray, List.getElem_cons_zero, List.getElem_cons_succ, List.setIfInBounds_toArray, List.set_cons_zero, List.set_cons_succ])
      refine wpAnyH_take (i := 1) (v := (.agg #[.int .i64 ru, .int .i64 rz, .slice aq Q.length kq])) rfl (by as_aux_lemma => kernel_rfl) (by as_aux_lemma => kernel_rfl) (by as_aux_lemma => kernel_rfl) (fun _ _ _ h => h) (Or.inl ⟨by kernel_rfl, ?_⟩) hS ?_
      · intro w hSw; (try dsimp only at hSw); have hl0 := cell_later hSw cR2; have hl1 := cell_later hSw cR3; have hl2 := cell_later hSw cR4; go_simp
      (try simp only [Act.put, List.getElem_toArray, List.getElem_cons_zero, List.getElem_cons_succ, List.setIfInBounds_toArray, List.set_cons_zero, List.set_cons_succ])
      refine wpAnyH_ready (rs := [2]) (by as_aux_lemma => kernel_rfl) (by simp) ?_
      refine AllReadyH.cons rfl (fun K hK => ?_) AllReadyH.nil
      go_simp
      refine Calls.mono (HCF.out _ (rq.below hS).read) ?_
      rintro e u2 ⟨rfl, hc⟩
      refine hK.out _ _ (hS.trans (hc.mono hS.size)) (fun hS => ?_)
      clear hK K hc
      (try simp only [Act.put, List.getElem_toArray, List.getElem_cons_zero, List.getElem_cons_succ, List.setIfInBounds_toArray, List.set_cons_zero, List.set_cons_succ])
      refine wpAnyH_take (i := 3) (v := (.bool true)) rfl (by as_aux_lemma => kernel_rfl) (by as_aux_lemma => kernel_rfl) (by as_aux_lemma => kernel_rfl) (fun _ _ _ h => h) (Or.inl ⟨by kernel_rfl, ?_⟩) hS ?_
      · intro w hSw; (try dsimp only at hSw); go_simp
      (try simp only [Act.put, List.getElem_toArray, List.getElem_cons_zero, List.getElem_cons_succ, List.setIfInBounds_toArray, List.set_cons_zero, List.set_cons_succ])
      refine wpAnyH_take (i := 4) (v := (.bool true)) rfl (by as_aux_lemma => kernel_rfl) (by as_aux_lemma => kernel_rfl) (by as_aux_lemma => kernel_rfl) (fun _ _ _ h => h) (Or.inl ⟨by kernel_rfl, ?_⟩) hS ?_
      · intro w hSw; (try dsimp only at hSw); go_simp
      (try simp only [Act.put, List.getElem_toArray, List.getElem_cons_zero, List.getElem_cons_succ, List.setIfInBounds_toArray, List.set_cons_zero, List.set_cons_succ])
      refine wpAnyH_take (i := 5) (v := (.pointer (some ⟨w3.heap.size, 1, none⟩))) rfl (by as_aux_lemma => kernel_rfl) (by as_aux_lemma => kernel_rfl) (by as_aux_lemma => kernel_rfl) (fun _ _ _ h => h) (Or.inl ⟨by kernel_rfl, ?_⟩) hS ?_
      · intro w hSw; (try dsimp only at hSw); go_simp
      (try simp only [Act.put, List.getElem_toArray, List.getElem_cons_zero, List.getElem_cons_succ, List.setIfInBounds_toArray, List.set_cons_zero, List.set_cons_succ])
      refine wpAnyH_take (i := 6) (v := (.slice aa R.length ka)) rfl (by as_aux_lemma => kernel_rfl) (by as_aux_lemma => kernel_rfl) (by as_aux_lemma => kernel_rfl) (fun _ _ _ h => h) (Or.inl ⟨by kernel_rfl, ?_⟩) hS ?_
      · intro w hSw; (try dsimp only at hSw); have hl0 := cell_later hSw cA1; go_simp
      (try simp only [Act.put, List.getElem_toArray, List.getElem_cons_zero, List.getElem_cons_succ, List.setIfInBounds_toArray, List.set_cons_zero, List.set_cons_succ])
      refine wpAnyH_take (i := 7) (v := (.pointer (some ⟨w2.heap.size, 1, none⟩))) rfl (by as_aux_lemma => kernel_rfl) (by as_aux_lemma => kernel_rfl) (by as_aux_lemma => kernel_rfl) (fun _ _ _ h => h) (Or.inl ⟨by kernel_rfl, ?_⟩) hS ?_
      · intro w hSw; (try dsimp only at hSw); go_simp
      (try simp only [Act.put, List.getElem_toArray, List.getElem_cons_zero, List.getElem_cons_succ, List.setIfInBounds_toArray, List.set_cons_zero, List.set_cons_succ])
      refine wpAnyH_take (i := 8) (v := (.slice ar R.length kr)) rfl (by as_aux_lemma => kernel_rfl) (by as_aux_lemma => kernel_rfl) (by as_aux_lemma => kernel_rfl) (fun _ _ _ h => h) (Or.inl ⟨by kernel_rfl, ?_⟩) hS ?_
      · intro w hSw; (try dsimp only at hSw); have hl0 := cell_later hSw cR1; go_simp
      (try simp only [Act.put, List.getElem_toArray, List.getElem_cons_zero, List.getElem_cons_succ, List.setIfInBounds_toArray, List.set_cons_zero, List.set_cons_succ])
      refine wpAnyH_ready (rs := [9]) (by as_aux_lemma => kernel_rfl) (by simp) ?_
      refine AllReadyH.cons rfl (fun K hK => ?_) AllReadyH.nil
      go_simp
      refine Calls.mono (lwSame_yes aa ar R.length ka kr R _ (ra.below hS).read (rr.below hS).read) ?_
      rintro e u ⟨rfl, hu⟩
      rw [hu]
      clear hu u
      refine hK.out _ _ hS (fun hS => ?_)
      clear hK K
      (try simp only [Act.put, List.getElem_toArray, List.getElem_cons_zero, List.getElem_cons_succ, List.setIfInBounds_toArray, List.set_cons_zero, List.set_cons_succ])
      refine wpAnyH_take (i := 10) (v := (.bool true)) rfl (by as_aux_lemma => kernel_rfl) (by as_aux_lemma => kernel_rfl) (by as_aux_lemma => kernel_rfl) (fun _ _ _ h => h) (Or.inl ⟨by kernel_rfl, ?_⟩) hS ?_
      · intro w hSw; (try dsimp only at hSw); go_simp
      (try simp only [Act.put, List.getElem_toArray, List.getElem_cons_zero, List.getElem_cons_succ, List.setIfInBounds_toArray, List.set_cons_zero, List.set_cons_succ])
      refine wpAnyH_take (i := 11) (v := (.bool true)) rfl (by as_aux_lemma => kernel_rfl) (by as_aux_lemma => kernel_rfl) (by as_aux_lemma => kernel_rfl) (fun _ _ _ h => h) (Or.inl ⟨by kernel_rfl, ?_⟩) hS ?_
      · intro w hSw; (try dsimp only at hSw); go_simp
      (try simp only [Act.put, List.getElem_toArray, List.getElem_cons_zero, List.getElem_cons_succ, List.setIfInBounds_toArray, List.set_cons_zero, List.set_cons_succ])
      refine wpAnyH_take (i := 12) (v := (.pointer (some ⟨w2.heap.size, 1, none⟩))) rfl (by as_aux_lemma => kernel_rfl) (by as_aux_lemma => kernel_rfl) (by as_aux_lemma => kernel_rfl) (fun _ _ _ h => h) (Or.inl ⟨by kernel_rfl, ?_⟩) hS ?_
      · intro w hSw; (try dsimp only at hSw); go_simp
      (try simp only [Act.put, List.getElem_toArray, List.getElem_cons_zero, List.getElem_cons_succ, List.setIfInBounds_toArray, List.set_cons_zero, List.set_cons_succ])
      refine wpAnyH_take (i := 13) (v := (.slice ar R.length kr)) rfl (by as_aux_lemma => kernel_rfl) (by as_aux_lemma => kernel_rfl) (by as_aux_lemma => kernel_rfl) (fun _ _ _ h => h) (Or.inl ⟨by kernel_rfl, ?_⟩) hS ?_
      · intro w hSw; (try dsimp only at hSw); have hl0 := cell_later hSw cR1; go_simp
      (try simp only [Act.put, List.getElem_toArray, List.getElem_cons_zero, List.getElem_cons_succ, List.setIfInBounds_toArray, List.set_cons_zero, List.set_cons_succ])
      refine wpAnyH_take (i := 14) (v := (.agg #[.int .i64 ru, .int .i64 rz, .slice ac bs.length kc])) rfl (by as_aux_lemma => kernel_rfl) (by as_aux_lemma => kernel_rfl) (by as_aux_lemma => kernel_rfl) (fun _ _ _ h => h) (Or.inl ⟨by kernel_rfl, ?_⟩) hS ?_
      · intro w hSw; (try dsimp only at hSw); have hl0 := cell_later hSw cC0; have hl1 := cell_later hSw cC1; have hl2 := cell_later hSw cC2; go_simp
      (try simp only [Act.put, List.getElem_toArray, List.getElem_cons_zero, List.getElem_cons_succ, List.setIfInBounds_toArray, List.set_cons_zero, List.set_cons_succ])
      refine wpAnyH_take (i := 15) (v := (.agg #[.slice af fs.length kf])) rfl (by as_aux_lemma => kernel_rfl) (by as_aux_lemma => kernel_rfl) (by as_aux_lemma => kernel_rfl) (fun _ _ _ h => h) (Or.inl ⟨by kernel_rfl, ?_⟩) hS ?_
      · intro w hSw; (try dsimp only at hSw); have hl0 := cell_later hSw cF0; go_simp
      (try simp only [Act.put, List.getElem_toArray, List.getElem_cons_zero, List.getElem_cons_succ, List.setIfInBounds_toArray, List.set_cons_zero, List.set_cons_succ])
      refine wpAnyH_take (i := 16) (v := (.int .i64 num)) rfl (by as_aux_lemma => kernel_rfl) (by as_aux_lemma => kernel_rfl) (by as_aux_lemma => kernel_rfl) (fun _ _ _ h => h) (Or.inl ⟨by kernel_rfl, ?_⟩) hS ?_
      · intro w hSw; (try dsimp only at hSw); go_simp
      (try simp only [Act.put, List.getElem_toArray, List.getElem_cons_zero, List.getElem_cons_succ, List.setIfInBounds_toArray, List.set_cons_zero, List.set_cons_succ])
      refine wpAnyH_take (i := 17) (v := (.int .i64 M)) rfl (by as_aux_lemma => kernel_rfl) (by as_aux_lemma => kernel_rfl) (by as_aux_lemma => kernel_rfl) (fun _ _ _ h => h) (Or.inl ⟨by kernel_rfl, ?_⟩) hS ?_
      · intro w hSw; (try dsimp only at hSw); go_simp
      (try simp only [Act.put, List.getElem_toArray, List.getElem_cons_zero, List.getElem_cons_succ, List.setIfInBounds_toArray, List.set_cons_zero, List.set_cons_succ])
      refine wpAnyH_ready (rs := [18]) (by as_aux_lemma => kernel_rfl) (by simp) ?_
      refine AllReadyH.cons rfl (fun K hK => ?_) AllReadyH.nil
      go_simp
      refine Calls.mono (HSR.out _ (rc.below hS).read (rf.below hS).read) ?_
      rintro e u3 ⟨vs, vt, rfl, rs, rt, hc⟩
      obtain ⟨aS, kS, rfl, -, -⟩ := rs.shape
      obtain ⟨at_, kt, rfl, -, -⟩ := rt.shape
      replace rr := (rr.below hS).below hc
      clear rt
      refine hK.out _ _ (hS.trans (hc.mono hS.size)) (fun hS => ?_)
      clear hK K hc
      (try simp only [Act.put, List.getElem_toArray, List.getElem_cons_zero, List.getElem_cons_succ, List.setIfInBounds_toArray, List.set_cons_zero, List.set_cons_succ])
      refine wpAnyH_take (i := 19) (v := (.slice aS R.length kS)) rfl (by as_aux_lemma => kernel_rfl) (by as_aux_lemma => kernel_rfl) (by as_aux_lemma => kernel_rfl) (fun _ _ _ h => h) (Or.inl ⟨by kernel_rfl, ?_⟩) hS ?_
      · intro w hSw; (try dsimp only at hSw); go_simp
      (try simp only [Act.put, List.getElem_toArray, List.getElem_cons_zero, List.getElem_cons_succ, List.setIfInBounds_toArray, List.set_cons_zero, List.set_cons_succ])
      refine wpAnyH_ready (rs := [20]) (by as_aux_lemma => kernel_rfl) (by simp) ?_
      refine AllReadyH.cons rfl (fun K hK => ?_) AllReadyH.nil
      go_simp
      refine Calls.mono (lwSame_yes ar aS R.length kr kS R _ rr.read rs.read) ?_
      rintro e u ⟨rfl, hu⟩
      rw [hu]
      clear hu u
      refine hK.out _ _ hS (fun hS => ?_)
      clear hK K
      (try simp only [Act.put, List.getElem_toArray, List.getElem_cons_zero, List.getElem_cons_succ, List.setIfInBounds_toArray, List.set_cons_zero, List.set_cons_succ])
      refine wpAnyH_take (i := 21) (v := (.bool true)) rfl (by as_aux_lemma => kernel_rfl) (by as_aux_lemma => kernel_rfl) (by as_aux_lemma => kernel_rfl) (fun _ _ _ h => h) (Or.inl ⟨by kernel_rfl, ?_⟩) hS ?_
      · intro w hSw; (try dsimp only at hSw); go_simp
      (try simp only [Act.put, List.getElem_toArray, List.getElem_cons_zero, List.getElem_cons_succ, List.setIfInBounds_toArray, List.set_cons_zero, List.set_cons_succ])
      refine wpAnyH_take (i := 22) (v := (.bool true)) rfl (by as_aux_lemma => kernel_rfl) (by as_aux_lemma => kernel_rfl) (by as_aux_lemma => kernel_rfl) (fun _ _ _ h => h) (Or.inl ⟨by kernel_rfl, ?_⟩) hS ?_
      · intro w hSw; (try dsimp only at hSw); go_simp
      (try simp only [Act.put, List.getElem_toArray, List.getElem_cons_zero, List.getElem_cons_succ, List.setIfInBounds_toArray, List.set_cons_zero, List.set_cons_succ])
      refine wpAnyH_done (by kernel_rfl) ?_ _
      go_wp2
      go_ret
      exact ⟨rfl, hb.trans (hS.mono hb.size)⟩
    · skip
      obtain ⟨t1, t2, t3⟩ := FA.out.tr HBT.out.symm
      have hQB := FA.out.bytes HBB.out HFB.out
      have hql := FA.out.len
      have hqr := FA.out.some
      have hmz : 0 ≤ num * ru := Int.mul_nonneg (by omega) (by omega)
      have hmb : num * ru ≤ 400 * 64 := Int.mul_le_mul (by omega) (by omega) (by omega) (by omega)
      have hwp : IntKind.i64.wrap (num * ru) = num * ru := by rw [IntKind.wrap_i64] <;> omega
      have IP := fun (W' : World) (h : Rd .u8 W' af fs.length fs) => implReadPart_any af fs.length kf (num * ru) ru 400 fs W' h (by omega) Kf.out.1 Kf.out.2
      rw [t2, t3] at IP
      have HIP := hid IP
      have IQ := fun (W' : World) (h : RdB W' aq Q.length Q) (h2 : Rd .u8 W' af fs.length fs) => implCacheTrue_any ru rz aq Q.length kq Q af fs.length kf fs W' h h2 hQB HFB.out (by omega) (by omega) Kq.out.1 Kf.out.1 Kf.out.2
      rw [t1] at IQ
      have HIQ := hid IQ
      have HQB := hid hQB
      clear IP IQ t1 t2 t3 hQB hmz hmb HSR HCF
      go_wp2_with fail
      refine Calls.mono (HIP.out _ rf.read) ?_
      rintro e w5 ⟨vw, rfl, rw_, hc⟩
      obtain ⟨aw, kw, rfl, -, -⟩ := rw_.shape
      have s5 : w4.heap.size ≤ w5.heap.size := hc.size
      have bq := hc
      replace cC0 := cell_later bq cC0
      replace cC1 := cell_later bq cC1
      replace cC2 := cell_later bq cC2
      replace zC := Nat.lt_of_lt_of_le zC bq.size
      replace cF0 := cell_later bq cF0
      replace zF := Nat.lt_of_lt_of_le zF bq.size
      replace cR0 := cell_later bq cR0
      replace cR1 := cell_later bq cR1
      replace cR2 := cell_later bq cR2
      replace cR3 := cell_later bq cR3
      replace cR4 := cell_later bq cR4
      replace zR := Nat.lt_of_lt_of_le zR bq.size
      replace cA0 := cell_later bq cA0
      replace cA1 := cell_later bq cA1
      replace cA2 := cell_later bq cA2
      replace cA3 := cell_later bq cA3
      replace cA4 := cell_later bq cA4
      replace zA := Nat.lt_of_lt_of_le zA bq.size
      replace rc := rc.below bq
      replace rf := rf.below bq
      replace rr := rr.below bq
      replace rq := rq.below bq
      replace ra := ra.below bq
      replace rp := rp.below bq
      replace hb := hb.trans (bq.mono hb.size)
      clear hc bq
      clear hwp HIP
      go_wp2_with fail
      have bp : ∀ o0, Below w5.heap.size w5 (w5.alloc o0) := fun o0 => (Below.refl _ _).alloc (Nat.le_refl _) o0
      have hbt : ∀ o0, Below w.heap.size w (w5.alloc o0) := fun o0 => hb.trans ((bp o0).mono hb.size)
      refine Calls.mono (lwSame_yes ar aw R.length kr kw R _ (rr.below (bp _)).read (rw_.below (bp _)).read) ?_
      rintro e w6 ⟨rfl, hw⟩
      have hc : Below (w5.alloc (.cells #[.int .i64 0, .slice aw R.length kw] 38)).heap.size (w5.alloc (.cells #[.int .i64 0, .slice aw R.length kw] 38)) w6 := by rw [hw]; exact Below.refl _ _
      clear hw
      have s6 : w5.heap.size + 1 ≤ w6.heap.size := by have := hc.size; simp at this; omega
      have bq : Below w5.heap.size w5 w6 := (bp _).trans (hc.mono (bp _).size)
      replace cC0 := cell_later bq cC0
      replace cC1 := cell_later bq cC1
      replace cC2 := cell_later bq cC2
      replace zC := Nat.lt_of_lt_of_le zC bq.size
      replace cF0 := cell_later bq cF0
      replace zF := Nat.lt_of_lt_of_le zF bq.size
      replace cR0 := cell_later bq cR0
      replace cR1 := cell_later bq cR1
      replace cR2 := cell_later bq cR2
      replace cR3 := cell_later bq cR3
      replace cR4 := cell_later bq cR4
      replace zR := Nat.lt_of_lt_of_le zR bq.size
      replace cA0 := cell_later bq cA0
      replace cA1 := cell_later bq cA1
      replace cA2 := cell_later bq cA2
      replace cA3 := cell_later bq cA3
      replace cA4 := cell_later bq cA4
      replace zA := Nat.lt_of_lt_of_le zA bq.size
      have cW0 : w6.cell? ⟨w5.heap.size, 0, none⟩ = some (.int .i64 0) := cell_later hc (by simp [go_sem])
      have cW1 : w6.cell? ⟨w5.heap.size, 1, none⟩ = some (.slice aw R.length kw) := cell_later hc (by simp [go_sem])
      have zW : w5.heap.size < w6.heap.size := by omega
      replace rc := rc.below bq
      replace rf := rf.below bq
      replace rr := rr.below bq
      replace rq := rq.below bq
      replace ra := ra.below bq
      replace rp := rp.below bq
      replace rw_ := rw_.below bq
      replace hb := hb.trans (bq.mono hb.size)
      clear hc bq bp hbt
      go_wp2_with fail
      refine Calls.mono (HIQ.out _ rq.read rf.read) ?_
      rintro e w7 ⟨rfl, hc⟩
      have s7 : w6.heap.size ≤ w7.heap.size := hc.size
      have bq := hc
      replace cC0 := cell_later bq cC0
      replace cC1 := cell_later bq cC1
      replace cC2 := cell_later bq cC2
      replace zC := Nat.lt_of_lt_of_le zC bq.size
      replace cF0 := cell_later bq cF0
      replace zF := Nat.lt_of_lt_of_le zF bq.size
      replace cR0 := cell_later bq cR0
      replace cR1 := cell_later bq cR1
      replace cR2 := cell_later bq cR2
      replace cR3 := cell_later bq cR3
      replace cR4 := cell_later bq cR4
      replace zR := Nat.lt_of_lt_of_le zR bq.size
      replace cA0 := cell_later bq cA0
      replace cA1 := cell_later bq cA1
      replace cA2 := cell_later bq cA2
      replace cA3 := cell_later bq cA3
      replace cA4 := cell_later bq cA4
      replace zA := Nat.lt_of_lt_of_le zA bq.size
      replace cW0 := cell_later bq cW0
      replace cW1 := cell_later bq cW1
      replace zW := Nat.lt_of_lt_of_le zW bq.size
      replace rc := rc.below bq
      replace rf := rf.below bq
      replace rr := rr.below bq
      replace rq := rq.below bq
      replace ra := ra.below bq
      replace rp := rp.below bq
      replace rw_ := rw_.below bq
      replace hb := hb.trans (bq.mono hb.size)
      clear hc bq
      go_wp2_with fail
      refine Calls.mono (lwSame_yes aa ar R.length ka kr R _ ra.read rr.read) ?_
      rintro e w8 ⟨rfl, hw⟩
      have hc : Below w7.heap.size w7 w8 := by rw [hw]; exact Below.refl _ _
      clear hw
      have s8 : w7.heap.size ≤ w8.heap.size := hc.size
      have bq := hc
      replace cC0 := cell_later bq cC0
      replace cC1 := cell_later bq cC1
      replace cC2 := cell_later bq cC2
      replace zC := Nat.lt_of_lt_of_le zC bq.size
      replace cF0 := cell_later bq cF0
      replace zF := Nat.lt_of_lt_of_le zF bq.size
      replace cR0 := cell_later bq cR0
      replace cR1 := cell_later bq cR1
      replace cR2 := cell_later bq cR2
      replace cR3 := cell_later bq cR3
      replace cR4 := cell_later bq cR4
      replace zR := Nat.lt_of_lt_of_le zR bq.size
      replace cA0 := cell_later bq cA0
      replace cA1 := cell_later bq cA1
      replace cA2 := cell_later bq cA2
      replace cA3 := cell_later bq cA3
      replace cA4 := cell_later bq cA4
      replace zA := Nat.lt_of_lt_of_le zA bq.size
      replace cW0 := cell_later bq cW0
      replace cW1 := cell_later bq cW1
      replace zW := Nat.lt_of_lt_of_le zW bq.size
      replace rc := rc.below bq
      replace rf := rf.below bq
      replace rr := rr.below bq
      replace rq := rq.below bq
      replace ra := ra.below bq
      replace rp := rp.below bq
      replace rw_ := rw_.below bq
      replace hb := hb.trans (bq.mono hb.size)
      clear hc bq
      rcases hqr with h0 | h0
      · have h0' : (R.length : Int) = 0 := by omega
        go_wp2
        all_goals (go_ret; exact ⟨rfl, hb⟩)
      · by_cases h1 : (R.length : Int) = 0
        · go_wp2
          all_goals (go_ret; exact ⟨rfl, hb⟩)
        · have h0' : (0 : Int) < (Q.length : Int) := by omega
          go_wp2
          all_goals (go_ret; exact ⟨rfl, hb⟩)
  · go_enter Try.func3, Try.ntmps3
    go_wp2
    go_ret
    exact ⟨rfl, Below.refl _ _⟩
end Go.Proofs.Ytckkkhabjfbngaa.fnBlocks

namespace Go.Proofs.Ytckkkhabjfbngaa.fnBlocks
open Go.ChangeShapes Go.WideShapes Go.ChangeAt Go.RowKit
set_option linter.unusedVariables false

theorem own : ownKnob Try.prog.godebug = none := by kernel_rfl
theorem laidOut : laidOutB Try.prog = true := by kernel_rfl

set_option maxRecDepth 100000 in
theorem lifted (os : Os) (started : os.Started) (H : Type) (enc : TypeId × Value → H) :
    ReturnsInHanded {} Try.checked os 3 .any (Rows.fnBlocksSpec.pre6 enc Try.prog Try.f3 Rows.fnBlocksRow.domain false) (Rows.fnBlocksSpec.post enc Try.prog Try.f3 false true false false) := by
  refine returnsInHanded_of_change (C := Try.checked) own started (by kernel_rfl) Try.func3
    (ChangeSpec.witness6 (enc := enc) (C := Try.checked) false ⟨#[], #[.slice none 0 0], []⟩ 8 (by kernel_rfl) (by kernel_rfl) (by kernel_rfl) (by kernel_rfl)) ?_
  intro W base args ds gs before hval0 hW hcnd _
  have hval : ∀ (j : Nat) t v, Try.f3.params[j]? = some t → args[j]? = some v → Value.okWide Try.prog W .any base t v := hval0
  have hW' := hW
  obtain ⟨p, q, hA0, hV, rfl, hfz, hnd⟩ := hW
  have hA : DataW.TrodAll enc Try.prog W 0 (fun _ => true) true Try.f3.params.toList args.toList ds p := hA0
  rw [Try.params3] at hA hval
  obtain ⟨v0, d0, rfl, rfl, h0⟩ := trodAll_one hA
  obtain ⟨rfl, rfl⟩ := trodVars_none hV
  obtain ⟨a0, len0, cap0, rfl⟩ := okWide_slice Try.underlying22 (hval 0 22 v0 rfl rfl)
  have k0 := h0
  have lt0 : ∀ x ∈ p, x.block < W.heap.size := by obtain ⟨m, hm⟩ := k0; exact DataW.trod_lt m _ _ _ hm
  obtain ⟨x0, hr0, hB0, hm0⟩ := open_bytes Try.underlying22 Try.underlying5 (by kernel_rfl) h0
  clear hA0 hval0
  refine (walk a0 len0 cap0 x0 W hr0 hB0 hm0).mono fun e W' ⟨he, bel⟩ => ?_
  subst he
  exact ⟨_, rfl, _, _, _, [], _, [], hW', trodAll_mk1 (shut_bool Try.underlying4 _), trodAll_mk1 (Below.trod laidOut (by kernel_rfl) (of_decide_eq_true (by kernel_rfl)) k0 bel lt0), rfl, bel.frame _, fun h => by cases h⟩

theorem proved : Rows.FnBlocksSaid :=
  OpenClaim.holds_of_wide 3 Try.f3 rfl rfl rfl rfl rfl rfl rfl ⟨rfl, rfl, rfl, rfl, rfl⟩ rfl rfl rfl rfl rfl (by kernel_rfl) Try.func3 (by kernel_rfl)
    (of_decide_eq_true (by kernel_rfl)) (by unfold Func.isWrapper; first | (rw [if_pos (by decide +kernel)]; kernel_rfl) | (rw [if_neg (by decide +kernel)]; exact ⟨rfl, rfl⟩))
    (fun os started H enc _ => lifted os started H enc)
end Go.Proofs.Ytckkkhabjfbngaa.fnBlocks
namespace Go.Proofs.Ytckkkhabjfbngaa
theorem fnBlocks_proved : Rows.FnBlocksSaid := fnBlocks.proved
end Go.Proofs.Ytckkkhabjfbngaa
