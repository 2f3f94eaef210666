/-
  The walk of FnExactCellsOf.
-/
import Derived.Test.YtjnbegemdhkciaaCells3
import Derived.Test.YtjnbegemdhkciaaHlpD
import Derived.Test.YtjnbegemdhkciaaHlp1
import Derived.Test.YtjnbegemdhkciaaArgs
namespace Go.Proofs.Ytjnbegemdhkciaa.fnExactCellsOf
open Go.ChangeShapes Go.WideShapes Go.ChangeAt Go.RowKit
set_option linter.unusedVariables false


theorem res_len {xs : List Int} (h : Bytes xs) : (cellsRes xs).length ≤ 1600 := by
  unfold cellsRes
  split
  · simp
  · have := cellsAll_len h
    omega

set_option maxRecDepth 10000 in
set_option maxHeartbeats 1600000 in
theorem walk (a : Option Addr) (n ca : Nat) (xs : List Int) (w : World) (ha : Rd .u8 w a n xs) (hB : Bytes xs) (hm : n ≤ maxLen) :
    Calls Try.prog 7 #[.slice a n ca] w fun e w' => e = .returned (.bool true) ∧ Below w.heap.size w w' := by
  unfold maxLen at hm
  by_cases hn : n ≤ 1048576
  · have hrl := res_len hB
    have T := fun w' h => toByteS_any a n ca xs w' h (by omega)
    have SC := fun a1 cap1 w' h => specCellsOf_any a1 n cap1 xs w' h hB (by omega)
    have IC := fun a1 cap1 w' h h1 h2 => implCellsOf_any a1 n cap1 xs w' h hB (by omega) h1 h2
    generalize cellsCode xs = cd at *
    generalize cellsRes xs = cs at *
    generalize hm : cs.length = m at *
    clear hm
    have HT : Hid _ := T
    have HSC : Hid _ := SC
    have HIC : Hid _ := IC
    clear T SC IC
    go_enter Try.func7, Try.ntmps7
    go_wp2_with fail
    refine Calls.mono (HT.out _ ha) ?_
    rintro e w1 ⟨v1, rfl, ho1, hb1⟩
    obtain ⟨a1, cap1, hv1, hr1, _⟩ := ho1.rd
    subst hv1
    go_wp2_with fail
    refine Calls.mono (HSC.out a1 cap1 _ hr1) ?_
    rintro e w2 ⟨v2, rfl, hw0, hb2⟩
    obtain ⟨aw, cw, hv2, _⟩ := hw0.rd cellE_len
    subst hv2
    have hb02 : Below w.heap.size w w2 := hb1.trans (hb2.mono hb1.size)
    have lw := hw0.lt
    have z02 : w.heap.size ≤ w2.heap.size := hb02.size
    clear hb2 hr1 ho1 hb1
    -- w0 lies in the block w2.heap.size
    go_wp2_with fail
    have hb23 : Below w2.heap.size w2 (w2.alloc (.cells #[.int .i64 cd, .slice aw m cw] 37)) := (Below.refl _ _).alloc (Nat.le_refl _) _
    have hb03 : Below w.heap.size w (w2.alloc (.cells #[.int .i64 cd, .slice aw m cw] 37)) := hb02.alloc hb02.size _
    refine Calls.mono (HT.out _ (ha.below hb03)) ?_
    rintro e w3 ⟨v3, rfl, hx3, hb3⟩
    obtain ⟨a3, cap3, hv3, hr3, hc3, hm3⟩ := hx3.rdc
    subst hv3
    have c0 : w3.cell? ⟨w2.heap.size, 0, none⟩ = some (.int .i64 cd) := (hb3.cell (p := ⟨w2.heap.size, 0, none⟩) (by simp)).trans (by simp)
    have c1 : w3.cell? ⟨w2.heap.size, 1, none⟩ = some (.slice aw m cw) := (hb3.cell (p := ⟨w2.heap.size, 1, none⟩) (by simp)).trans (by simp)
    have z23 : w2.heap.size < w3.heap.size := by have := hb3.size; simp at this; omega
    have b23 : Below w2.heap.size w2 w3 := hb23.trans (hb3.mono (by simp))
    have hw3 := hw0.below b23
    have hb04 : Below w.heap.size w w3 := hb02.trans (b23.mono hb02.size)
    have lx := hx3.lt
    clear hb3 hb03 hb23 b23 hw0 hb02
    have C := HIC.out a3 cap3 _ hr3 hc3 hm3
    have HC : Hid _ := C
    clear C hc3 hm3 hr3
    go_wp2_with fail
    refine Calls.mono HC.out ?_
    rintro e w4 ⟨v4, rfl, hg4, hb4⟩
    obtain ⟨ag, cg, hv4, _⟩ := hg4.rd cellE_len
    subst hv4
    have z34 := hb4.size
    have lg := hg4.lt
    have d0 := cell_later hb4 c0
    have d1 := cell_later hb4 c1
    have hw4 := hw3.below hb4
    have hx4 := hx3.below hb4
    have hb05 : Below w.heap.size w w4 := hb04.trans (hb4.mono hb04.size)
    have z24 : w2.heap.size < w4.heap.size := by omega
    clear hb4 c0 c1 hw3 hx3 hb04 HC
    go_wp2_with fail
    have b45 : Below w4.heap.size w4 (w4.alloc (.cells #[.int .i64 cd, .slice ag m cg] 37)) := (Below.refl _ _).alloc (Nat.le_refl _) _
    refine (eqCellsResult_yes cd ag aw m cg cw cs _ (OwnR.read cellE_len (hg4.below b45)) (OwnR.read cellE_len (hw4.below b45)) (by omega)).mono ?_
    rintro e w5 ⟨rfl, hb5⟩
    have g0 : w5.cell? ⟨w4.heap.size, 0, none⟩ = some (.int .i64 cd) := (hb5.cell (p := ⟨w4.heap.size, 0, none⟩) (by simp)).trans (by simp)
    have g1 : w5.cell? ⟨w4.heap.size, 1, none⟩ = some (.slice ag m cg) := (hb5.cell (p := ⟨w4.heap.size, 1, none⟩) (by simp)).trans (by simp)
    have z45 : w4.heap.size < w5.heap.size := by have := hb5.size; simp at this; omega
    have b05 := b45.trans (hb5.mono (by simp))
    have d50 := cell_later b05 d0
    have d51 := cell_later b05 d1
    have hw5 := hw4.below b05
    have hg5 := hg4.below b05
    have hx5 := hx4.below b05
    have hb06 : Below w.heap.size w w5 := hb05.trans (b05.mono hb05.size)
    clear hb5 b45 b05 d0 d1 hw4 hg4 hx4 hb05
    -- the argument is as it was
    go_wp2_with fail
    refine Calls.mono (HT.out _ (ha.below hb06)) ?_
    rintro e w6 ⟨v6, rfl, hy6, hb6⟩
    obtain ⟨a6, cap6, hv6, hr6, _⟩ := hy6.rd
    subst hv6
    have g60 := cell_later hb6 g0
    have g61 := cell_later hb6 g1
    have d60 := cell_later hb6 d50
    have d61 := cell_later hb6 d51
    have hw6 := hw5.below hb6
    have hg6 := hg5.below hb6
    have hx6 := hx5.below hb6
    have z56 := hb6.size
    have hb07 : Below w.heap.size w w6 := hb06.trans (hb6.mono hb06.size)
    clear hb6 g0 g1 d50 d51 hw5 hg5 hx5 hb06 hy6
    go_wp2_with fail
    refine (eqByteS_any a3 a6 n n cap3 cap6 xs xs _ (Own.read hx6) hr6 (by unfold maxLen; omega) (by unfold maxLen; omega)).mono ?_
    have e1 : decide (xs = xs) = true := by simp
    rw [e1]
    clear e1
    rintro e w7 ⟨rfl, q, rfl⟩
    -- the argument is written over: the answer stands
    have hx7 : Own .u8 5 (w6.drewN q) _ (.slice a3 n cap3) n xs := hx6
    go_wp2_with fail
    refine (markByteS_own _ n _ xs 1 _ hx7 (by omega) (by omega) (by omega)).mono ?_
    rintro e w8 ⟨rfl, _, gr8⟩
    have z68 : w6.heap.size ≤ w8.heap.size := gr8.size
    have gr8' : w6.grownBy w8 (Value.slice a3 n cap3).ownBlock := ⟨gr8.os, gr8.tape, gr8.output, gr8.size, gr8.block⟩
    have g80 := grown_cell gr8' g60 (fun j hj => by have := (lx j hj).2; simp; omega)
    have g81 := grown_cell gr8' g61 (fun j hj => by have := (lx j hj).2; simp; omega)
    have d80 := grown_cell gr8' d60 (fun j hj => by have := (lx j hj).1; simp at this ⊢; omega)
    have d81 := grown_cell gr8' d61 (fun j hj => by have := (lx j hj).1; simp at this ⊢; omega)
    have hw8 := hw6.kept gr8' (rows_apart hw6.2 hx6 (by decide))
    have hg8 := hg6.kept gr8' (rows_apart hg6.2 hx6 (by decide))
    have hb08 : Below w.heap.size w w8 := hb07.grown gr8' hb07.size (fun j hj => by have h5 := (lx j hj).1; simp at h5; omega)
    clear gr8 gr8' g60 g61 d60 d61 hw6 hg6 hx6 hx7 hb07 hr6
    go_wp2_with fail
    refine (eqCellsResult_yes cd ag aw m cg cw cs _ (OwnR.read cellE_len hg8) (OwnR.read cellE_len hw8) (by omega)).mono ?_
    rintro e w9 ⟨rfl, hb9⟩
    have g90 := cell_later hb9 g80
    have g91 := cell_later hb9 g81
    have d90 := cell_later hb9 d80
    have d91 := cell_later hb9 d81
    have hw9 := hw8.below hb9
    have hg9 := hg8.below hb9
    have z89 := hb9.size
    have hb09 : Below w.heap.size w w9 := hb08.trans (hb9.mono hb08.size)
    clear hb9 g80 g81 d80 d81 hw8 hg8 hb08
    -- the answer is written over, and held
    go_wp2_with fail
    refine (markCellsResult_own cd 1 _ m _ cs _ hg9 (by omega) (by omega) (by omega)).mono ?_
    rintro e wa ⟨rfl, hga, gra⟩
    have z9a := gra.size
    have ga0 := grown_cell gra g90 (fun j hj => by have := (lg j hj).2; simp; omega)
    have ga1 := grown_cell gra g91 (fun j hj => by have := (lg j hj).2; simp; omega)
    have da0 := grown_cell gra d90 (fun j hj => by have := (lg j hj).1; simp; omega)
    have da1 := grown_cell gra d91 (fun j hj => by have := (lg j hj).1; simp; omega)
    have hwa := hw9.kept gra (fun j hj hk => by have h1 := (lw j hj).2; have h2 := (lg j hk).1; omega)
    have hb0a : Below w.heap.size w wa := hb09.grown gra hb09.size (fun j hj => by have h5 := (lg j hj).1; omega)
    clear gra g90 g91 d90 d91 hw9 hg9 hb09
    go_wp2_with fail
    refine (heldCellsResult_yes cd 1 ag m cg _ (OwnR.read cellE_len hga) (by omega) (by omega) (by omega)).mono ?_
    rintro e wb ⟨rfl, hbb⟩
    have gb0 := cell_later hbb ga0
    have gb1 := cell_later hbb ga1
    have db0 := cell_later hbb da0
    have db1 := cell_later hbb da1
    have hwb := hwa.below hbb
    have hgb := hga.below hbb
    have zab := hbb.size
    have hb0b : Below w.heap.size w wb := hb0a.trans (hbb.mono hb0a.size)
    clear hbb ga0 ga1 da0 da1 hwa hga hb0a
    -- another call
    go_wp2_with fail
    refine Calls.mono (HT.out _ (ha.below hb0b)) ?_
    rintro e wc ⟨vc, rfl, hxc, hbc⟩
    obtain ⟨ac, capc, hvc, hrc, hcc, hmc⟩ := hxc.rdc
    subst hvc
    have gc0 := cell_later hbc gb0
    have gc1 := cell_later hbc gb1
    have dc0 := cell_later hbc db0
    have dc1 := cell_later hbc db1
    have hwc := hwb.below hbc
    have hgc := hgb.below hbc
    have zbc := hbc.size
    have hb0c : Below w.heap.size w wc := hb0b.trans (hbc.mono hb0b.size)
    clear hbc gb0 gb1 db0 db1 hwb hgb hb0b hxc
    have C := HIC.out ac capc _ hrc hcc hmc
    have HC : Hid _ := C
    clear C hcc hmc hrc
    go_wp2_with fail
    refine Calls.mono HC.out ?_
    rintro e wd ⟨vd, rfl, hhd, hbd⟩
    obtain ⟨ah, ch, hvd, _⟩ := hhd.rd cellE_len
    subst hvd
    have gd0 := cell_later hbd gc0
    have gd1 := cell_later hbd gc1
    have dd0 := cell_later hbd dc0
    have dd1 := cell_later hbd dc1
    have hwd := hwc.below hbd
    have hgd := hgc.below hbd
    have zcd := hbd.size
    have hb0d : Below w.heap.size w wd := hb0c.trans (hbd.mono hb0c.size)
    have y2 : w2.heap.size < wd.heap.size := by omega
    have y4 : w4.heap.size < wd.heap.size := by omega
    clear hbd gc0 gc1 dc0 dc1 hwc hgc hb0c HC
    go_wp2_with fail
    have bde : Below wd.heap.size wd (wd.alloc (.cells #[.int .i64 cd, .slice ah m ch] 37)) := (Below.refl _ _).alloc (Nat.le_refl _) _
    refine (eqCellsResult_yes cd ah aw m ch cw cs _ (OwnR.read cellE_len (hhd.below bde)) (OwnR.read cellE_len (hwd.below bde)) (by omega)).mono ?_
    rintro e we ⟨rfl, hbe⟩
    have bde' := bde.trans (hbe.mono (by simp))
    have ge0 := cell_later bde' gd0
    have ge1 := cell_later bde' gd1
    have hge := hgd.below bde'
    have hb0e : Below w.heap.size w we := hb0d.trans (bde'.mono hb0d.size)
    clear hbe bde bde' gd0 gd1 dd0 dd1 hwd hgd hhd hb0d
    go_wp2_with fail
    refine (heldCellsResult_yes cd 1 ag m cg _ (OwnR.read cellE_len hge) (by omega) (by omega) (by omega)).mono ?_
    rintro e wf ⟨rfl, hbf⟩
    go_wp2
    go_ret
    exact ⟨rfl, hb0e.trans (hbf.mono hb0e.size)⟩
  · go_enter Try.func7, Try.ntmps7
    go_wp2
    go_ret
    exact ⟨rfl, Below.refl _ _⟩
end Go.Proofs.Ytjnbegemdhkciaa.fnExactCellsOf
