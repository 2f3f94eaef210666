/-
  The walk of FnCuts.
-/
import Derived.Test.YthdglflipeggpaaDraw10
import Derived.Test.YthdglflipeggpaaLwAt
import Derived.Test.YthdglflipeggpaaCutN
import Derived.Test.YthdglflipeggpaaFiles3
import Derived.Deep.RegionWith
import Derived.Deep.RegionHeld3
namespace Go.Proofs.Ythdglflipeggpaa.fnCuts
open Go.RowKit
set_option linter.unusedVariables false
set_option linter.unusedSimpArgs false

theorem fldI0 (x y z u p q : Value) (w : World) : (Instr.field 34 (.agg #[x, y, z, u, p, q]) 0).run Try.prog w = .ok x w := by kernel_rfl

theorem ni_same (t : Int) : niCode t = 0 → niE t = t := by
  intro h
  by_cases q : t < 1 ∨ 9 < t
  · rw [(ni_bad q).1] at h; simp at h
  · exact (ni_good q).2.1

set_option maxRecDepth 20000 in
set_option maxHeartbeats 12800000 in
theorem walk (a : Option Addr) (n ca : Nat) (xs : List Int) (w : World) (hr0 : Rd .u8 w a n xs) (hB : Bytes xs) (hm : n ≤ maxLen) :
    Calls Try.prog 3 #[.slice a n ca] w fun e w' => e = .returned (.bool true) ∧ Below w.heap.size w w' := by
  unfold maxLen at hm
  by_cases hn : n ≤ 1048576
  · go_enter Try.func3, Try.ntmps3
    go_wp2_with (go_at_call 9; go_in)
    refine (DrawIndexTrue_any a n ca xs _ hr0 hB hn).mono ?_
    rintro e w1 ⟨E, L, Z, vx, ms, vf, fs, rfl, rx, hl1, rf, hl2, hfb, hb⟩
    obtain ⟨ax, kx, rfl, q1, q2⟩ := rx.shape
    have Kx : Hid _ := And.intro q1 q2
    clear q1 q2
    obtain ⟨af, kf, rfl, q1, q2⟩ := rf.shape
    have Kf : Hid _ := And.intro q1 q2
    clear q1 q2
    have s1 := hb.size
    go_wp2_with fail
    have bp : ∀ o0 o1, Below w1.heap.size w1 ((w1.alloc o0).alloc o1) := fun o0 o1 => ((Below.refl _ _).alloc (Nat.le_refl _) o0).alloc (by simp) o1
    have hbt : ∀ o0 o1, Below w.heap.size w ((w1.alloc o0).alloc o1) := fun o0 o1 => hb.trans ((bp o0 o1).mono hb.size)
    refine Calls.mono (DrawCutIndex_any a n ca xs _ (hr0.below (hbt _ _)) hB hn) ?_
    rintro e w2 ⟨E2, L2, Z2, vy, ms2, sq, rfl, ry, hl3, hc⟩
    obtain ⟨ay, ky, rfl, q1, q2⟩ := ry.shape
    have Ky : Hid _ := And.intro q1 q2
    clear q1 q2
    replace ry := RowI.mono (lo' := w1.heap.size + 2) ry (by simp) (Nat.le_refl _)
    have s2 : w1.heap.size + 2 ≤ w2.heap.size := by have := hc.size; simp at this; omega
    have bq : Below w1.heap.size w1 w2 := (bp _ _).trans (hc.mono (bp _ _).size)
    have cX0 : w2.cell? ⟨w1.heap.size, 0, none⟩ = some (.int .i64 E) := cell_later hc (by simp [go_sem])
    have cX1 : w2.cell? ⟨w1.heap.size, 1, none⟩ = some (.slice ax ms.length kx) := cell_later hc (by simp [go_sem])
    have cX2 : w2.cell? ⟨w1.heap.size, 2, none⟩ = some (.int .i64 L) := cell_later hc (by simp [go_sem])
    have cX3 : w2.cell? ⟨w1.heap.size, 3, none⟩ = some (.int .i64 Z) := cell_later hc (by simp [go_sem])
    have zX : w1.heap.size < w2.heap.size := by omega
    have cF0 : w2.cell? ⟨w1.heap.size + 1, 0, none⟩ = some (.slice af fs.length kf) := cell_later hc (by simp [go_sem])
    have zF : w1.heap.size + 1 < w2.heap.size := by omega
    replace rx := rx.below bq
    replace rf := rf.below bq
    replace hb := hb.trans (bq.mono hb.size)
    clear hc bq bp hbt
    have IC := fun (W' : World) (h : Rd .i64 W' ay ms2.length ms2) => implCutIndex_any E2 ay ms2.length ky ms2 L2 Z2 sq W' h (by omega) Ky.out.1 Ky.out.2
    have SC := fun (W' : World) (h : Rd .i64 W' ay ms2.length ms2) => specCutIndex_any E2 ay ms2.length ky ms2 L2 Z2 sq W' h (by omega) Ky.out.1 Ky.out.2
    have hA := cu_fault (E := E2) (L := L2) (Z := Z2) (s := sq) (ms := ms2)
    have hcm := cuM_len E2 ms2 L2 Z2 sq
    generalize cuCode E2 ms2 L2 Z2 sq = cc at IC SC hA
    generalize cuE E2 ms2 L2 Z2 sq = ce at IC SC hA
    generalize cuM E2 ms2 L2 Z2 sq = cm at IC SC hA hcm
    generalize cuL E2 ms2 L2 Z2 sq = cl at IC SC hA
    generalize cuZ E2 ms2 L2 Z2 sq = cz at IC SC hA
    have HIC := hid IC
    have HSC := hid SC
    have HA := hid hA
    clear IC SC hA
    have IT := fun (W' : World) (h : Rd .i64 W' ax ms.length ms) (h2 : Rd .u8 W' af fs.length fs) => implIndexTrue_any E ax ms.length kx ms L Z af fs.length kf fs W' h h2 (by omega) (by omega) Kx.out.1 Kx.out.2 Kf.out.1 Kf.out.2
    have ST := fun (W' : World) (h : Rd .i64 W' ax ms.length ms) (h2 : Rd .u8 W' af fs.length fs) => specIndexTrue_any E ax ms.length kx ms L Z af fs.length kf fs W' h h2 (by omega) (by omega) Kx.out.1 Kx.out.2 Kf.out.1 Kf.out.2
    obtain ⟨B, hBt⟩ : ∃ B, B = indexTrue E ms L Z fs := ⟨_, rfl⟩
    rw [← hBt] at IT ST
    have HBT := hid hBt
    have HIT := hid IT
    have HST := hid ST
    clear IT ST hBt
    go_wp2_with fail
    have bp : ∀ o0, Below w2.heap.size w2 (w2.alloc o0) := fun o0 => (Below.refl _ _).alloc (Nat.le_refl _) o0
    have hbt : ∀ o0, Below w.heap.size w (w2.alloc o0) := fun o0 => hb.trans ((bp o0).mono hb.size)
    refine Calls.mono (HIC.out _ (ry.below (bp _)).read) ?_
    rintro e w3 ⟨vc, rfl, rc, hc⟩
    obtain ⟨ac, kc, rfl, q1, q2⟩ := rc.shape
    have Kc : Hid _ := And.intro q1 q2
    clear q1 q2
    replace rc := RowI.mono (lo' := w2.heap.size + 1) rc (by simp) (Nat.le_refl _)
    have s3 : w2.heap.size + 1 ≤ w3.heap.size := by have := hc.size; simp at this; omega
    have bq : Below w2.heap.size w2 w3 := (bp _).trans (hc.mono (bp _).size)
    replace cX0 := cell_later bq cX0
    replace cX1 := cell_later bq cX1
    replace cX2 := cell_later bq cX2
    replace cX3 := cell_later bq cX3
    replace zX := Nat.lt_of_lt_of_le zX bq.size
    replace cF0 := cell_later bq cF0
    replace zF := Nat.lt_of_lt_of_le zF bq.size
    have cY0 : w3.cell? ⟨w2.heap.size, 0, none⟩ = some (.int .i64 E2) := cell_later hc (by simp [go_sem])
    have cY1 : w3.cell? ⟨w2.heap.size, 1, none⟩ = some (.slice ay ms2.length ky) := cell_later hc (by simp [go_sem])
    have cY2 : w3.cell? ⟨w2.heap.size, 2, none⟩ = some (.int .i64 L2) := cell_later hc (by simp [go_sem])
    have cY3 : w3.cell? ⟨w2.heap.size, 3, none⟩ = some (.int .i64 Z2) := cell_later hc (by simp [go_sem])
    have zY : w2.heap.size < w3.heap.size := by omega
    replace rx := rx.below bq
    replace rf := rf.below bq
    replace ry := ry.below bq
    replace hb := hb.trans (bq.mono hb.size)
    clear hc bq bp hbt
    clear HIC
    go_wp2_with fail
    have hc : Below w3.heap.size w3 (w3.alloc (.cells #[.int .i64 cc, .int .i64 0, .int .i64 ce, .slice ac cm.length kc, .int .i64 cl, .int .i64 cz] 34)).drew := ((Below.refl _ _).alloc (Nat.le_refl _) _).drew
    have cC0 : (w3.alloc (.cells #[.int .i64 cc, .int .i64 0, .int .i64 ce, .slice ac cm.length kc, .int .i64 cl, .int .i64 cz] 34)).drew.cell? ⟨w3.heap.size, 0, none⟩ = some (.int .i64 cc) := by simp [go_sem]
    have cC1 : (w3.alloc (.cells #[.int .i64 cc, .int .i64 0, .int .i64 ce, .slice ac cm.length kc, .int .i64 cl, .int .i64 cz] 34)).drew.cell? ⟨w3.heap.size, 1, none⟩ = some (.int .i64 0) := by simp [go_sem]
    have cC2 : (w3.alloc (.cells #[.int .i64 cc, .int .i64 0, .int .i64 ce, .slice ac cm.length kc, .int .i64 cl, .int .i64 cz] 34)).drew.cell? ⟨w3.heap.size, 2, none⟩ = some (.int .i64 ce) := by simp [go_sem]
    have cC3 : (w3.alloc (.cells #[.int .i64 cc, .int .i64 0, .int .i64 ce, .slice ac cm.length kc, .int .i64 cl, .int .i64 cz] 34)).drew.cell? ⟨w3.heap.size, 3, none⟩ = some (.slice ac cm.length kc) := by simp [go_sem]
    have cC4 : (w3.alloc (.cells #[.int .i64 cc, .int .i64 0, .int .i64 ce, .slice ac cm.length kc, .int .i64 cl, .int .i64 cz] 34)).drew.cell? ⟨w3.heap.size, 4, none⟩ = some (.int .i64 cl) := by simp [go_sem]
    have cC5 : (w3.alloc (.cells #[.int .i64 cc, .int .i64 0, .int .i64 ce, .slice ac cm.length kc, .int .i64 cl, .int .i64 cz] 34)).drew.cell? ⟨w3.heap.size, 5, none⟩ = some (.int .i64 cz) := by simp [go_sem]
    have zC : w3.heap.size < (w3.alloc (.cells #[.int .i64 cc, .int .i64 0, .int .i64 ce, .slice ac cm.length kc, .int .i64 cl, .int .i64 cz] 34)).drew.heap.size := by simp [World.size_alloc]
    refine wp_region_held_drew (S := fun w' => Below (w3.alloc (.cells #[.int .i64 cc, .int .i64 0, .int .i64 ce, .slice ac cm.length kc, .int .i64 cl, .int .i64 cz] 34)).drew.heap.size (w3.alloc (.cells #[.int .i64 cc, .int .i64 0, .int .i64 ce, .slice ac cm.length kc, .int .i64 cl, .int .i64 cz] 34)).drew w') (by kernel_rfl) (Below.refl _ _) (fun hS => ?_)
    replace rx := rx.below hc
    replace rf := rf.below hc
    replace ry := ry.below hc
    replace rc := rc.below hc
    replace cX0 := cell_later hc cX0
    replace cX1 := cell_later hc cX1
    replace cX2 := cell_later hc cX2
    replace cX3 := cell_later hc cX3
    replace zX := Nat.lt_of_lt_of_le zX hc.size
    replace cF0 := cell_later hc cF0
    replace zF := Nat.lt_of_lt_of_le zF hc.size
    replace cY0 := cell_later hc cY0
    replace cY1 := cell_later hc cY1
    replace cY2 := cell_later hc cY2
    replace cY3 := cell_later hc cY3
    replace zY := Nat.lt_of_lt_of_le zY hc.size
    replace hb := hb.trans (hc.mono hb.size)
    clear hc
    generalize (w3.alloc (.cells #[.int .i64 cc, .int .i64 0, .int .i64 ce, .slice ac cm.length kc, .int .i64 cl, .int .i64 cz] 34)).drew = w4 at *
    have fC := fldI0
    refine wpAnyH_take (i := 0) (v := (.pointer (some ⟨w3.heap.size, 0, none⟩))) rfl (by as_aux_lemma => kernel_rfl) (by as_aux_lemma => kernel_rfl) (by as_aux_lemma => kernel_rfl) (fun _ _ _ h => h) (Or.inl ⟨by kernel_rfl, ?_⟩) hS ?_
    · intro w hSw; (try dsimp only at hSw); go_simp
    (try simp only [Act.put, List.getElem_toArray, List.getElem_cons_zero, List.getElem_cons_succ, List.setIfInBounds_toArray, List.set_cons_zero, List.set_cons_succ])
    refine wpAnyH_take (i := 1) (v := (.int .i64 cc)) rfl (by as_aux_lemma => kernel_rfl) (by as_aux_lemma => kernel_rfl) (by as_aux_lemma => kernel_rfl) (fun _ _ _ h => h) (Or.inl ⟨by kernel_rfl, ?_⟩) hS ?_
    · intro w hSw; (try dsimp only at hSw); have hl0 := cell_later hSw cC0; go_simp
    (try simp only [Act.put, List.getElem_toArray, List.getElem_cons_zero, List.getElem_cons_succ, List.setIfInBounds_toArray, List.set_cons_zero, List.set_cons_succ])
    refine wpAnyH_take (i := 2) (v := (.agg #[.int .i64 E2, .slice ay ms2.length ky, .int .i64 L2, .int .i64 Z2])) rfl (by as_aux_lemma => kernel_rfl) (by as_aux_lemma => kernel_rfl) (by as_aux_lemma => kernel_rfl) (fun _ _ _ h => h) (Or.inl ⟨by kernel_rfl, ?_⟩) hS ?_
    · intro w hSw; (try dsimp only at hSw); have hl0 := cell_later hSw cY0; have hl1 := cell_later hSw cY1; have hl2 := cell_later hSw cY2; have hl3 := cell_later hSw cY3; go_simp
    (try simp only [Act.put, List.getElem_toArray, List.getElem_cons_zero, List.getElem_cons_succ, List.setIfInBounds_toArray, List.set_cons_zero, List.set_cons_succ])
    refine wpAnyH_take (i := 3) (v := (.int .i64 sq)) rfl (by as_aux_lemma => kernel_rfl) (by as_aux_lemma => kernel_rfl) (by as_aux_lemma => kernel_rfl) (fun _ _ _ h => h) (Or.inl ⟨by kernel_rfl, ?_⟩) hS ?_
    · intro w hSw; (try dsimp only at hSw); go_simp
    (try simp only [Act.put, List.getElem_toArray, List.getElem_cons_zero, List.getElem_cons_succ, List.setIfInBounds_toArray, List.set_cons_zero, List.set_cons_succ])
    refine wpAnyH_ready (rs := [4]) (by as_aux_lemma => kernel_rfl) (by simp) ?_
    refine AllReadyH.cons rfl (fun K hK => ?_) AllReadyH.nil
    go_simp
    refine Calls.mono (HSC.out _ (ry.below hS).read) ?_
    rintro e u ⟨vs, rfl, -, hc⟩
    refine hK.out _ _ (hS.trans (hc.mono hS.size)) (fun hS => ?_)
    clear hK K hc
    (try simp only [Act.put, List.getElem_toArray, List.getElem_cons_zero, List.getElem_cons_succ, List.setIfInBounds_toArray, List.set_cons_zero, List.set_cons_succ])
    refine wpAnyH_take (i := 5) (v := (.int .i64 cc)) rfl (by as_aux_lemma => kernel_rfl) (by as_aux_lemma => kernel_rfl) (by as_aux_lemma => kernel_rfl) (fun _ _ _ h => h) (Or.inl ⟨by kernel_rfl, ?_⟩) hS ?_
    · intro w hSw; (try dsimp only at hSw); go_simp
    (try simp only [Act.put, List.getElem_toArray, List.getElem_cons_zero, List.getElem_cons_succ, List.setIfInBounds_toArray, List.set_cons_zero, List.set_cons_succ])
    refine wpAnyH_take (i := 6) (v := (.bool false)) rfl (by as_aux_lemma => kernel_rfl) (by as_aux_lemma => kernel_rfl) (by as_aux_lemma => kernel_rfl) (fun _ _ _ h => h) (Or.inl ⟨by kernel_rfl, ?_⟩) hS ?_
    · intro w hSw; (try dsimp only at hSw); go_simp
    (try simp only [Act.put, List.getElem_toArray, List.getElem_cons_zero, List.getElem_cons_succ, List.setIfInBounds_toArray, List.set_cons_zero, List.set_cons_succ])
    refine wpAnyH_take (i := 7) (v := (.bool false)) rfl (by as_aux_lemma => kernel_rfl) (by as_aux_lemma => kernel_rfl) (by as_aux_lemma => kernel_rfl) (fun _ _ _ h => h) (Or.inl ⟨by kernel_rfl, ?_⟩) hS ?_
    · intro w hSw; (try dsimp only at hSw); go_simp
    (try simp only [Act.put, List.getElem_toArray, List.getElem_cons_zero, List.getElem_cons_succ, List.setIfInBounds_toArray, List.set_cons_zero, List.set_cons_succ])
    refine wpAnyH_take (i := 8) (v := (.agg #[.int .i64 E, .slice ax ms.length kx, .int .i64 L, .int .i64 Z])) rfl (by as_aux_lemma => kernel_rfl) (by as_aux_lemma => kernel_rfl) (by as_aux_lemma => kernel_rfl) (fun _ _ _ h => h) (Or.inl ⟨by kernel_rfl, ?_⟩) hS ?_
    · intro w hSw; (try dsimp only at hSw); have hl0 := cell_later hSw cX0; have hl1 := cell_later hSw cX1; have hl2 := cell_later hSw cX2; have hl3 := cell_later hSw cX3; go_simp
    (try simp only [Act.put, List.getElem_toArray, List.getElem_cons_zero, List.getElem_cons_succ, List.setIfInBounds_toArray, List.set_cons_zero, List.set_cons_succ])
    refine wpAnyH_take (i := 9) (v := (.agg #[.slice af fs.length kf])) rfl (by as_aux_lemma => kernel_rfl) (by as_aux_lemma => kernel_rfl) (by as_aux_lemma => kernel_rfl) (fun _ _ _ h => h) (Or.inl ⟨by kernel_rfl, ?_⟩) hS ?_
    · intro w hSw; (try dsimp only at hSw); have hl0 := cell_later hSw cF0; go_simp
    (try simp only [Act.put, List.getElem_toArray, List.getElem_cons_zero, List.getElem_cons_succ, List.setIfInBounds_toArray, List.set_cons_zero, List.set_cons_succ])
    refine wpAnyH_take (i := 11) (v := (.agg #[.int .i64 E, .slice ax ms.length kx, .int .i64 L, .int .i64 Z])) rfl (by as_aux_lemma => kernel_rfl) (by as_aux_lemma => kernel_rfl) (by as_aux_lemma => kernel_rfl) (fun _ _ _ h => h) (Or.inl ⟨by kernel_rfl, ?_⟩) hS ?_
    · intro w hSw; (try dsimp only at hSw); have hl0 := cell_later hSw cX0; have hl1 := cell_later hSw cX1; have hl2 := cell_later hSw cX2; have hl3 := cell_later hSw cX3; go_simp
    (try simp only [Act.put, List.getElem_toArray, List.getElem_cons_zero, List.getElem_cons_succ, List.setIfInBounds_toArray, List.set_cons_zero, List.set_cons_succ])
    refine wpAnyH_take (i := 12) (v := (.agg #[.slice af fs.length kf])) rfl (by as_aux_lemma => kernel_rfl) (by as_aux_lemma => kernel_rfl) (by as_aux_lemma => kernel_rfl) (fun _ _ _ h => h) (Or.inl ⟨by kernel_rfl, ?_⟩) hS ?_
    · intro w hSw; (try dsimp only at hSw); have hl0 := cell_later hSw cF0; go_simp
    (try simp only [Act.put, List.getElem_toArray, List.getElem_cons_zero, List.getElem_cons_succ, List.setIfInBounds_toArray, List.set_cons_zero, List.set_cons_succ])
    refine wpAnyH_ready (rs := [10]) (by as_aux_lemma => kernel_rfl) (by simp) ?_
    refine AllReadyH.cons rfl (fun K hK => ?_) AllReadyH.nil
    go_simp
    refine Calls.mono (HIT.out _ (rx.below hS).read (rf.below hS).read) ?_
    rintro e u ⟨rfl, hc⟩
    refine hK.out _ _ (hS.trans (hc.mono hS.size)) (fun hS => ?_)
    clear hK K hc
    (try simp only [Act.put, List.getElem_toArray, List.getElem_cons_zero, List.getElem_cons_succ, List.setIfInBounds_toArray, List.set_cons_zero, List.set_cons_succ])
    refine wpAnyH_ready (rs := [13]) (by as_aux_lemma => kernel_rfl) (by simp) ?_
    refine AllReadyH.cons rfl (fun K hK => ?_) AllReadyH.nil
    go_simp
    refine Calls.mono (HST.out _ (rx.below hS).read (rf.below hS).read) ?_
    rintro e w6 ⟨rfl, hc⟩
    refine hK.out _ _ (hS.trans (hc.mono hS.size)) (fun hS => ?_)
    clear hK K hc
    (try simp only [Act.put, List.getElem_toArray, List.getElem_cons_zero, List.getElem_cons_succ, List.setIfInBounds_toArray, List.set_cons_zero, List.set_cons_succ])
    refine wpAnyH_take (i := 14) (v := (.bool false)) rfl (by as_aux_lemma => kernel_rfl) (by as_aux_lemma => kernel_rfl) (by as_aux_lemma => kernel_rfl) (fun _ _ _ h => h) (Or.inl ⟨by kernel_rfl, ?_⟩) hS ?_
    · intro w hSw; (try dsimp only at hSw); go_simp
    (try simp only [Act.put, List.getElem_toArray, List.getElem_cons_zero, List.getElem_cons_succ, List.setIfInBounds_toArray, List.set_cons_zero, List.set_cons_succ])
    refine wpAnyH_take (i := 15) (v := (.bool false)) rfl (by as_aux_lemma => kernel_rfl) (by as_aux_lemma => kernel_rfl) (by as_aux_lemma => kernel_rfl) (fun _ _ _ h => h) (Or.inl ⟨by kernel_rfl, ?_⟩) hS ?_
    · intro w hSw; (try dsimp only at hSw); go_simp
    (try simp only [Act.put, List.getElem_toArray, List.getElem_cons_zero, List.getElem_cons_succ, List.setIfInBounds_toArray, List.set_cons_zero, List.set_cons_succ])
    refine wpAnyH_done (by kernel_rfl) ?_ _
    replace rx := rx.below hS
    replace rf := rf.below hS
    replace ry := ry.below hS
    replace rc := rc.below hS
    replace cX0 := cell_later hS cX0
    replace cX1 := cell_later hS cX1
    replace cX2 := cell_later hS cX2
    replace cX3 := cell_later hS cX3
    replace zX := Nat.lt_of_lt_of_le zX hS.size
    replace cF0 := cell_later hS cF0
    replace zF := Nat.lt_of_lt_of_le zF hS.size
    replace cY0 := cell_later hS cY0
    replace cY1 := cell_later hS cY1
    replace cY2 := cell_later hS cY2
    replace cY3 := cell_later hS cY3
    replace zY := Nat.lt_of_lt_of_le zY hS.size
    replace cC0 := cell_later hS cC0
    replace cC1 := cell_later hS cC1
    replace cC2 := cell_later hS cC2
    replace cC3 := cell_later hS cC3
    replace cC4 := cell_later hS cC4
    replace cC5 := cell_later hS cC5
    replace zC := Nat.lt_of_lt_of_le zC hS.size
    replace hb := hb.trans (hS.mono hb.size)
    clear hS
    clear HSC HST fC
    go_wp2_with fail
    refine Calls.mono (DrawNewIndex_any a n ca xs _ (hr0.below hb) hB hn) ?_
    rintro e w7 ⟨t, rfl, hc⟩
    have s7 : w6.heap.size ≤ w7.heap.size := hc.size
    have bq := hc
    replace cX0 := cell_later bq cX0
    replace cX1 := cell_later bq cX1
    replace cX2 := cell_later bq cX2
    replace cX3 := cell_later bq cX3
    replace zX := Nat.lt_of_lt_of_le zX bq.size
    replace cF0 := cell_later bq cF0
    replace zF := Nat.lt_of_lt_of_le zF bq.size
    replace cY0 := cell_later bq cY0
    replace cY1 := cell_later bq cY1
    replace cY2 := cell_later bq cY2
    replace cY3 := cell_later bq cY3
    replace zY := Nat.lt_of_lt_of_le zY bq.size
    replace cC0 := cell_later bq cC0
    replace cC1 := cell_later bq cC1
    replace cC2 := cell_later bq cC2
    replace cC3 := cell_later bq cC3
    replace cC4 := cell_later bq cC4
    replace cC5 := cell_later bq cC5
    replace zC := Nat.lt_of_lt_of_le zC bq.size
    replace rx := rx.below bq
    replace rf := rf.below bq
    replace ry := ry.below bq
    replace rc := rc.below bq
    replace hb := hb.trans (bq.mono hb.size)
    clear hc bq
    have IN := fun (W' : World) => implNewIndex_any t W'
    have SN := fun (W' : World) => specNewIndex_any t W'
    have hN := ni_same t
    generalize niCode t = nc at IN SN hN
    generalize niE t = ne at IN SN hN
    have HIN := hid IN
    have HSN := hid SN
    have HNN := hid hN
    clear IN SN hN
    go_wp2_with fail
    refine Calls.mono (HIN.out _) ?_
    rintro e w8 ⟨vn, rfl, rn, hc⟩
    obtain ⟨an, kn, rfl, q1, q2⟩ := rn.shape
    have Kn : Hid _ := And.intro q1 q2
    clear q1 q2
    have s8 : w7.heap.size ≤ w8.heap.size := hc.size
    have bq := hc
    replace cX0 := cell_later bq cX0
    replace cX1 := cell_later bq cX1
    replace cX2 := cell_later bq cX2
    replace cX3 := cell_later bq cX3
    replace zX := Nat.lt_of_lt_of_le zX bq.size
    replace cF0 := cell_later bq cF0
    replace zF := Nat.lt_of_lt_of_le zF bq.size
    replace cY0 := cell_later bq cY0
    replace cY1 := cell_later bq cY1
    replace cY2 := cell_later bq cY2
    replace cY3 := cell_later bq cY3
    replace zY := Nat.lt_of_lt_of_le zY bq.size
    replace cC0 := cell_later bq cC0
    replace cC1 := cell_later bq cC1
    replace cC2 := cell_later bq cC2
    replace cC3 := cell_later bq cC3
    replace cC4 := cell_later bq cC4
    replace cC5 := cell_later bq cC5
    replace zC := Nat.lt_of_lt_of_le zC bq.size
    replace rx := rx.below bq
    replace rf := rf.below bq
    replace ry := ry.below bq
    replace rc := rc.below bq
    replace hb := hb.trans (bq.mono hb.size)
    clear hc bq
    clear HIN
    go_wp2_with fail
    have hc : Below w8.heap.size w8 (w8.alloc (.cells #[.int .i64 nc, .int .i64 0, .int .i64 ne, .slice an niRs.length kn, .int .i64 0, .int .i64 0] 34)).drew := ((Below.refl _ _).alloc (Nat.le_refl _) _).drew
    have cN0 : (w8.alloc (.cells #[.int .i64 nc, .int .i64 0, .int .i64 ne, .slice an niRs.length kn, .int .i64 0, .int .i64 0] 34)).drew.cell? ⟨w8.heap.size, 0, none⟩ = some (.int .i64 nc) := by simp [go_sem]
    have cN1 : (w8.alloc (.cells #[.int .i64 nc, .int .i64 0, .int .i64 ne, .slice an niRs.length kn, .int .i64 0, .int .i64 0] 34)).drew.cell? ⟨w8.heap.size, 1, none⟩ = some (.int .i64 0) := by simp [go_sem]
    have cN2 : (w8.alloc (.cells #[.int .i64 nc, .int .i64 0, .int .i64 ne, .slice an niRs.length kn, .int .i64 0, .int .i64 0] 34)).drew.cell? ⟨w8.heap.size, 2, none⟩ = some (.int .i64 ne) := by simp [go_sem]
    have cN3 : (w8.alloc (.cells #[.int .i64 nc, .int .i64 0, .int .i64 ne, .slice an niRs.length kn, .int .i64 0, .int .i64 0] 34)).drew.cell? ⟨w8.heap.size, 3, none⟩ = some (.slice an niRs.length kn) := by simp [go_sem]
    have cN4 : (w8.alloc (.cells #[.int .i64 nc, .int .i64 0, .int .i64 ne, .slice an niRs.length kn, .int .i64 0, .int .i64 0] 34)).drew.cell? ⟨w8.heap.size, 4, none⟩ = some (.int .i64 0) := by simp [go_sem]
    have cN5 : (w8.alloc (.cells #[.int .i64 nc, .int .i64 0, .int .i64 ne, .slice an niRs.length kn, .int .i64 0, .int .i64 0] 34)).drew.cell? ⟨w8.heap.size, 5, none⟩ = some (.int .i64 0) := by simp [go_sem]
    have zN : w8.heap.size < (w8.alloc (.cells #[.int .i64 nc, .int .i64 0, .int .i64 ne, .slice an niRs.length kn, .int .i64 0, .int .i64 0] 34)).drew.heap.size := by simp [World.size_alloc]
    refine region_join (fun a a' w' => ∃ o51 o57 o59 o60 o61 o62 o63 : Value, a' = ((((((((((((((((((a.put (some 48) (.pointer (some ⟨w8.heap.size, 0, none⟩))).put (some 49) (.int .i64 nc)).put (some 50) (.int .i64 t)).put (some 51) o51).put (some 52) (.int .i64 nc)).put (some 53) (.bool false)).put (some 54) (.bool false)).put (some 55) (.pointer (some ⟨w8.heap.size, 0, none⟩))).put (some 56) (.int .i64 nc)).put (some 57) o57).put (some 58) o57).put (some 59) o59).put (some 60) o60).put (some 61) o61).put (some 62) o62).put (some 63) o63).put (some 64) (.bool false)).put (some 65) (.bool false)) ∧ Below (w8.alloc (.cells #[.int .i64 nc, .int .i64 0, .int .i64 ne, .slice an niRs.length kn, .int .i64 0, .int .i64 0] 34)).drew.heap.size (w8.alloc (.cells #[.int .i64 nc, .int .i64 0, .int .i64 ne, .slice an niRs.length kn, .int .i64 0, .int .i64 0] 34)).drew w') ?_ ?_
    · skip
      refine wp_region_held_drew (S := fun w' => Below (w8.alloc (.cells #[.int .i64 nc, .int .i64 0, .int .i64 ne, .slice an niRs.length kn, .int .i64 0, .int .i64 0] 34)).drew.heap.size (w8.alloc (.cells #[.int .i64 nc, .int .i64 0, .int .i64 ne, .slice an niRs.length kn, .int .i64 0, .int .i64 0] 34)).drew w') (by kernel_rfl) (Below.refl _ _) (fun hS => ?_)
      have fN := fldI0
      generalize (w8.alloc (.cells #[.int .i64 nc, .int .i64 0, .int .i64 ne, .slice an niRs.length kn, .int .i64 0, .int .i64 0] 34)).drew = D at *
      refine wpAnyH_take (i := 0) (v := (.pointer (some ⟨w8.heap.size, 0, none⟩))) rfl (by as_aux_lemma => kernel_rfl) (by as_aux_lemma => kernel_rfl) (by as_aux_lemma => kernel_rfl) (fun _ _ _ h => nomatch h.1) (Or.inl ⟨by kernel_rfl, ?_⟩) hS ?_
      · intro w hSw; (try dsimp only at hSw); go_simp
      (try simp only [Act.put, List.getElem_toArray, List.getElem_cons_zero, List.getElem_cons_succ, List.setIfInBounds_toArray, List.set_cons_zero, List.set_cons_succ])
      refine wpAnyH_take (i := 1) (v := (.int .i64 nc)) rfl (by as_aux_lemma => kernel_rfl) (by as_aux_lemma => kernel_rfl) (by as_aux_lemma => kernel_rfl) (fun _ _ _ h => nomatch h.1) (Or.inl ⟨by kernel_rfl, ?_⟩) hS ?_
      · intro w hSw; (try dsimp only at hSw); have hl0 := cell_later hSw cN0; go_simp
      (try simp only [Act.put, List.getElem_toArray, List.getElem_cons_zero, List.getElem_cons_succ, List.setIfInBounds_toArray, List.set_cons_zero, List.set_cons_succ])
      refine wpAnyH_take (i := 2) (v := (.int .i64 t)) rfl (by as_aux_lemma => kernel_rfl) (by as_aux_lemma => kernel_rfl) (by as_aux_lemma => kernel_rfl) (fun _ _ _ h => nomatch h.1) (Or.inl ⟨by kernel_rfl, ?_⟩) hS ?_
      · intro w hSw; (try dsimp only at hSw); go_simp
      (try simp only [Act.put, List.getElem_toArray, List.getElem_cons_zero, List.getElem_cons_succ, List.setIfInBounds_toArray, List.set_cons_zero, List.set_cons_succ])
      refine wpAnyH_ready (rs := [3]) (by as_aux_lemma => kernel_rfl) (by simp) ?_
      refine AllReadyH.cons rfl (fun K hK => ?_) AllReadyH.nil
      go_simp
      refine Calls.mono (HSN.out _) ?_
      rintro e u3 ⟨vs, rfl, rs, hc⟩
      refine hK.out _ _ (hS.trans (hc.mono hS.size)) (fun hS => ?_)
      clear hK K hc
      (try simp only [Act.put, List.getElem_toArray, List.getElem_cons_zero, List.getElem_cons_succ, List.setIfInBounds_toArray, List.set_cons_zero, List.set_cons_succ])
      obtain ⟨aS, kS, rfl, -⟩ := rs.shape
      clear rs
      refine wpAnyH_take (i := 4) (v := (.int .i64 nc)) rfl (by as_aux_lemma => kernel_rfl) (by as_aux_lemma => kernel_rfl) (by as_aux_lemma => kernel_rfl) (fun _ _ _ h => nomatch h.1) (Or.inl ⟨by kernel_rfl, ?_⟩) hS ?_
      · intro w hSw; (try dsimp only at hSw); go_simp
      (try simp only [Act.put, List.getElem_toArray, List.getElem_cons_zero, List.getElem_cons_succ, List.setIfInBounds_toArray, List.set_cons_zero, List.set_cons_succ])
      refine wpAnyH_take (i := 5) (v := (.bool false)) rfl (by as_aux_lemma => kernel_rfl) (by as_aux_lemma => kernel_rfl) (by as_aux_lemma => kernel_rfl) (fun _ _ _ h => nomatch h.1) (Or.inl ⟨by kernel_rfl, ?_⟩) hS ?_
      · intro w hSw; (try dsimp only at hSw); go_simp
      (try simp only [Act.put, List.getElem_toArray, List.getElem_cons_zero, List.getElem_cons_succ, List.setIfInBounds_toArray, List.set_cons_zero, List.set_cons_succ])
      refine wpAnyH_take (i := 6) (v := (.bool false)) rfl (by as_aux_lemma => kernel_rfl) (by as_aux_lemma => kernel_rfl) (by as_aux_lemma => kernel_rfl) (fun _ _ _ h => nomatch h.1) (Or.inl ⟨by kernel_rfl, ?_⟩) hS ?_
      · intro w hSw; (try dsimp only at hSw); go_simp
      (try simp only [Act.put, List.getElem_toArray, List.getElem_cons_zero, List.getElem_cons_succ, List.setIfInBounds_toArray, List.set_cons_zero, List.set_cons_succ])
      refine wpAnyH_take (i := 7) (v := (.pointer (some ⟨w8.heap.size, 0, none⟩))) rfl (by as_aux_lemma => kernel_rfl) (by as_aux_lemma => kernel_rfl) (by as_aux_lemma => kernel_rfl) (fun _ _ _ h => nomatch h.1) (Or.inl ⟨by kernel_rfl, ?_⟩) hS ?_
      · intro w hSw; (try dsimp only at hSw); go_simp
      (try simp only [Act.put, List.getElem_toArray, List.getElem_cons_zero, List.getElem_cons_succ, List.setIfInBounds_toArray, List.set_cons_zero, List.set_cons_succ])
      refine wpAnyH_take (i := 8) (v := (.int .i64 nc)) rfl (by as_aux_lemma => kernel_rfl) (by as_aux_lemma => kernel_rfl) (by as_aux_lemma => kernel_rfl) (fun _ _ _ h => nomatch h.1) (Or.inl ⟨by kernel_rfl, ?_⟩) hS ?_
      · intro w hSw; (try dsimp only at hSw); have hl0 := cell_later hSw cN0; go_simp
      (try simp only [Act.put, List.getElem_toArray, List.getElem_cons_zero, List.getElem_cons_succ, List.setIfInBounds_toArray, List.set_cons_zero, List.set_cons_succ])
      by_cases hnc : nc = 0
      · skip
        have hne := HNN.out hnc
        refine wpAnyH_take (i := 9) (v := (.bool true)) rfl (by as_aux_lemma => kernel_rfl) (by as_aux_lemma => kernel_rfl) (by as_aux_lemma => kernel_rfl) (fun _ _ _ h => nomatch h.1) (Or.inl ⟨by kernel_rfl, ?_⟩) hS ?_
        · intro w hSw; (try dsimp only at hSw); go_simp
        (try simp only [Act.put, List.getElem_toArray, List.getElem_cons_zero, List.getElem_cons_succ, List.setIfInBounds_toArray, List.set_cons_zero, List.set_cons_succ])
        refine wpAnyH_take (i := 10) (v := (.bool true)) rfl (by as_aux_lemma => kernel_rfl) (by as_aux_lemma => kernel_rfl) (by as_aux_lemma => kernel_rfl) (fun _ _ _ h => nomatch h.1) (Or.inl ⟨by kernel_rfl, ?_⟩) hS ?_
        · intro w hSw; (try dsimp only at hSw); go_simp
        (try simp only [Act.put, List.getElem_toArray, List.getElem_cons_zero, List.getElem_cons_succ, List.setIfInBounds_toArray, List.set_cons_zero, List.set_cons_succ])
        refine wpAnyH_take (i := 11) (v := (.pointer (some ⟨w8.heap.size, 2, none⟩))) rfl (by as_aux_lemma => kernel_rfl) (by as_aux_lemma => kernel_rfl) (by as_aux_lemma => kernel_rfl) (fun _ _ _ h => nomatch h.1) (Or.inl ⟨by kernel_rfl, ?_⟩) hS ?_
        · intro w hSw; (try dsimp only at hSw); go_simp
        (try simp only [Act.put, List.getElem_toArray, List.getElem_cons_zero, List.getElem_cons_succ, List.setIfInBounds_toArray, List.set_cons_zero, List.set_cons_succ])
        refine wpAnyH_take (i := 12) (v := (.pointer (some ⟨w8.heap.size, 2, none⟩))) rfl (by as_aux_lemma => kernel_rfl) (by as_aux_lemma => kernel_rfl) (by as_aux_lemma => kernel_rfl) (fun _ _ _ h => nomatch h.1) (Or.inl ⟨by kernel_rfl, ?_⟩) hS ?_
        · intro w hSw; (try dsimp only at hSw); go_simp
        (try simp only [Act.put, List.getElem_toArray, List.getElem_cons_zero, List.getElem_cons_succ, List.setIfInBounds_toArray, List.set_cons_zero, List.set_cons_succ])
        refine wpAnyH_take (i := 13) (v := (.int .i64 t)) rfl (by as_aux_lemma => kernel_rfl) (by as_aux_lemma => kernel_rfl) (by as_aux_lemma => kernel_rfl) (fun _ _ _ h => nomatch h.1) (Or.inl ⟨by kernel_rfl, ?_⟩) hS ?_
        · intro w hSw; (try dsimp only at hSw); have hl0 := cell_later hSw cN2; go_simp
        (try simp only [Act.put, List.getElem_toArray, List.getElem_cons_zero, List.getElem_cons_succ, List.setIfInBounds_toArray, List.set_cons_zero, List.set_cons_succ])
        refine wpAnyH_take (i := 14) (v := (.int .i64 t)) rfl (by as_aux_lemma => kernel_rfl) (by as_aux_lemma => kernel_rfl) (by as_aux_lemma => kernel_rfl) (fun _ _ _ h => nomatch h.1) (Or.inl ⟨by kernel_rfl, ?_⟩) hS ?_
        · intro w hSw; (try dsimp only at hSw); go_simp
        (try simp only [Act.put, List.getElem_toArray, List.getElem_cons_zero, List.getElem_cons_succ, List.setIfInBounds_toArray, List.set_cons_zero, List.set_cons_succ])
        refine wpAnyH_take (i := 15) (v := (.bool false)) rfl (by as_aux_lemma => kernel_rfl) (by as_aux_lemma => kernel_rfl) (by as_aux_lemma => kernel_rfl) (fun _ _ _ h => nomatch h.1) (Or.inl ⟨by kernel_rfl, ?_⟩) hS ?_
        · intro w hSw; (try dsimp only at hSw); go_simp
        (try simp only [Act.put, List.getElem_toArray, List.getElem_cons_zero, List.getElem_cons_succ, List.setIfInBounds_toArray, List.set_cons_zero, List.set_cons_succ])
        refine wpAnyH_take (i := 16) (v := (.bool false)) rfl (by as_aux_lemma => kernel_rfl) (by as_aux_lemma => kernel_rfl) (by as_aux_lemma => kernel_rfl) (fun _ _ _ h => nomatch h.1) (Or.inl ⟨by kernel_rfl, ?_⟩) hS ?_
        · intro w hSw; (try dsimp only at hSw); go_simp
        (try simp only [Act.put, List.getElem_toArray, List.getElem_cons_zero, List.getElem_cons_succ, List.setIfInBounds_toArray, List.set_cons_zero, List.set_cons_succ])
        refine wpAnyH_take (i := 17) (v := (.bool false)) rfl (by as_aux_lemma => kernel_rfl) (by as_aux_lemma => kernel_rfl) (by as_aux_lemma => kernel_rfl) (fun _ _ _ h => nomatch h.1) (Or.inl ⟨by kernel_rfl, ?_⟩) hS ?_
        · intro w hSw; (try dsimp only at hSw); go_simp
        (try simp only [Act.put, List.getElem_toArray, List.getElem_cons_zero, List.getElem_cons_succ, List.setIfInBounds_toArray, List.set_cons_zero, List.set_cons_succ])
        refine wpAnyH_done (by kernel_rfl) ?_ _
        refine ⟨rfl, (.agg #[.int .i64 nc, .int .i64 0, .int .i64 ne, .slice aS niRs.length kS, .int .i64 0, .int .i64 0]), (.bool true), (.pointer (some ⟨w8.heap.size, 2, none⟩)), (.pointer (some ⟨w8.heap.size, 2, none⟩)), (.int .i64 t), (.int .i64 t), (.bool false), ?_, hS⟩
        first | rfl | simp only [Act.put, List.getElem_toArray, List.getElem_cons_zero, List.getElem_cons_succ, List.setIfInBounds_toArray, List.set_cons_zero, List.set_cons_succ] | (simp [Act.put, hnc])
      · skip
        refine wpAnyH_take (i := 9) (v := (.bool false)) rfl (by as_aux_lemma => kernel_rfl) (by as_aux_lemma => kernel_rfl) (by as_aux_lemma => kernel_rfl) (fun _ _ _ h => nomatch h.1) (Or.inl ⟨by kernel_rfl, ?_⟩) hS ?_
        · intro w hSw; (try dsimp only at hSw); go_simp
        (try simp only [Act.put, List.getElem_toArray, List.getElem_cons_zero, List.getElem_cons_succ, List.setIfInBounds_toArray, List.set_cons_zero, List.set_cons_succ])
        refine wpAnyH_take (i := 10) (v := (.bool false)) rfl (by as_aux_lemma => kernel_rfl) (by as_aux_lemma => kernel_rfl) (by as_aux_lemma => kernel_rfl) (fun _ _ _ h => nomatch h.1) (Or.inl ⟨by kernel_rfl, ?_⟩) hS ?_
        · intro w hSw; (try dsimp only at hSw); go_simp
        (try simp only [Act.put, List.getElem_toArray, List.getElem_cons_zero, List.getElem_cons_succ, List.setIfInBounds_toArray, List.set_cons_zero, List.set_cons_succ])
        refine wpAnyH_take (i := 11) (v := undef) rfl (by as_aux_lemma => kernel_rfl) (by as_aux_lemma => kernel_rfl) (by as_aux_lemma => kernel_rfl) (fun _ _ _ h => nomatch h.1) (Or.inr ⟨by kernel_rfl, rfl⟩) hS ?_
        (try simp only [Act.put, List.getElem_toArray, List.getElem_cons_zero, List.getElem_cons_succ, List.setIfInBounds_toArray, List.set_cons_zero, List.set_cons_succ])
        refine wpAnyH_take (i := 12) (v := undef) rfl (by as_aux_lemma => kernel_rfl) (by as_aux_lemma => kernel_rfl) (by as_aux_lemma => kernel_rfl) (fun _ _ _ h => nomatch h.1) (Or.inr ⟨by kernel_rfl, rfl⟩) hS ?_
        (try simp only [Act.put, List.getElem_toArray, List.getElem_cons_zero, List.getElem_cons_succ, List.setIfInBounds_toArray, List.set_cons_zero, List.set_cons_succ])
        refine wpAnyH_take (i := 13) (v := undef) rfl (by as_aux_lemma => kernel_rfl) (by as_aux_lemma => kernel_rfl) (by as_aux_lemma => kernel_rfl) (fun _ _ _ h => nomatch h.1) (Or.inr ⟨by kernel_rfl, rfl⟩) hS ?_
        (try simp only [Act.put, List.getElem_toArray, List.getElem_cons_zero, List.getElem_cons_succ, List.setIfInBounds_toArray, List.set_cons_zero, List.set_cons_succ])
        refine wpAnyH_take (i := 14) (v := undef) rfl (by as_aux_lemma => kernel_rfl) (by as_aux_lemma => kernel_rfl) (by as_aux_lemma => kernel_rfl) (fun _ _ _ h => nomatch h.1) (Or.inr ⟨by kernel_rfl, rfl⟩) hS ?_
        (try simp only [Act.put, List.getElem_toArray, List.getElem_cons_zero, List.getElem_cons_succ, List.setIfInBounds_toArray, List.set_cons_zero, List.set_cons_succ])
        refine wpAnyH_take (i := 15) (v := undef) rfl (by as_aux_lemma => kernel_rfl) (by as_aux_lemma => kernel_rfl) (by as_aux_lemma => kernel_rfl) (fun _ _ _ h => nomatch h.1) (Or.inr ⟨by kernel_rfl, rfl⟩) hS ?_
        (try simp only [Act.put, List.getElem_toArray, List.getElem_cons_zero, List.getElem_cons_succ, List.setIfInBounds_toArray, List.set_cons_zero, List.set_cons_succ])
        refine wpAnyH_take (i := 16) (v := (.bool false)) rfl (by as_aux_lemma => kernel_rfl) (by as_aux_lemma => kernel_rfl) (by as_aux_lemma => kernel_rfl) (fun _ _ _ h => nomatch h.1) (Or.inl ⟨by kernel_rfl, ?_⟩) hS ?_
        · intro w hSw; (try dsimp only at hSw); go_simp
        (try simp only [Act.put, List.getElem_toArray, List.getElem_cons_zero, List.getElem_cons_succ, List.setIfInBounds_toArray, List.set_cons_zero, List.set_cons_succ])
        refine wpAnyH_take (i := 17) (v := (.bool false)) rfl (by as_aux_lemma => kernel_rfl) (by as_aux_lemma => kernel_rfl) (by as_aux_lemma => kernel_rfl) (fun _ _ _ h => nomatch h.1) (Or.inl ⟨by kernel_rfl, ?_⟩) hS ?_
        · intro w hSw; (try dsimp only at hSw); go_simp
        (try simp only [Act.put, List.getElem_toArray, List.getElem_cons_zero, List.getElem_cons_succ, List.setIfInBounds_toArray, List.set_cons_zero, List.set_cons_succ])
        refine wpAnyH_done (by kernel_rfl) ?_ _
        refine ⟨rfl, (.agg #[.int .i64 nc, .int .i64 0, .int .i64 ne, .slice aS niRs.length kS, .int .i64 0, .int .i64 0]), (.bool false), undef, undef, undef, undef, undef, ?_, hS⟩
        first | rfl | simp only [Act.put, List.getElem_toArray, List.getElem_cons_zero, List.getElem_cons_succ, List.setIfInBounds_toArray, List.set_cons_zero, List.set_cons_succ] | (simp [Act.put, hnc])
    · skip
      rintro a' w10 ⟨o51, o57, o59, o60, o61, o62, o63, rfl, hS⟩
      simp only [Act.put, List.getElem_toArray, List.getElem_cons_zero, List.getElem_cons_succ, List.setIfInBounds_toArray, List.set_cons_zero, List.set_cons_succ]
      replace rx := (rx.below hc).below hS
      replace rf := (rf.below hc).below hS
      replace ry := (ry.below hc).below hS
      replace rc := (rc.below hc).below hS
      replace rn := (rn.below hc).below hS
      replace cX0 := cell_later hS (cell_later hc cX0)
      replace cX1 := cell_later hS (cell_later hc cX1)
      replace cX2 := cell_later hS (cell_later hc cX2)
      replace cX3 := cell_later hS (cell_later hc cX3)
      replace zX := Nat.lt_of_lt_of_le zX (Nat.le_trans hc.size hS.size)
      replace cF0 := cell_later hS (cell_later hc cF0)
      replace zF := Nat.lt_of_lt_of_le zF (Nat.le_trans hc.size hS.size)
      replace cY0 := cell_later hS (cell_later hc cY0)
      replace cY1 := cell_later hS (cell_later hc cY1)
      replace cY2 := cell_later hS (cell_later hc cY2)
      replace cY3 := cell_later hS (cell_later hc cY3)
      replace zY := Nat.lt_of_lt_of_le zY (Nat.le_trans hc.size hS.size)
      replace cC0 := cell_later hS (cell_later hc cC0)
      replace cC1 := cell_later hS (cell_later hc cC1)
      replace cC2 := cell_later hS (cell_later hc cC2)
      replace cC3 := cell_later hS (cell_later hc cC3)
      replace cC4 := cell_later hS (cell_later hc cC4)
      replace cC5 := cell_later hS (cell_later hc cC5)
      replace zC := Nat.lt_of_lt_of_le zC (Nat.le_trans hc.size hS.size)
      replace cN0 := cell_later hS cN0
      replace cN1 := cell_later hS cN1
      replace cN2 := cell_later hS cN2
      replace cN3 := cell_later hS cN3
      replace cN4 := cell_later hS cN4
      replace cN5 := cell_later hS cN5
      replace zN := Nat.lt_of_lt_of_le zN hS.size
      replace hb := (hb.trans (hc.mono hb.size)).trans (hS.mono (hb.trans (hc.mono hb.size)).size)
      clear hc hS HSN HNN
      go_wp2_with fail
      refine Calls.mono (HIT.out _ rx.read rf.read) ?_
      rintro e w11 ⟨rfl, hc⟩
      have s11 : w10.heap.size ≤ w11.heap.size := hc.size
      have bq := hc
      replace cX0 := cell_later bq cX0
      replace cX1 := cell_later bq cX1
      replace cX2 := cell_later bq cX2
      replace cX3 := cell_later bq cX3
      replace zX := Nat.lt_of_lt_of_le zX bq.size
      replace cF0 := cell_later bq cF0
      replace zF := Nat.lt_of_lt_of_le zF bq.size
      replace cY0 := cell_later bq cY0
      replace cY1 := cell_later bq cY1
      replace cY2 := cell_later bq cY2
      replace cY3 := cell_later bq cY3
      replace zY := Nat.lt_of_lt_of_le zY bq.size
      replace cC0 := cell_later bq cC0
      replace cC1 := cell_later bq cC1
      replace cC2 := cell_later bq cC2
      replace cC3 := cell_later bq cC3
      replace cC4 := cell_later bq cC4
      replace cC5 := cell_later bq cC5
      replace zC := Nat.lt_of_lt_of_le zC bq.size
      replace cN0 := cell_later bq cN0
      replace cN1 := cell_later bq cN1
      replace cN2 := cell_later bq cN2
      replace cN3 := cell_later bq cN3
      replace cN4 := cell_later bq cN4
      replace cN5 := cell_later bq cN5
      replace zN := Nat.lt_of_lt_of_le zN bq.size
      replace rx := rx.below bq
      replace rf := rf.below bq
      replace ry := ry.below bq
      replace rc := rc.below bq
      replace rn := rn.below bq
      replace hb := hb.trans (bq.mono hb.size)
      clear hc bq
      cases hBB : B
      · skip
        subst hBB
        by_cases hcc : cc = 0
        · skip
          have hif := HA.out hcc
          subst hcc
          go_wp2_with fail
          refine Calls.mono (implIndexFault_any ce ac cm.length kc cm cl cz _ rc.read (by omega)) ?_
          rintro e w12 ⟨rfl, hc⟩
          have s12 : w11.heap.size ≤ w12.heap.size := hc.size
          have bq := hc
          replace cX0 := cell_later bq cX0
          replace cX1 := cell_later bq cX1
          replace cX2 := cell_later bq cX2
          replace cX3 := cell_later bq cX3
          replace zX := Nat.lt_of_lt_of_le zX bq.size
          replace cF0 := cell_later bq cF0
          replace zF := Nat.lt_of_lt_of_le zF bq.size
          replace cY0 := cell_later bq cY0
          replace cY1 := cell_later bq cY1
          replace cY2 := cell_later bq cY2
          replace cY3 := cell_later bq cY3
          replace zY := Nat.lt_of_lt_of_le zY bq.size
          replace cC0 := cell_later bq cC0
          replace cC1 := cell_later bq cC1
          replace cC2 := cell_later bq cC2
          replace cC3 := cell_later bq cC3
          replace cC4 := cell_later bq cC4
          replace cC5 := cell_later bq cC5
          replace zC := Nat.lt_of_lt_of_le zC bq.size
          replace cN0 := cell_later bq cN0
          replace cN1 := cell_later bq cN1
          replace cN2 := cell_later bq cN2
          replace cN3 := cell_later bq cN3
          replace cN4 := cell_later bq cN4
          replace cN5 := cell_later bq cN5
          replace zN := Nat.lt_of_lt_of_le zN bq.size
          replace rx := rx.below bq
          replace rf := rf.below bq
          replace ry := ry.below bq
          replace rc := rc.below bq
          replace rn := rn.below bq
          replace hb := hb.trans (bq.mono hb.size)
          clear hc bq
          rw [hif]
          go_wp2
          go_ret
          exact ⟨rfl, hb⟩
        · go_wp2
          go_ret
          exact ⟨rfl, hb⟩
      · skip
        have hT : indexTrue E ms L Z fs = true := by rw [← HBT.out]; exact hBB
        have hf4 := (of_true hT).2.1
        have HT := hid hT
        clear hT
        subst hBB
        have hwF : IntKind.i64.wrap ((fs.length : Int) + 1) = (fs.length : Int) + 1 := by rw [IntKind.wrap_i64] <;> omega
        go_wp2_with fail
        refine Calls.mono (lwAt_any a n ca xs 4 ((fs.length : Int) + 1) _ (hr0.below hb) hB hn (by omega) (by omega) (by omega)) ?_
        rintro e w12 ⟨tt, rfl, t0, t1, qd, hw⟩
        have hc := below_drewN (Below.refl w11.heap.size w11) qd
        rw [← hw] at hc
        clear hw
        obtain ⟨tt, rfl⟩ := Int.eq_ofNat_of_zero_le t0
        have tn : tt ≤ fs.length := by omega
        clear t0 t1
        have s12 : w11.heap.size ≤ w12.heap.size := hc.size
        have bq := hc
        replace cX0 := cell_later bq cX0
        replace cX1 := cell_later bq cX1
        replace cX2 := cell_later bq cX2
        replace cX3 := cell_later bq cX3
        replace zX := Nat.lt_of_lt_of_le zX bq.size
        replace cF0 := cell_later bq cF0
        replace zF := Nat.lt_of_lt_of_le zF bq.size
        replace cY0 := cell_later bq cY0
        replace cY1 := cell_later bq cY1
        replace cY2 := cell_later bq cY2
        replace cY3 := cell_later bq cY3
        replace zY := Nat.lt_of_lt_of_le zY bq.size
        replace cC0 := cell_later bq cC0
        replace cC1 := cell_later bq cC1
        replace cC2 := cell_later bq cC2
        replace cC3 := cell_later bq cC3
        replace cC4 := cell_later bq cC4
        replace cC5 := cell_later bq cC5
        replace zC := Nat.lt_of_lt_of_le zC bq.size
        replace cN0 := cell_later bq cN0
        replace cN1 := cell_later bq cN1
        replace cN2 := cell_later bq cN2
        replace cN3 := cell_later bq cN3
        replace cN4 := cell_later bq cN4
        replace cN5 := cell_later bq cN5
        replace zN := Nat.lt_of_lt_of_le zN bq.size
        replace rx := rx.below bq
        replace rf := rf.below bq
        replace ry := ry.below bq
        replace rc := rc.below bq
        replace rn := rn.below bq
        replace hb := hb.trans (bq.mono hb.size)
        clear hc bq
        obtain ⟨k1, k2, k3, k4⟩ := cut_all HT.out tn
        obtain ⟨f1, f2⟩ := cutFile_all hf4 tn
        have IL := fun (W' : World) (h : Rd .i64 W' ax ms.length ms) => implCutIndex_any E ax ms.length kx ms L Z tt W' h (by omega) Kx.out.1 Kx.out.2
        have hlm := cuM_len E ms L Z tt
        rw [k1] at IL
        generalize cuE E ms L Z tt = le at IL k2 k4
        generalize cuM E ms L Z tt = lm at IL k2 k4 hlm
        generalize cuL E ms L Z tt = ll at IL k2 k4
        generalize cuZ E ms L Z tt = lz at IL k2 k3 k4
        have IF := fun (W' : World) (h : Rd .u8 W' af fs.length fs) => implCutFile_any af fs.length kf tt fs W' h (by omega) Kf.out.1 Kf.out.2
        rw [f1, f2] at IF
        have hpl : (fs.take tt).length ≤ 400 := by simp; omega
        generalize fs.take tt = ps at IF k2 hpl
        have HIL := hid IL
        have HIF := hid IF
        have H2 := hid k2
        have H4 := hid k4
        clear IL IF k1 k2 k4 f1 f2
        go_wp2_with fail
        refine Calls.mono (HIL.out _ rx.read) ?_
        rintro e w13 ⟨vl, rfl, rl, hc⟩
        obtain ⟨al, kl, rfl, q1, q2⟩ := rl.shape
        have Kl : Hid _ := And.intro q1 q2
        clear q1 q2
        have s13 : w12.heap.size ≤ w13.heap.size := hc.size
        have bq := hc
        replace cX0 := cell_later bq cX0
        replace cX1 := cell_later bq cX1
        replace cX2 := cell_later bq cX2
        replace cX3 := cell_later bq cX3
        replace zX := Nat.lt_of_lt_of_le zX bq.size
        replace cF0 := cell_later bq cF0
        replace zF := Nat.lt_of_lt_of_le zF bq.size
        replace cY0 := cell_later bq cY0
        replace cY1 := cell_later bq cY1
        replace cY2 := cell_later bq cY2
        replace cY3 := cell_later bq cY3
        replace zY := Nat.lt_of_lt_of_le zY bq.size
        replace cC0 := cell_later bq cC0
        replace cC1 := cell_later bq cC1
        replace cC2 := cell_later bq cC2
        replace cC3 := cell_later bq cC3
        replace cC4 := cell_later bq cC4
        replace cC5 := cell_later bq cC5
        replace zC := Nat.lt_of_lt_of_le zC bq.size
        replace cN0 := cell_later bq cN0
        replace cN1 := cell_later bq cN1
        replace cN2 := cell_later bq cN2
        replace cN3 := cell_later bq cN3
        replace cN4 := cell_later bq cN4
        replace cN5 := cell_later bq cN5
        replace zN := Nat.lt_of_lt_of_le zN bq.size
        replace rx := rx.below bq
        replace rf := rf.below bq
        replace ry := ry.below bq
        replace rc := rc.below bq
        replace rn := rn.below bq
        replace hb := hb.trans (bq.mono hb.size)
        clear hc bq
        go_wp2_with fail
        have bp : ∀ o0, Below w13.heap.size w13 (w13.alloc o0) := fun o0 => (Below.refl _ _).alloc (Nat.le_refl _) o0
        have hbt : ∀ o0, Below w.heap.size w (w13.alloc o0) := fun o0 => hb.trans ((bp o0).mono hb.size)
        refine Calls.mono (HIF.out _ (rf.below (bp _)).read) ?_
        rintro e w14 ⟨vp, rfl, rp, hc⟩
        obtain ⟨ap, kp, rfl, q1, q2⟩ := rp.shape
        have Kp : Hid _ := And.intro q1 q2
        clear q1 q2
        replace rp := RowI.mono (lo' := w13.heap.size + 1) rp (by simp) (Nat.le_refl _)
        have s14 : w13.heap.size + 1 ≤ w14.heap.size := by have := hc.size; simp at this; omega
        have bq : Below w13.heap.size w13 w14 := (bp _).trans (hc.mono (bp _).size)
        replace cX0 := cell_later bq cX0
        replace cX1 := cell_later bq cX1
        replace cX2 := cell_later bq cX2
        replace cX3 := cell_later bq cX3
        replace zX := Nat.lt_of_lt_of_le zX bq.size
        replace cF0 := cell_later bq cF0
        replace zF := Nat.lt_of_lt_of_le zF bq.size
        replace cY0 := cell_later bq cY0
        replace cY1 := cell_later bq cY1
        replace cY2 := cell_later bq cY2
        replace cY3 := cell_later bq cY3
        replace zY := Nat.lt_of_lt_of_le zY bq.size
        replace cC0 := cell_later bq cC0
        replace cC1 := cell_later bq cC1
        replace cC2 := cell_later bq cC2
        replace cC3 := cell_later bq cC3
        replace cC4 := cell_later bq cC4
        replace cC5 := cell_later bq cC5
        replace zC := Nat.lt_of_lt_of_le zC bq.size
        replace cN0 := cell_later bq cN0
        replace cN1 := cell_later bq cN1
        replace cN2 := cell_later bq cN2
        replace cN3 := cell_later bq cN3
        replace cN4 := cell_later bq cN4
        replace cN5 := cell_later bq cN5
        replace zN := Nat.lt_of_lt_of_le zN bq.size
        have cL0 : w14.cell? ⟨w13.heap.size, 0, none⟩ = some (.int .i64 0) := cell_later hc (by simp [go_sem])
        have cL1 : w14.cell? ⟨w13.heap.size, 1, none⟩ = some (.int .i64 0) := cell_later hc (by simp [go_sem])
        have cL2 : w14.cell? ⟨w13.heap.size, 2, none⟩ = some (.int .i64 le) := cell_later hc (by simp [go_sem])
        have cL3 : w14.cell? ⟨w13.heap.size, 3, none⟩ = some (.slice al lm.length kl) := cell_later hc (by simp [go_sem])
        have cL4 : w14.cell? ⟨w13.heap.size, 4, none⟩ = some (.int .i64 ll) := cell_later hc (by simp [go_sem])
        have cL5 : w14.cell? ⟨w13.heap.size, 5, none⟩ = some (.int .i64 lz) := cell_later hc (by simp [go_sem])
        have zL : w13.heap.size < w14.heap.size := by omega
        replace rx := rx.below bq
        replace rf := rf.below bq
        replace ry := ry.below bq
        replace rc := rc.below bq
        replace rn := rn.below bq
        replace rl := rl.below bq
        replace hb := hb.trans (bq.mono hb.size)
        clear hc bq bp hbt
        go_wp2_with fail
        have bp : ∀ o0, Below w14.heap.size w14 (w14.alloc o0) := fun o0 => (Below.refl _ _).alloc (Nat.le_refl _) o0
        have hbt : ∀ o0, Below w.heap.size w (w14.alloc o0) := fun o0 => hb.trans ((bp o0).mono hb.size)
        refine Calls.mono (implIndexTrue_any le al lm.length kl lm ll lz ap ps.length kp ps _ (rl.below (bp _)).read (rp.below (bp _)).read (by omega) (by omega) Kl.out.1 Kl.out.2 Kp.out.1 Kp.out.2) ?_
        rintro e w15 ⟨rfl, hc⟩
        have s15 : w14.heap.size + 1 ≤ w15.heap.size := by have := hc.size; simp at this; omega
        have bq : Below w14.heap.size w14 w15 := (bp _).trans (hc.mono (bp _).size)
        replace cX0 := cell_later bq cX0
        replace cX1 := cell_later bq cX1
        replace cX2 := cell_later bq cX2
        replace cX3 := cell_later bq cX3
        replace zX := Nat.lt_of_lt_of_le zX bq.size
        replace cF0 := cell_later bq cF0
        replace zF := Nat.lt_of_lt_of_le zF bq.size
        replace cY0 := cell_later bq cY0
        replace cY1 := cell_later bq cY1
        replace cY2 := cell_later bq cY2
        replace cY3 := cell_later bq cY3
        replace zY := Nat.lt_of_lt_of_le zY bq.size
        replace cC0 := cell_later bq cC0
        replace cC1 := cell_later bq cC1
        replace cC2 := cell_later bq cC2
        replace cC3 := cell_later bq cC3
        replace cC4 := cell_later bq cC4
        replace cC5 := cell_later bq cC5
        replace zC := Nat.lt_of_lt_of_le zC bq.size
        replace cN0 := cell_later bq cN0
        replace cN1 := cell_later bq cN1
        replace cN2 := cell_later bq cN2
        replace cN3 := cell_later bq cN3
        replace cN4 := cell_later bq cN4
        replace cN5 := cell_later bq cN5
        replace zN := Nat.lt_of_lt_of_le zN bq.size
        replace cL0 := cell_later bq cL0
        replace cL1 := cell_later bq cL1
        replace cL2 := cell_later bq cL2
        replace cL3 := cell_later bq cL3
        replace cL4 := cell_later bq cL4
        replace cL5 := cell_later bq cL5
        replace zL := Nat.lt_of_lt_of_le zL bq.size
        have cP0 : w15.cell? ⟨w14.heap.size, 0, none⟩ = some (.int .i64 0) := cell_later hc (by simp [go_sem])
        have cP1 : w15.cell? ⟨w14.heap.size, 1, none⟩ = some (.slice ap ps.length kp) := cell_later hc (by simp [go_sem])
        have zP : w14.heap.size < w15.heap.size := by omega
        replace rx := rx.below bq
        replace rf := rf.below bq
        replace ry := ry.below bq
        replace rc := rc.below bq
        replace rn := rn.below bq
        replace rl := rl.below bq
        replace rp := rp.below bq
        replace hb := hb.trans (bq.mono hb.size)
        clear hc bq bp hbt
        rw [H2.out]
        go_wp2_with fail
        refine Calls.mono (implIndexTrue_any le al lm.length kl lm ll lz af fs.length kf fs _ rl.read rf.read (by omega) (by omega) Kl.out.1 Kl.out.2 Kf.out.1 Kf.out.2) ?_
        rintro e w16 ⟨rfl, hc⟩
        have s16 : w15.heap.size ≤ w16.heap.size := hc.size
        have bq := hc
        replace cX0 := cell_later bq cX0
        replace cX1 := cell_later bq cX1
        replace cX2 := cell_later bq cX2
        replace cX3 := cell_later bq cX3
        replace zX := Nat.lt_of_lt_of_le zX bq.size
        replace cF0 := cell_later bq cF0
        replace zF := Nat.lt_of_lt_of_le zF bq.size
        replace cY0 := cell_later bq cY0
        replace cY1 := cell_later bq cY1
        replace cY2 := cell_later bq cY2
        replace cY3 := cell_later bq cY3
        replace zY := Nat.lt_of_lt_of_le zY bq.size
        replace cC0 := cell_later bq cC0
        replace cC1 := cell_later bq cC1
        replace cC2 := cell_later bq cC2
        replace cC3 := cell_later bq cC3
        replace cC4 := cell_later bq cC4
        replace cC5 := cell_later bq cC5
        replace zC := Nat.lt_of_lt_of_le zC bq.size
        replace cN0 := cell_later bq cN0
        replace cN1 := cell_later bq cN1
        replace cN2 := cell_later bq cN2
        replace cN3 := cell_later bq cN3
        replace cN4 := cell_later bq cN4
        replace cN5 := cell_later bq cN5
        replace zN := Nat.lt_of_lt_of_le zN bq.size
        replace cL0 := cell_later bq cL0
        replace cL1 := cell_later bq cL1
        replace cL2 := cell_later bq cL2
        replace cL3 := cell_later bq cL3
        replace cL4 := cell_later bq cL4
        replace cL5 := cell_later bq cL5
        replace zL := Nat.lt_of_lt_of_le zL bq.size
        replace cP0 := cell_later bq cP0
        replace cP1 := cell_later bq cP1
        replace zP := Nat.lt_of_lt_of_le zP bq.size
        replace rx := rx.below bq
        replace rf := rf.below bq
        replace ry := ry.below bq
        replace rc := rc.below bq
        replace rn := rn.below bq
        replace rl := rl.below bq
        replace rp := rp.below bq
        replace hb := hb.trans (bq.mono hb.size)
        clear hc bq
        rw [H4.out]
        go_wp2
        go_ret
        exact ⟨rfl, hb⟩
  · go_enter Try.func3, Try.ntmps3
    go_wp2
    go_ret
    exact ⟨rfl, Below.refl _ _⟩
end Go.Proofs.Ythdglflipeggpaa.fnCuts
