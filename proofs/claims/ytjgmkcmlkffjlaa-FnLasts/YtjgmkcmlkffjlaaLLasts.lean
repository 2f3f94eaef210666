/-
  For every code, FnLasts returns true: behind the last top's last row there is no row, one row above it there is one more, and the program tells it as the model does; no condition.
-/
import Derived.Test.YtjgmkcmlkffjlaaDrawWA
import Derived.Test.YtjgmkcmlkffjlaaArgsA
import Derived.ProofKit
import Derived.OpenShut
import Derived.ChangeOld
import Derived.Below
import Derived.Carry
namespace Go.Proofs.Ytjgmkcmlkffjlaa
open Go.RowKit
set_option linter.unusedVariables false
set_option linter.unusedSimpArgs false

theorem spAt_inj {cs : List Nat} {p q : Nat} {s : Int × Int} (h : SpAt cs p s) (k : SpAt cs q s) : p = q := by
  obtain ⟨i, j, c, h1, h2, h3, h4⟩ := h
  obtain ⟨i', j', c', k1, k2, k3, k4⟩ := k
  rw [h1, Prod.mk.injEq] at k1
  obtain ⟨e1, e2⟩ := k1
  obtain rfl : i = i' := by omega
  obtain rfl : j = j' := by omega
  omega
def ltT (cs : List Nat) (H : Int) : Int × Int := if cs = [] then (0, 0) else spMove cs (lastSp cs) (1 - H)
theorem lasts {cs : List Nat} (hpos : ∀ c ∈ cs, 1 ≤ c) {H : Int} (h1 : 1 ≤ H) (h2 : H ≤ 20) :
    ltT cs H ∈ spAll cs ∧ spMove cs (ltT cs H) 9999 ∈ spAll cs ∧ spMove cs (ltT cs H) (H - 1) = spMove cs (ltT cs H) 9999 ∧ (ltT cs H ≠ (0, 0) → spMove cs (spMove cs (ltT cs H) 9999) (-H) ≠ ltT cs H) := by
  have h := lt_at hpos h1
  change _ = some (ltT cs H) at h
  generalize ltT cs H = T at *
  have hT := SpAt.of h
  have hlt := (List.getElem?_eq_some_iff.1 h).1
  generalize hp : (max (((spAll cs).length : Int) - H) 0).toNat = p at *
  have hE := spMove_at hpos hT 9999
  have hL := spMove_at hpos hT (H - 1)
  rw [show (min (max ((p : Int) + 9999) 0) (((spAll cs).length : Int) - 1)).toNat = (spAll cs).length - 1 by omega] at hE
  rw [show (min (max ((p : Int) + (H - 1)) 0) (((spAll cs).length : Int) - 1)).toNat = (spAll cs).length - 1 by omega] at hL
  refine ⟨List.mem_of_getElem? h, List.mem_of_getElem? hE.get, Option.some.inj (hL.get.symm.trans hE.get), fun hz hm => ?_⟩
  have hM := spMove_at hpos hE (-H)
  rw [hm] at hM
  have hq := spAt_inj hM hT
  have hp0 : p = 0 := by omega
  subst hp0
  exact hz (Option.some.inj (hT.get.symm.trans (sp_zero hpos).get))

theorem fldS0 (x y z : Value) (w : World) : (Instr.field 33 (.agg #[x, y, z]) 0).run Try.prog w = .ok x w := by kernel_rfl
theorem fldS1 (x y z : Value) (w : World) : (Instr.field 33 (.agg #[x, y, z]) 1).run Try.prog w = .ok (.agg #[y, z]) w := by kernel_rfl
theorem i64_of {C : Bool} {W : Int} {xs : List Int} (hB : Bytes xs) (hn : xs.length ≤ 400) (hW : 1 ≤ W) {s : Int × Int} (h : s ∈ spAll (cnt C W xs)) : i64Sp (s.1, s.2) := by
  obtain ⟨⟨h3, h4⟩, h5, h6⟩ := spAll_small hB hn hW s h
  exact ⟨⟨by omega, by omega⟩, by omega, by omega⟩
theorem spotF_of {ys : List Int} {W S : Int} {C : Bool} (hb : spBase ys.length W C S = 0) {s : Int × Int} (h : s ∈ spAll (cnt C W ys)) : spotF ys W C S s.1 s.2 = 0 := by
  unfold spotF; rw [if_neg (by omega)]; exact spIn_mem.2 h
theorem mv_of {ys : List Int} {W S : Int} {C : Bool} (hb : spBase ys.length W C S = 0) {s : Int × Int} (h : s ∈ spAll (cnt C W ys)) {M : Int} (h1 : -9999 ≤ M) (h2 : M ≤ 9999) : mvC ys W C S s.1 s.2 M = 0 ∧ mvS ys W C S s.1 s.2 M = spMove (cnt C W ys) s M := by
  have e1 : mvC ys W C S s.1 s.2 M = 0 := by unfold mvC; rw [spotF_of hb h]; rw [if_neg (by omega), if_neg (by omega)]
  exact ⟨e1, by unfold mvS; rw [if_pos e1]⟩

set_option maxRecDepth 20000 in
set_option maxHeartbeats 6400000 in
theorem lastsWalk (a : Option Addr) (n ca : Nat) (xs : List Int) (w : World) (ha : Rd .u8 w a n xs) (hB : Bytes xs) (hm : n ≤ maxLen) :
    Calls Try.prog 3 #[.slice a n ca] w fun e w' => e = .returned (.bool true) ∧ Below w.heap.size w w' := by
  unfold maxLen at hm
  by_cases hn : n ≤ 1048576
  case neg =>
    go_enter Try.func3, Try.ntmps3
    go_wp2_with (go_at_call 10; go_in)
    go_ret
    exact ⟨rfl, Below.refl _ _⟩
  go_enter Try.func3, Try.ntmps3
  have hb : Below w.heap.size w w := Below.refl _ _
  go_wp2_with (go_at_call 10; go_in)
  refine Calls.mono (DrawLastTop_any a n ca xs _ (ha.below hb) hB hn) ?_
  rintro e w1 ⟨v, ys, W, Q, S, H, rfl, ry, hyl, hyb, hH, hc⟩
  obtain ⟨ay, ky, rfl, hk1, hk2⟩ := ry.shape
  have s1 : w.heap.size ≤ w1.heap.size := hc.size
  have bq := hc
  replace hb := hb.trans (bq.mono hb.size)
  clear hc bq
  have IL := fun w' h => implLastTop_any ay ys.length ky ys W S H Q w' h hyb (by omega) hk1 hk2
  have SL := fun w' h => specLastTop_any ay ys.length ky ys W S H Q w' h hyb (by omega) hk1 hk2
  have hHb : 0 ≤ H ∧ H ≤ 21 := by simp at hH; omega
  obtain ⟨hH0, hH21⟩ := hHb
  have f0 := fldS0
  have f1 := fldS1
  clear ha hB hn hm hH
  by_cases hC : ltC ys W Q S H = 0
  · have hC2 := hC
    unfold ltC at hC2
    have hb0 : spBase ys.length W Q S = 0 := by
      apply Classical.byContradiction; intro h; rw [if_pos h] at hC2; exact h hC2
    rw [if_neg (by omega)] at hC2
    have hHr : 1 ≤ H ∧ H ≤ 20 := by split at hC2 <;> omega
    obtain ⟨hHa, hHb⟩ := hHr
    obtain ⟨hn4, hLy⟩ := spBase_ok hb0
    obtain ⟨hW, hW2, -, -, -⟩ := lyF_ok hLy
    have hS : ltS ys W Q S H = ltT (cnt Q W ys) H := by unfold ltS ltT; rw [if_pos hC]
    rw [hC, hS] at IL SL
    obtain ⟨m1, m2, m3, m4⟩ := lasts (cnt_pos (C := Q) (xs := ys) hW) hHa hHb
    generalize ltT (cnt Q W ys) H = T at *
    obtain ⟨a1, a2⟩ := mv_of hb0 m1 (M := 9999) (by omega) (by omega)
    obtain ⟨b1, b2⟩ := mv_of hb0 m1 (M := H - 1) (by omega) (by omega)
    obtain ⟨c1, c2⟩ := mv_of hb0 m2 (M := -H) (by omega) (by omega)
    have MA := fun w' h => implMoveSpot_any ay ys.length ky ys W S T.1 T.2 9999 Q (i64_of hyb hn4 hW m1) w' h hyb (by omega) hk1 hk2
    have MB := fun w' h => implMoveSpot_any ay ys.length ky ys W S T.1 T.2 (H - 1) Q (i64_of hyb hn4 hW m1) w' h hyb (by omega) hk1 hk2
    have MC := fun w' h => implMoveSpot_any ay ys.length ky ys W S (spMove (cnt Q W ys) T 9999).1 (spMove (cnt Q W ys) T 9999).2 (-H) Q (i64_of hyb hn4 hW m2) w' h hyb (by omega) hk1 hk2
    have SF := fun w' h => implSpotFault_any ay ys.length ky ys W S T.1 T.2 Q (i64_of hyb hn4 hW m1) w' h hyb (by omega) hk1 hk2
    rw [a1, a2] at MA
    rw [b1, b2, m3] at MB
    rw [c1, c2] at MC
    rw [spotF_of hb0 m1] at SF
    generalize spMove (cnt Q W ys) T 9999 = EE at *
    generalize spMove (cnt Q W ys) EE (-H) = MM at *
    obtain ⟨T1, T2⟩ := T
    obtain ⟨E1, E2⟩ := EE
    obtain ⟨M1, M2⟩ := MM
    simp only at IL SL MA MB MC SF
    have HIL : Hid _ := IL
    have HSL : Hid _ := SL
    have HM1 : Hid _ := MA
    have HM2 : Hid _ := MB
    have HM3 : Hid _ := MC
    have HSF : Hid _ := SF
    have hg := guardSpot
    have q1 : ∀ w, (binOp .eql 31 (.agg #[.int .i64 E1, .int .i64 E2]) (.agg #[.int .i64 E1, .int .i64 E2])).run Try.prog w = .ok (.bool true) w := fun w => by rw [eqlSpot, decide_eq_true ⟨rfl, rfl⟩]
    have q2 : ∀ w, (binOp .eql 31 (.agg #[.int .i64 T1, .int .i64 T2]) (.agg #[.int .i64 T1, .int .i64 T2])).run Try.prog w = .ok (.bool true) w := fun w => by rw [eqlSpot, decide_eq_true ⟨rfl, rfl⟩]
    clear IL SL MA MB MC SF m1 m2 m3 a1 a2 b1 b2 c1 c2 hS hC hC2 hb0 hLy hW hW2 hk1 hk2 hyb
    by_cases hz : T1 = 0 ∧ T2 = 0
    · have q3 : ∀ w, (binOp .eql 31 (.agg #[.int .i64 T1, .int .i64 T2]) (.agg #[.int .i64 0, .int .i64 0])).run Try.prog w = .ok (.bool true) w := fun w => by rw [eqlSpot, decide_eq_true hz]
      clear m4 hz
      go_wp2_with fail
      have bp : ∀ o0 o1, Below w1.heap.size w1 ((w1.alloc o0).alloc o1) := fun o0 o1 => ((Below.refl _ _).alloc (Nat.le_refl _) o0).alloc (by simp) o1
      have hbt : ∀ o0 o1, Below w.heap.size w ((w1.alloc o0).alloc o1) := fun o0 o1 => hb.trans ((bp o0 o1).mono hb.size)
      refine Calls.mono (HIL.out _ (ry.below (bp _ _)).read) ?_
      rintro e w2 ⟨rfl, hc⟩
      have s2 : w1.heap.size + 2 ≤ w2.heap.size := by have := hc.size; simp at this; omega
      have bq : Below w1.heap.size w1 w2 := (bp _ _).trans (hc.mono (bp _ _).size)
      have cF0 : w2.cell? ⟨w1.heap.size, 0, none⟩ = some (.slice ay ys.length ky) := cell_later hc (by simp [go_sem])
      have zF : w1.heap.size < w2.heap.size := by omega
      have cL0 : w2.cell? ⟨w1.heap.size + 1, 0, none⟩ = some (.int .i64 W) := cell_later hc (by simp [go_sem])
      have cL1 : w2.cell? ⟨w1.heap.size + 1, 1, none⟩ = some (.bool Q) := cell_later hc (by simp [go_sem])
      have cL2 : w2.cell? ⟨w1.heap.size + 1, 2, none⟩ = some (.int .i64 S) := cell_later hc (by simp [go_sem])
      have zL : w1.heap.size + 1 < w2.heap.size := by omega
      replace ry := ry.below bq
      replace hb := hb.trans (bq.mono hb.size)
      clear hc bq bp hbt
      go_wp2_with fail
      have bp : ∀ o0, Below w2.heap.size w2 (w2.alloc o0) := fun o0 => (Below.refl _ _).alloc (Nat.le_refl _) o0
      have hbt : ∀ o0, Below w.heap.size w (w2.alloc o0) := fun o0 => hb.trans ((bp o0).mono hb.size)
      refine Calls.mono (HM1.out _ (ry.below (bp _)).read) ?_
      rintro e w3 ⟨rfl, hc⟩
      have s3 : w2.heap.size + 1 ≤ w3.heap.size := by have := hc.size; simp at this; omega
      have bq : Below w2.heap.size w2 w3 := (bp _).trans (hc.mono (bp _).size)
      replace cF0 := cell_later bq cF0
      replace zF := Nat.lt_of_lt_of_le zF bq.size
      replace cL0 := cell_later bq cL0
      replace cL1 := cell_later bq cL1
      replace cL2 := cell_later bq cL2
      replace zL := Nat.lt_of_lt_of_le zL bq.size
      have cR0 : w3.cell? ⟨w2.heap.size, 0, none⟩ = some (.int .i64 0) := cell_later hc (by simp [go_sem])
      have cR1 : w3.cell? ⟨w2.heap.size, 1, none⟩ = some (.int .i64 T1) := cell_later hc (by simp [go_sem])
      have cR2 : w3.cell? ⟨w2.heap.size, 2, none⟩ = some (.int .i64 T2) := cell_later hc (by simp [go_sem])
      have zR : w2.heap.size < w3.heap.size := by omega
      replace ry := ry.below bq
      replace hb := hb.trans (bq.mono hb.size)
      clear hc bq bp hbt
      go_wp2_with fail
      have bp : ∀ o0, Below w3.heap.size w3 (w3.alloc o0) := fun o0 => (Below.refl _ _).alloc (Nat.le_refl _) o0
      have hbt : ∀ o0, Below w.heap.size w (w3.alloc o0) := fun o0 => hb.trans ((bp o0).mono hb.size)
      refine Calls.mono (HM2.out _ (ry.below (bp _)).read) ?_
      rintro e w4 ⟨rfl, hc⟩
      have s4 : w3.heap.size + 1 ≤ w4.heap.size := by have := hc.size; simp at this; omega
      have bq : Below w3.heap.size w3 w4 := (bp _).trans (hc.mono (bp _).size)
      replace cF0 := cell_later bq cF0
      replace zF := Nat.lt_of_lt_of_le zF bq.size
      replace cL0 := cell_later bq cL0
      replace cL1 := cell_later bq cL1
      replace cL2 := cell_later bq cL2
      replace zL := Nat.lt_of_lt_of_le zL bq.size
      replace cR0 := cell_later bq cR0
      replace cR1 := cell_later bq cR1
      replace cR2 := cell_later bq cR2
      replace zR := Nat.lt_of_lt_of_le zR bq.size
      have cE0 : w4.cell? ⟨w3.heap.size, 0, none⟩ = some (.int .i64 0) := cell_later hc (by simp [go_sem])
      have cE1 : w4.cell? ⟨w3.heap.size, 1, none⟩ = some (.int .i64 E1) := cell_later hc (by simp [go_sem])
      have cE2 : w4.cell? ⟨w3.heap.size, 2, none⟩ = some (.int .i64 E2) := cell_later hc (by simp [go_sem])
      have zE : w3.heap.size < w4.heap.size := by omega
      replace ry := ry.below bq
      replace hb := hb.trans (bq.mono hb.size)
      clear hc bq bp hbt
      go_wp2_with fail
      have bp : ∀ o0, Below w4.heap.size w4 (w4.alloc o0) := fun o0 => (Below.refl _ _).alloc (Nat.le_refl _) o0
      have hbt : ∀ o0, Below w.heap.size w (w4.alloc o0) := fun o0 => hb.trans ((bp o0).mono hb.size)
      refine Calls.mono (HM3.out _ (ry.below (bp _)).read) ?_
      rintro e w5 ⟨rfl, hc⟩
      have s5 : w4.heap.size + 1 ≤ w5.heap.size := by have := hc.size; simp at this; omega
      have bq : Below w4.heap.size w4 w5 := (bp _).trans (hc.mono (bp _).size)
      replace cF0 := cell_later bq cF0
      replace zF := Nat.lt_of_lt_of_le zF bq.size
      replace cL0 := cell_later bq cL0
      replace cL1 := cell_later bq cL1
      replace cL2 := cell_later bq cL2
      replace zL := Nat.lt_of_lt_of_le zL bq.size
      replace cR0 := cell_later bq cR0
      replace cR1 := cell_later bq cR1
      replace cR2 := cell_later bq cR2
      replace zR := Nat.lt_of_lt_of_le zR bq.size
      replace cE0 := cell_later bq cE0
      replace cE1 := cell_later bq cE1
      replace cE2 := cell_later bq cE2
      replace zE := Nat.lt_of_lt_of_le zE bq.size
      have cX0 : w5.cell? ⟨w4.heap.size, 0, none⟩ = some (.int .i64 0) := cell_later hc (by simp [go_sem])
      have cX1 : w5.cell? ⟨w4.heap.size, 1, none⟩ = some (.int .i64 E1) := cell_later hc (by simp [go_sem])
      have cX2 : w5.cell? ⟨w4.heap.size, 2, none⟩ = some (.int .i64 E2) := cell_later hc (by simp [go_sem])
      have zX : w4.heap.size < w5.heap.size := by omega
      replace ry := ry.below bq
      replace hb := hb.trans (bq.mono hb.size)
      clear hc bq bp hbt
      go_wp2_with fail
      have bp : ∀ o0, Below w5.heap.size w5 (w5.alloc o0) := fun o0 => (Below.refl _ _).alloc (Nat.le_refl _) o0
      have hbt : ∀ o0, Below w.heap.size w (w5.alloc o0) := fun o0 => hb.trans ((bp o0).mono hb.size)
      obtain ⟨w6, hw6⟩ : ∃ x, (w5.alloc (.cells #[.int .i64 0, .int .i64 M1, .int .i64 M2] 33)) = x := ⟨_, rfl⟩
      have hc : Below ((w5.alloc (.cells #[.int .i64 0, .int .i64 M1, .int .i64 M2] 33))).heap.size ((w5.alloc (.cells #[.int .i64 0, .int .i64 M1, .int .i64 M2] 33))) w6 := hw6 ▸ Below.refl _ _
      have s6 : w5.heap.size + 1 ≤ w6.heap.size := by have := hc.size; simp at this; omega
      have bq : Below w5.heap.size w5 w6 := (bp _).trans (hc.mono (bp _).size)
      replace cF0 := cell_later bq cF0
      replace zF := Nat.lt_of_lt_of_le zF bq.size
      replace cL0 := cell_later bq cL0
      replace cL1 := cell_later bq cL1
      replace cL2 := cell_later bq cL2
      replace zL := Nat.lt_of_lt_of_le zL bq.size
      replace cR0 := cell_later bq cR0
      replace cR1 := cell_later bq cR1
      replace cR2 := cell_later bq cR2
      replace zR := Nat.lt_of_lt_of_le zR bq.size
      replace cE0 := cell_later bq cE0
      replace cE1 := cell_later bq cE1
      replace cE2 := cell_later bq cE2
      replace zE := Nat.lt_of_lt_of_le zE bq.size
      replace cX0 := cell_later bq cX0
      replace cX1 := cell_later bq cX1
      replace cX2 := cell_later bq cX2
      replace zX := Nat.lt_of_lt_of_le zX bq.size
      have cM0 : w6.cell? ⟨w5.heap.size, 0, none⟩ = some (.int .i64 0) := cell_later hc (by simp [go_sem])
      have cM1 : w6.cell? ⟨w5.heap.size, 1, none⟩ = some (.int .i64 M1) := cell_later hc (by simp [go_sem])
      have cM2 : w6.cell? ⟨w5.heap.size, 2, none⟩ = some (.int .i64 M2) := cell_later hc (by simp [go_sem])
      have zM : w5.heap.size < w6.heap.size := by omega
      replace ry := ry.below bq
      replace hb := hb.trans (bq.mono hb.size)
      clear hc bq bp hbt
      rw [hw6]
      clear hw6
      have bd : Below w6.heap.size w6 w6.drew := (Below.refl _ _).drew
      refine wp_region_held_drew (S := fun w' => Below w.heap.size w w' ∧ w'.cell? ⟨w3.heap.size, 1, none⟩ = some (.int .i64 E1) ∧ w'.cell? ⟨w3.heap.size, 2, none⟩ = some (.int .i64 E2) ∧ w'.cell? ⟨w1.heap.size, 0, none⟩ = some (.slice ay ys.length ky) ∧ w'.cell? ⟨w1.heap.size + 1, 0, none⟩ = some (.int .i64 W) ∧ w'.cell? ⟨w1.heap.size + 1, 1, none⟩ = some (.bool Q) ∧ w'.cell? ⟨w1.heap.size + 1, 2, none⟩ = some (.int .i64 S) ∧ w'.cell? ⟨w5.heap.size, 0, none⟩ = some (.int .i64 0) ∧ w'.cell? ⟨w5.heap.size, 1, none⟩ = some (.int .i64 M1) ∧ w'.cell? ⟨w5.heap.size, 2, none⟩ = some (.int .i64 M2) ∧ w'.cell? ⟨w2.heap.size, 1, none⟩ = some (.int .i64 T1) ∧ w'.cell? ⟨w2.heap.size, 2, none⟩ = some (.int .i64 T2) ∧ w'.cell? ⟨w4.heap.size, 0, none⟩ = some (.int .i64 0) ∧ w'.cell? ⟨w4.heap.size, 1, none⟩ = some (.int .i64 E1) ∧ w'.cell? ⟨w4.heap.size, 2, none⟩ = some (.int .i64 E2)) (by kernel_rfl) ⟨(hb.trans (bd.mono hb.size)), cell_later bd cE1, cell_later bd cE2, cell_later bd cF0, cell_later bd cL0, cell_later bd cL1, cell_later bd cL2, cell_later bd cM0, cell_later bd cM1, cell_later bd cM2, cell_later bd cR1, cell_later bd cR2, cell_later bd cX0, cell_later bd cX1, cell_later bd cX2⟩ (fun hS => ?_)
      obtain ⟨D6, hD⟩ : ∃ D, w6.drew = D := ⟨_, rfl⟩
      rw [hD] at hS bd ⊢
      have hc := bd
      clear hD bd
      have s7 : w6.heap.size ≤ D6.heap.size := hc.size
      have bq := hc
      replace cF0 := cell_later bq cF0
      replace zF := Nat.lt_of_lt_of_le zF bq.size
      replace cL0 := cell_later bq cL0
      replace cL1 := cell_later bq cL1
      replace cL2 := cell_later bq cL2
      replace zL := Nat.lt_of_lt_of_le zL bq.size
      replace cR0 := cell_later bq cR0
      replace cR1 := cell_later bq cR1
      replace cR2 := cell_later bq cR2
      replace zR := Nat.lt_of_lt_of_le zR bq.size
      replace cE0 := cell_later bq cE0
      replace cE1 := cell_later bq cE1
      replace cE2 := cell_later bq cE2
      replace zE := Nat.lt_of_lt_of_le zE bq.size
      replace cX0 := cell_later bq cX0
      replace cX1 := cell_later bq cX1
      replace cX2 := cell_later bq cX2
      replace zX := Nat.lt_of_lt_of_le zX bq.size
      replace cM0 := cell_later bq cM0
      replace cM1 := cell_later bq cM1
      replace cM2 := cell_later bq cM2
      replace zM := Nat.lt_of_lt_of_le zM bq.size
      replace ry := ry.below bq
      replace hb := hb.trans (bq.mono hb.size)
      clear hc bq
      refine wpAnyH_take (i := 0) (v := (.agg #[.slice ay ys.length ky])) rfl (by as_aux_lemma => kernel_rfl) (by as_aux_lemma => kernel_rfl) (by as_aux_lemma => kernel_rfl) (fun _ _ _ h => h) (Or.inl ⟨by kernel_rfl, ?_⟩) hS ?_
      · intro w hSw; (try dsimp only at hSw); obtain ⟨hSb, hl0, hl1, hl2, hl3, hl4, hl5, hl6, hl7, hl8, hl9, hl10, hl11, hl12, hl13⟩ := hSw; go_simp
      (try simp only [Act.put, List.getElem_toArray, List.getElem_cons_zero, List.getElem_cons_succ, List.setIfInBounds_toArray, List.set_cons_zero, List.set_cons_succ])
      refine wpAnyH_take (i := 1) (v := (.agg #[.int .i64 W, .bool Q, .int .i64 S])) rfl (by as_aux_lemma => kernel_rfl) (by as_aux_lemma => kernel_rfl) (by as_aux_lemma => kernel_rfl) (fun _ _ _ h => h) (Or.inl ⟨by kernel_rfl, ?_⟩) hS ?_
      · intro w hSw; (try dsimp only at hSw); obtain ⟨hSb, hl0, hl1, hl2, hl3, hl4, hl5, hl6, hl7, hl8, hl9, hl10, hl11, hl12, hl13⟩ := hSw; go_simp
      (try simp only [Act.put, List.getElem_toArray, List.getElem_cons_zero, List.getElem_cons_succ, List.setIfInBounds_toArray, List.set_cons_zero, List.set_cons_succ])
      refine wpAnyH_take (i := 2) (v := (.pointer (some ⟨w2.heap.size, 1, none⟩))) rfl (by as_aux_lemma => kernel_rfl) (by as_aux_lemma => kernel_rfl) (by as_aux_lemma => kernel_rfl) (fun _ _ _ h => h) (Or.inl ⟨by kernel_rfl, ?_⟩) hS ?_
      · intro w hSw; (try dsimp only at hSw); go_simp
      (try simp only [Act.put, List.getElem_toArray, List.getElem_cons_zero, List.getElem_cons_succ, List.setIfInBounds_toArray, List.set_cons_zero, List.set_cons_succ])
      refine wpAnyH_take (i := 3) (v := (.agg #[.int .i64 T1, .int .i64 T2])) rfl (by as_aux_lemma => kernel_rfl) (by as_aux_lemma => kernel_rfl) (by as_aux_lemma => kernel_rfl) (fun _ _ _ h => h) (Or.inl ⟨by kernel_rfl, ?_⟩) hS ?_
      · intro w hSw; (try dsimp only at hSw); obtain ⟨hSb, hl0, hl1, hl2, hl3, hl4, hl5, hl6, hl7, hl8, hl9, hl10, hl11, hl12, hl13⟩ := hSw; go_simp
      (try simp only [Act.put, List.getElem_toArray, List.getElem_cons_zero, List.getElem_cons_succ, List.setIfInBounds_toArray, List.set_cons_zero, List.set_cons_succ])
      refine wpAnyH_ready (rs := [4]) (by as_aux_lemma => kernel_rfl) (by simp) ?_
      refine AllReadyH.cons rfl (fun K hK => ?_) AllReadyH.nil
      go_simp
      refine Calls.mono (HSF.out _ ry.read) ?_
      rintro e w8 ⟨rfl, hc⟩
      have s8 : D6.heap.size ≤ w8.heap.size := hc.size
      have bq := hc
      replace cF0 := cell_later bq cF0
      replace zF := Nat.lt_of_lt_of_le zF bq.size
      replace cL0 := cell_later bq cL0
      replace cL1 := cell_later bq cL1
      replace cL2 := cell_later bq cL2
      replace zL := Nat.lt_of_lt_of_le zL bq.size
      replace cR0 := cell_later bq cR0
      replace cR1 := cell_later bq cR1
      replace cR2 := cell_later bq cR2
      replace zR := Nat.lt_of_lt_of_le zR bq.size
      replace cE0 := cell_later bq cE0
      replace cE1 := cell_later bq cE1
      replace cE2 := cell_later bq cE2
      replace zE := Nat.lt_of_lt_of_le zE bq.size
      replace cX0 := cell_later bq cX0
      replace cX1 := cell_later bq cX1
      replace cX2 := cell_later bq cX2
      replace zX := Nat.lt_of_lt_of_le zX bq.size
      replace cM0 := cell_later bq cM0
      replace cM1 := cell_later bq cM1
      replace cM2 := cell_later bq cM2
      replace zM := Nat.lt_of_lt_of_le zM bq.size
      replace ry := ry.below bq
      replace hb := hb.trans (bq.mono hb.size)
      clear hc bq
      refine hK.out _ _ (⟨hb, cE1, cE2, cF0, cL0, cL1, cL2, cM0, cM1, cM2, cR1, cR2, cX0, cX1, cX2⟩) (fun hS => ?_)
      clear hK K
      (try simp only [Act.put, List.getElem_toArray, List.getElem_cons_zero, List.getElem_cons_succ, List.setIfInBounds_toArray, List.set_cons_zero, List.set_cons_succ])
      refine wpAnyH_take (i := 5) (v := (.bool true)) rfl (by as_aux_lemma => kernel_rfl) (by as_aux_lemma => kernel_rfl) (by as_aux_lemma => kernel_rfl) (fun _ _ _ h => h) (Or.inl ⟨by kernel_rfl, ?_⟩) hS ?_
      · intro w hSw; (try dsimp only at hSw); go_simp
      (try simp only [Act.put, List.getElem_toArray, List.getElem_cons_zero, List.getElem_cons_succ, List.setIfInBounds_toArray, List.set_cons_zero, List.set_cons_succ])
      refine wpAnyH_take (i := 6) (v := (.bool true)) rfl (by as_aux_lemma => kernel_rfl) (by as_aux_lemma => kernel_rfl) (by as_aux_lemma => kernel_rfl) (fun _ _ _ h => h) (Or.inl ⟨by kernel_rfl, ?_⟩) hS ?_
      · intro w hSw; (try dsimp only at hSw); go_simp
      (try simp only [Act.put, List.getElem_toArray, List.getElem_cons_zero, List.getElem_cons_succ, List.setIfInBounds_toArray, List.set_cons_zero, List.set_cons_succ])
      refine wpAnyH_take (i := 7) (v := (.pointer (some ⟨w4.heap.size, 0, none⟩))) rfl (by as_aux_lemma => kernel_rfl) (by as_aux_lemma => kernel_rfl) (by as_aux_lemma => kernel_rfl) (fun _ _ _ h => h) (Or.inl ⟨by kernel_rfl, ?_⟩) hS ?_
      · intro w hSw; (try dsimp only at hSw); go_simp
      (try simp only [Act.put, List.getElem_toArray, List.getElem_cons_zero, List.getElem_cons_succ, List.setIfInBounds_toArray, List.set_cons_zero, List.set_cons_succ])
      refine wpAnyH_take (i := 8) (v := (.int .i64 0)) rfl (by as_aux_lemma => kernel_rfl) (by as_aux_lemma => kernel_rfl) (by as_aux_lemma => kernel_rfl) (fun _ _ _ h => h) (Or.inl ⟨by kernel_rfl, ?_⟩) hS ?_
      · intro w hSw; (try dsimp only at hSw); obtain ⟨hSb, hl0, hl1, hl2, hl3, hl4, hl5, hl6, hl7, hl8, hl9, hl10, hl11, hl12, hl13⟩ := hSw; go_simp
      (try simp only [Act.put, List.getElem_toArray, List.getElem_cons_zero, List.getElem_cons_succ, List.setIfInBounds_toArray, List.set_cons_zero, List.set_cons_succ])
      refine wpAnyH_take (i := 9) (v := (.bool true)) rfl (by as_aux_lemma => kernel_rfl) (by as_aux_lemma => kernel_rfl) (by as_aux_lemma => kernel_rfl) (fun _ _ _ h => h) (Or.inl ⟨by kernel_rfl, ?_⟩) hS ?_
      · intro w hSw; (try dsimp only at hSw); go_simp
      (try simp only [Act.put, List.getElem_toArray, List.getElem_cons_zero, List.getElem_cons_succ, List.setIfInBounds_toArray, List.set_cons_zero, List.set_cons_succ])
      refine wpAnyH_take (i := 10) (v := (.bool true)) rfl (by as_aux_lemma => kernel_rfl) (by as_aux_lemma => kernel_rfl) (by as_aux_lemma => kernel_rfl) (fun _ _ _ h => h) (Or.inl ⟨by kernel_rfl, ?_⟩) hS ?_
      · intro w hSw; (try dsimp only at hSw); go_simp
      (try simp only [Act.put, List.getElem_toArray, List.getElem_cons_zero, List.getElem_cons_succ, List.setIfInBounds_toArray, List.set_cons_zero, List.set_cons_succ])
      refine wpAnyH_take (i := 11) (v := (.bool true)) rfl (by as_aux_lemma => kernel_rfl) (by as_aux_lemma => kernel_rfl) (by as_aux_lemma => kernel_rfl) (fun _ _ _ h => h) (Or.inl ⟨by kernel_rfl, ?_⟩) hS ?_
      · intro w hSw; (try dsimp only at hSw); go_simp
      (try simp only [Act.put, List.getElem_toArray, List.getElem_cons_zero, List.getElem_cons_succ, List.setIfInBounds_toArray, List.set_cons_zero, List.set_cons_succ])
      refine wpAnyH_take (i := 12) (v := (.pointer (some ⟨w4.heap.size, 1, none⟩))) rfl (by as_aux_lemma => kernel_rfl) (by as_aux_lemma => kernel_rfl) (by as_aux_lemma => kernel_rfl) (fun _ _ _ h => h) (Or.inl ⟨by kernel_rfl, ?_⟩) hS ?_
      · intro w hSw; (try dsimp only at hSw); go_simp
      (try simp only [Act.put, List.getElem_toArray, List.getElem_cons_zero, List.getElem_cons_succ, List.setIfInBounds_toArray, List.set_cons_zero, List.set_cons_succ])
      refine wpAnyH_take (i := 13) (v := (.agg #[.int .i64 E1, .int .i64 E2])) rfl (by as_aux_lemma => kernel_rfl) (by as_aux_lemma => kernel_rfl) (by as_aux_lemma => kernel_rfl) (fun _ _ _ h => h) (Or.inl ⟨by kernel_rfl, ?_⟩) hS ?_
      · intro w hSw; (try dsimp only at hSw); obtain ⟨hSb, hl0, hl1, hl2, hl3, hl4, hl5, hl6, hl7, hl8, hl9, hl10, hl11, hl12, hl13⟩ := hSw; go_simp
      (try simp only [Act.put, List.getElem_toArray, List.getElem_cons_zero, List.getElem_cons_succ, List.setIfInBounds_toArray, List.set_cons_zero, List.set_cons_succ])
      refine wpAnyH_take (i := 14) (v := (.pointer (some ⟨w3.heap.size, 1, none⟩))) rfl (by as_aux_lemma => kernel_rfl) (by as_aux_lemma => kernel_rfl) (by as_aux_lemma => kernel_rfl) (fun _ _ _ h => h) (Or.inl ⟨by kernel_rfl, ?_⟩) hS ?_
      · intro w hSw; (try dsimp only at hSw); go_simp
      (try simp only [Act.put, List.getElem_toArray, List.getElem_cons_zero, List.getElem_cons_succ, List.setIfInBounds_toArray, List.set_cons_zero, List.set_cons_succ])
      refine wpAnyH_take (i := 15) (v := (.agg #[.int .i64 E1, .int .i64 E2])) rfl (by as_aux_lemma => kernel_rfl) (by as_aux_lemma => kernel_rfl) (by as_aux_lemma => kernel_rfl) (fun _ _ _ h => h) (Or.inl ⟨by kernel_rfl, ?_⟩) hS ?_
      · intro w hSw; (try dsimp only at hSw); obtain ⟨hSb, hl0, hl1, hl2, hl3, hl4, hl5, hl6, hl7, hl8, hl9, hl10, hl11, hl12, hl13⟩ := hSw; go_simp
      (try simp only [Act.put, List.getElem_toArray, List.getElem_cons_zero, List.getElem_cons_succ, List.setIfInBounds_toArray, List.set_cons_zero, List.set_cons_succ])
      refine wpAnyH_take (i := 16) (v := (.bool true)) rfl (by as_aux_lemma => kernel_rfl) (by as_aux_lemma => kernel_rfl) (by as_aux_lemma => kernel_rfl) (fun _ _ _ h => h) (Or.inl ⟨by kernel_rfl, ?_⟩) hS ?_
      · intro w hSw; (try dsimp only at hSw); go_simp
      (try simp only [Act.put, List.getElem_toArray, List.getElem_cons_zero, List.getElem_cons_succ, List.setIfInBounds_toArray, List.set_cons_zero, List.set_cons_succ])
      refine wpAnyH_take (i := 17) (v := (.bool true)) rfl (by as_aux_lemma => kernel_rfl) (by as_aux_lemma => kernel_rfl) (by as_aux_lemma => kernel_rfl) (fun _ _ _ h => h) (Or.inl ⟨by kernel_rfl, ?_⟩) hS ?_
      · intro w hSw; (try dsimp only at hSw); go_simp
      (try simp only [Act.put, List.getElem_toArray, List.getElem_cons_zero, List.getElem_cons_succ, List.setIfInBounds_toArray, List.set_cons_zero, List.set_cons_succ])
      refine wpAnyH_take (i := 18) (v := (.bool true)) rfl (by as_aux_lemma => kernel_rfl) (by as_aux_lemma => kernel_rfl) (by as_aux_lemma => kernel_rfl) (fun _ _ _ h => h) (Or.inl ⟨by kernel_rfl, ?_⟩) hS ?_
      · intro w hSw; (try dsimp only at hSw); go_simp
      (try simp only [Act.put, List.getElem_toArray, List.getElem_cons_zero, List.getElem_cons_succ, List.setIfInBounds_toArray, List.set_cons_zero, List.set_cons_succ])
      refine wpAnyH_take (i := 19) (v := (.pointer (some ⟨w2.heap.size, 1, none⟩))) rfl (by as_aux_lemma => kernel_rfl) (by as_aux_lemma => kernel_rfl) (by as_aux_lemma => kernel_rfl) (fun _ _ _ h => h) (Or.inl ⟨by kernel_rfl, ?_⟩) hS ?_
      · intro w hSw; (try dsimp only at hSw); go_simp
      (try simp only [Act.put, List.getElem_toArray, List.getElem_cons_zero, List.getElem_cons_succ, List.setIfInBounds_toArray, List.set_cons_zero, List.set_cons_succ])
      refine wpAnyH_take (i := 20) (v := (.agg #[.int .i64 T1, .int .i64 T2])) rfl (by as_aux_lemma => kernel_rfl) (by as_aux_lemma => kernel_rfl) (by as_aux_lemma => kernel_rfl) (fun _ _ _ h => h) (Or.inl ⟨by kernel_rfl, ?_⟩) hS ?_
      · intro w hSw; (try dsimp only at hSw); obtain ⟨hSb, hl0, hl1, hl2, hl3, hl4, hl5, hl6, hl7, hl8, hl9, hl10, hl11, hl12, hl13⟩ := hSw; go_simp
      (try simp only [Act.put, List.getElem_toArray, List.getElem_cons_zero, List.getElem_cons_succ, List.setIfInBounds_toArray, List.set_cons_zero, List.set_cons_succ])
      refine wpAnyH_take (i := 21) (v := (.agg #[.int .i64 0, .int .i64 0])) rfl (by as_aux_lemma => kernel_rfl) (by as_aux_lemma => kernel_rfl) (by as_aux_lemma => kernel_rfl) (fun _ _ _ h => h) (Or.inl ⟨by kernel_rfl, ?_⟩) hS ?_
      · intro w hSw; (try dsimp only at hSw); go_simp
      (try simp only [Act.put, List.getElem_toArray, List.getElem_cons_zero, List.getElem_cons_succ, List.setIfInBounds_toArray, List.set_cons_zero, List.set_cons_succ])
      refine wpAnyH_take (i := 22) (v := (.bool true)) rfl (by as_aux_lemma => kernel_rfl) (by as_aux_lemma => kernel_rfl) (by as_aux_lemma => kernel_rfl) (fun _ _ _ h => h) (Or.inl ⟨by kernel_rfl, ?_⟩) hS ?_
      · intro w hSw; (try dsimp only at hSw); go_simp
      (try simp only [Act.put, List.getElem_toArray, List.getElem_cons_zero, List.getElem_cons_succ, List.setIfInBounds_toArray, List.set_cons_zero, List.set_cons_succ])
      refine wpAnyH_take (i := 23) (v := (.bool true)) rfl (by as_aux_lemma => kernel_rfl) (by as_aux_lemma => kernel_rfl) (by as_aux_lemma => kernel_rfl) (fun _ _ _ h => h) (Or.inl ⟨by kernel_rfl, ?_⟩) hS ?_
      · intro w hSw; (try dsimp only at hSw); go_simp
      (try simp only [Act.put, List.getElem_toArray, List.getElem_cons_zero, List.getElem_cons_succ, List.setIfInBounds_toArray, List.set_cons_zero, List.set_cons_succ])
      refine wpAnyH_take (i := 24) (v := undef) rfl (by as_aux_lemma => kernel_rfl) (by as_aux_lemma => kernel_rfl) (by as_aux_lemma => kernel_rfl) (fun _ _ _ h => h) (Or.inr ⟨by kernel_rfl, rfl⟩) hS ?_
      (try simp only [Act.put, List.getElem_toArray, List.getElem_cons_zero, List.getElem_cons_succ, List.setIfInBounds_toArray, List.set_cons_zero, List.set_cons_succ])
      refine wpAnyH_take (i := 25) (v := undef) rfl (by as_aux_lemma => kernel_rfl) (by as_aux_lemma => kernel_rfl) (by as_aux_lemma => kernel_rfl) (fun _ _ _ h => h) (Or.inr ⟨by kernel_rfl, rfl⟩) hS ?_
      (try simp only [Act.put, List.getElem_toArray, List.getElem_cons_zero, List.getElem_cons_succ, List.setIfInBounds_toArray, List.set_cons_zero, List.set_cons_succ])
      refine wpAnyH_take (i := 26) (v := undef) rfl (by as_aux_lemma => kernel_rfl) (by as_aux_lemma => kernel_rfl) (by as_aux_lemma => kernel_rfl) (fun _ _ _ h => h) (Or.inr ⟨by kernel_rfl, rfl⟩) hS ?_
      (try simp only [Act.put, List.getElem_toArray, List.getElem_cons_zero, List.getElem_cons_succ, List.setIfInBounds_toArray, List.set_cons_zero, List.set_cons_succ])
      refine wpAnyH_take (i := 27) (v := undef) rfl (by as_aux_lemma => kernel_rfl) (by as_aux_lemma => kernel_rfl) (by as_aux_lemma => kernel_rfl) (fun _ _ _ h => h) (Or.inr ⟨by kernel_rfl, rfl⟩) hS ?_
      (try simp only [Act.put, List.getElem_toArray, List.getElem_cons_zero, List.getElem_cons_succ, List.setIfInBounds_toArray, List.set_cons_zero, List.set_cons_succ])
      refine wpAnyH_take (i := 28) (v := undef) rfl (by as_aux_lemma => kernel_rfl) (by as_aux_lemma => kernel_rfl) (by as_aux_lemma => kernel_rfl) (fun _ _ _ h => h) (Or.inr ⟨by kernel_rfl, rfl⟩) hS ?_
      (try simp only [Act.put, List.getElem_toArray, List.getElem_cons_zero, List.getElem_cons_succ, List.setIfInBounds_toArray, List.set_cons_zero, List.set_cons_succ])
      refine wpAnyH_take (i := 29) (v := (.bool true)) rfl (by as_aux_lemma => kernel_rfl) (by as_aux_lemma => kernel_rfl) (by as_aux_lemma => kernel_rfl) (fun _ _ _ h => h) (Or.inl ⟨by kernel_rfl, ?_⟩) hS ?_
      · intro w hSw; (try dsimp only at hSw); go_simp
      (try simp only [Act.put, List.getElem_toArray, List.getElem_cons_zero, List.getElem_cons_succ, List.setIfInBounds_toArray, List.set_cons_zero, List.set_cons_succ])
      refine wpAnyH_take (i := 30) (v := (.bool true)) rfl (by as_aux_lemma => kernel_rfl) (by as_aux_lemma => kernel_rfl) (by as_aux_lemma => kernel_rfl) (fun _ _ _ h => h) (Or.inl ⟨by kernel_rfl, ?_⟩) hS ?_
      · intro w hSw; (try dsimp only at hSw); go_simp
      (try simp only [Act.put, List.getElem_toArray, List.getElem_cons_zero, List.getElem_cons_succ, List.setIfInBounds_toArray, List.set_cons_zero, List.set_cons_succ])
      refine wpAnyH_take (i := 31) (v := (.bool true)) rfl (by as_aux_lemma => kernel_rfl) (by as_aux_lemma => kernel_rfl) (by as_aux_lemma => kernel_rfl) (fun _ _ _ h => h) (Or.inl ⟨by kernel_rfl, ?_⟩) hS ?_
      · intro w hSw; (try dsimp only at hSw); go_simp
      (try simp only [Act.put, List.getElem_toArray, List.getElem_cons_zero, List.getElem_cons_succ, List.setIfInBounds_toArray, List.set_cons_zero, List.set_cons_succ])
      refine wpAnyH_take (i := 32) (v := (.pointer (some ⟨w5.heap.size, 0, none⟩))) rfl (by as_aux_lemma => kernel_rfl) (by as_aux_lemma => kernel_rfl) (by as_aux_lemma => kernel_rfl) (fun _ _ _ h => h) (Or.inl ⟨by kernel_rfl, ?_⟩) hS ?_
      · intro w hSw; (try dsimp only at hSw); go_simp
      (try simp only [Act.put, List.getElem_toArray, List.getElem_cons_zero, List.getElem_cons_succ, List.setIfInBounds_toArray, List.set_cons_zero, List.set_cons_succ])
      refine wpAnyH_take (i := 33) (v := (.int .i64 0)) rfl (by as_aux_lemma => kernel_rfl) (by as_aux_lemma => kernel_rfl) (by as_aux_lemma => kernel_rfl) (fun _ _ _ h => h) (Or.inl ⟨by kernel_rfl, ?_⟩) hS ?_
      · intro w hSw; (try dsimp only at hSw); obtain ⟨hSb, hl0, hl1, hl2, hl3, hl4, hl5, hl6, hl7, hl8, hl9, hl10, hl11, hl12, hl13⟩ := hSw; go_simp
      (try simp only [Act.put, List.getElem_toArray, List.getElem_cons_zero, List.getElem_cons_succ, List.setIfInBounds_toArray, List.set_cons_zero, List.set_cons_succ])
      refine wpAnyH_take (i := 34) (v := (.bool true)) rfl (by as_aux_lemma => kernel_rfl) (by as_aux_lemma => kernel_rfl) (by as_aux_lemma => kernel_rfl) (fun _ _ _ h => h) (Or.inl ⟨by kernel_rfl, ?_⟩) hS ?_
      · intro w hSw; (try dsimp only at hSw); go_simp
      (try simp only [Act.put, List.getElem_toArray, List.getElem_cons_zero, List.getElem_cons_succ, List.setIfInBounds_toArray, List.set_cons_zero, List.set_cons_succ])
      refine wpAnyH_take (i := 35) (v := (.bool true)) rfl (by as_aux_lemma => kernel_rfl) (by as_aux_lemma => kernel_rfl) (by as_aux_lemma => kernel_rfl) (fun _ _ _ h => h) (Or.inl ⟨by kernel_rfl, ?_⟩) hS ?_
      · intro w hSw; (try dsimp only at hSw); go_simp
      (try simp only [Act.put, List.getElem_toArray, List.getElem_cons_zero, List.getElem_cons_succ, List.setIfInBounds_toArray, List.set_cons_zero, List.set_cons_succ])
      refine wpAnyH_take (i := 36) (v := (.bool true)) rfl (by as_aux_lemma => kernel_rfl) (by as_aux_lemma => kernel_rfl) (by as_aux_lemma => kernel_rfl) (fun _ _ _ h => h) (Or.inl ⟨by kernel_rfl, ?_⟩) hS ?_
      · intro w hSw; (try dsimp only at hSw); go_simp
      (try simp only [Act.put, List.getElem_toArray, List.getElem_cons_zero, List.getElem_cons_succ, List.setIfInBounds_toArray, List.set_cons_zero, List.set_cons_succ])
      refine wpAnyH_take (i := 37) (v := (.pointer (some ⟨w2.heap.size, 1, none⟩))) rfl (by as_aux_lemma => kernel_rfl) (by as_aux_lemma => kernel_rfl) (by as_aux_lemma => kernel_rfl) (fun _ _ _ h => h) (Or.inl ⟨by kernel_rfl, ?_⟩) hS ?_
      · intro w hSw; (try dsimp only at hSw); go_simp
      (try simp only [Act.put, List.getElem_toArray, List.getElem_cons_zero, List.getElem_cons_succ, List.setIfInBounds_toArray, List.set_cons_zero, List.set_cons_succ])
      refine wpAnyH_take (i := 38) (v := (.agg #[.int .i64 T1, .int .i64 T2])) rfl (by as_aux_lemma => kernel_rfl) (by as_aux_lemma => kernel_rfl) (by as_aux_lemma => kernel_rfl) (fun _ _ _ h => h) (Or.inl ⟨by kernel_rfl, ?_⟩) hS ?_
      · intro w hSw; (try dsimp only at hSw); obtain ⟨hSb, hl0, hl1, hl2, hl3, hl4, hl5, hl6, hl7, hl8, hl9, hl10, hl11, hl12, hl13⟩ := hSw; go_simp
      (try simp only [Act.put, List.getElem_toArray, List.getElem_cons_zero, List.getElem_cons_succ, List.setIfInBounds_toArray, List.set_cons_zero, List.set_cons_succ])
      refine wpAnyH_take (i := 39) (v := (.agg #[.slice ay ys.length ky])) rfl (by as_aux_lemma => kernel_rfl) (by as_aux_lemma => kernel_rfl) (by as_aux_lemma => kernel_rfl) (fun _ _ _ h => h) (Or.inl ⟨by kernel_rfl, ?_⟩) hS ?_
      · intro w hSw; (try dsimp only at hSw); obtain ⟨hSb, hl0, hl1, hl2, hl3, hl4, hl5, hl6, hl7, hl8, hl9, hl10, hl11, hl12, hl13⟩ := hSw; go_simp
      (try simp only [Act.put, List.getElem_toArray, List.getElem_cons_zero, List.getElem_cons_succ, List.setIfInBounds_toArray, List.set_cons_zero, List.set_cons_succ])
      refine wpAnyH_take (i := 40) (v := (.agg #[.int .i64 W, .bool Q, .int .i64 S])) rfl (by as_aux_lemma => kernel_rfl) (by as_aux_lemma => kernel_rfl) (by as_aux_lemma => kernel_rfl) (fun _ _ _ h => h) (Or.inl ⟨by kernel_rfl, ?_⟩) hS ?_
      · intro w hSw; (try dsimp only at hSw); obtain ⟨hSb, hl0, hl1, hl2, hl3, hl4, hl5, hl6, hl7, hl8, hl9, hl10, hl11, hl12, hl13⟩ := hSw; go_simp
      (try simp only [Act.put, List.getElem_toArray, List.getElem_cons_zero, List.getElem_cons_succ, List.setIfInBounds_toArray, List.set_cons_zero, List.set_cons_succ])
      refine wpAnyH_take (i := 41) (v := (.int .i64 H)) rfl (by as_aux_lemma => kernel_rfl) (by as_aux_lemma => kernel_rfl) (by as_aux_lemma => kernel_rfl) (fun _ _ _ h => h) (Or.inl ⟨by kernel_rfl, ?_⟩) hS ?_
      · intro w hSw; (try dsimp only at hSw); go_simp
      (try simp only [Act.put, List.getElem_toArray, List.getElem_cons_zero, List.getElem_cons_succ, List.setIfInBounds_toArray, List.set_cons_zero, List.set_cons_succ])
      refine wpAnyH_ready (rs := [42]) (by as_aux_lemma => kernel_rfl) (by simp) ?_
      refine AllReadyH.cons rfl (fun K hK => ?_) AllReadyH.nil
      go_simp
      refine Calls.mono (HSL.out _ ry.read) ?_
      rintro e w9 ⟨rfl, hc⟩
      have s9 : w8.heap.size ≤ w9.heap.size := hc.size
      have bq := hc
      replace cF0 := cell_later bq cF0
      replace zF := Nat.lt_of_lt_of_le zF bq.size
      replace cL0 := cell_later bq cL0
      replace cL1 := cell_later bq cL1
      replace cL2 := cell_later bq cL2
      replace zL := Nat.lt_of_lt_of_le zL bq.size
      replace cR0 := cell_later bq cR0
      replace cR1 := cell_later bq cR1
      replace cR2 := cell_later bq cR2
      replace zR := Nat.lt_of_lt_of_le zR bq.size
      replace cE0 := cell_later bq cE0
      replace cE1 := cell_later bq cE1
      replace cE2 := cell_later bq cE2
      replace zE := Nat.lt_of_lt_of_le zE bq.size
      replace cX0 := cell_later bq cX0
      replace cX1 := cell_later bq cX1
      replace cX2 := cell_later bq cX2
      replace zX := Nat.lt_of_lt_of_le zX bq.size
      replace cM0 := cell_later bq cM0
      replace cM1 := cell_later bq cM1
      replace cM2 := cell_later bq cM2
      replace zM := Nat.lt_of_lt_of_le zM bq.size
      replace ry := ry.below bq
      replace hb := hb.trans (bq.mono hb.size)
      clear hc bq
      refine hK.out _ _ (⟨hb, cE1, cE2, cF0, cL0, cL1, cL2, cM0, cM1, cM2, cR1, cR2, cX0, cX1, cX2⟩) (fun hS => ?_)
      clear hK K
      (try simp only [Act.put, List.getElem_toArray, List.getElem_cons_zero, List.getElem_cons_succ, List.setIfInBounds_toArray, List.set_cons_zero, List.set_cons_succ])
      refine wpAnyH_take (i := 43) (v := (.agg #[.int .i64 T1, .int .i64 T2])) rfl (by as_aux_lemma => kernel_rfl) (by as_aux_lemma => kernel_rfl) (by as_aux_lemma => kernel_rfl) (fun _ _ _ h => h) (Or.inl ⟨by kernel_rfl, ?_⟩) hS ?_
      · intro w hSw; (try dsimp only at hSw); go_simp
      (try simp only [Act.put, List.getElem_toArray, List.getElem_cons_zero, List.getElem_cons_succ, List.setIfInBounds_toArray, List.set_cons_zero, List.set_cons_succ])
      refine wpAnyH_take (i := 44) (v := (.bool true)) rfl (by as_aux_lemma => kernel_rfl) (by as_aux_lemma => kernel_rfl) (by as_aux_lemma => kernel_rfl) (fun _ _ _ h => h) (Or.inl ⟨by kernel_rfl, ?_⟩) hS ?_
      · intro w hSw; (try dsimp only at hSw); go_simp
      (try simp only [Act.put, List.getElem_toArray, List.getElem_cons_zero, List.getElem_cons_succ, List.setIfInBounds_toArray, List.set_cons_zero, List.set_cons_succ])
      refine wpAnyH_take (i := 45) (v := (.bool true)) rfl (by as_aux_lemma => kernel_rfl) (by as_aux_lemma => kernel_rfl) (by as_aux_lemma => kernel_rfl) (fun _ _ _ h => h) (Or.inl ⟨by kernel_rfl, ?_⟩) hS ?_
      · intro w hSw; (try dsimp only at hSw); go_simp
      (try simp only [Act.put, List.getElem_toArray, List.getElem_cons_zero, List.getElem_cons_succ, List.setIfInBounds_toArray, List.set_cons_zero, List.set_cons_succ])
      refine wpAnyH_take (i := 46) (v := (.bool true)) rfl (by as_aux_lemma => kernel_rfl) (by as_aux_lemma => kernel_rfl) (by as_aux_lemma => kernel_rfl) (fun _ _ _ h => h) (Or.inl ⟨by kernel_rfl, ?_⟩) hS ?_
      · intro w hSw; (try dsimp only at hSw); go_simp
      (try simp only [Act.put, List.getElem_toArray, List.getElem_cons_zero, List.getElem_cons_succ, List.setIfInBounds_toArray, List.set_cons_zero, List.set_cons_succ])
      refine wpAnyH_done (by kernel_rfl) ?_ _
      clear hS
      go_wp2
      go_ret
      exact ⟨rfl, hb⟩
    · have q3 : ∀ w, (binOp .eql 31 (.agg #[.int .i64 T1, .int .i64 T2]) (.agg #[.int .i64 0, .int .i64 0])).run Try.prog w = .ok (.bool false) w := fun w => by rw [eqlSpot, decide_eq_false hz]
      have q4 : ∀ w, (binOp .neq 31 (.agg #[.int .i64 M1, .int .i64 M2]) (.agg #[.int .i64 T1, .int .i64 T2])).run Try.prog w = .ok (.bool true) w := fun w => by
        have hne : ¬ (M1 = T1 ∧ M2 = T2) := fun h => m4 (fun e => hz (by rw [Prod.mk.injEq] at e; exact e)) (by rw [h.1, h.2])
        rw [neqSpot, decide_eq_true hne]
      clear m4 hz
      go_wp2_with fail
      have bp : ∀ o0 o1, Below w1.heap.size w1 ((w1.alloc o0).alloc o1) := fun o0 o1 => ((Below.refl _ _).alloc (Nat.le_refl _) o0).alloc (by simp) o1
      have hbt : ∀ o0 o1, Below w.heap.size w ((w1.alloc o0).alloc o1) := fun o0 o1 => hb.trans ((bp o0 o1).mono hb.size)
      refine Calls.mono (HIL.out _ (ry.below (bp _ _)).read) ?_
      rintro e w2 ⟨rfl, hc⟩
      have s2 : w1.heap.size + 2 ≤ w2.heap.size := by have := hc.size; simp at this; omega
      have bq : Below w1.heap.size w1 w2 := (bp _ _).trans (hc.mono (bp _ _).size)
      have cF0 : w2.cell? ⟨w1.heap.size, 0, none⟩ = some (.slice ay ys.length ky) := cell_later hc (by simp [go_sem])
      have zF : w1.heap.size < w2.heap.size := by omega
      have cL0 : w2.cell? ⟨w1.heap.size + 1, 0, none⟩ = some (.int .i64 W) := cell_later hc (by simp [go_sem])
      have cL1 : w2.cell? ⟨w1.heap.size + 1, 1, none⟩ = some (.bool Q) := cell_later hc (by simp [go_sem])
      have cL2 : w2.cell? ⟨w1.heap.size + 1, 2, none⟩ = some (.int .i64 S) := cell_later hc (by simp [go_sem])
      have zL : w1.heap.size + 1 < w2.heap.size := by omega
      replace ry := ry.below bq
      replace hb := hb.trans (bq.mono hb.size)
      clear hc bq bp hbt
      go_wp2_with fail
      have bp : ∀ o0, Below w2.heap.size w2 (w2.alloc o0) := fun o0 => (Below.refl _ _).alloc (Nat.le_refl _) o0
      have hbt : ∀ o0, Below w.heap.size w (w2.alloc o0) := fun o0 => hb.trans ((bp o0).mono hb.size)
      refine Calls.mono (HM1.out _ (ry.below (bp _)).read) ?_
      rintro e w3 ⟨rfl, hc⟩
      have s3 : w2.heap.size + 1 ≤ w3.heap.size := by have := hc.size; simp at this; omega
      have bq : Below w2.heap.size w2 w3 := (bp _).trans (hc.mono (bp _).size)
      replace cF0 := cell_later bq cF0
      replace zF := Nat.lt_of_lt_of_le zF bq.size
      replace cL0 := cell_later bq cL0
      replace cL1 := cell_later bq cL1
      replace cL2 := cell_later bq cL2
      replace zL := Nat.lt_of_lt_of_le zL bq.size
      have cR0 : w3.cell? ⟨w2.heap.size, 0, none⟩ = some (.int .i64 0) := cell_later hc (by simp [go_sem])
      have cR1 : w3.cell? ⟨w2.heap.size, 1, none⟩ = some (.int .i64 T1) := cell_later hc (by simp [go_sem])
      have cR2 : w3.cell? ⟨w2.heap.size, 2, none⟩ = some (.int .i64 T2) := cell_later hc (by simp [go_sem])
      have zR : w2.heap.size < w3.heap.size := by omega
      replace ry := ry.below bq
      replace hb := hb.trans (bq.mono hb.size)
      clear hc bq bp hbt
      go_wp2_with fail
      have bp : ∀ o0, Below w3.heap.size w3 (w3.alloc o0) := fun o0 => (Below.refl _ _).alloc (Nat.le_refl _) o0
      have hbt : ∀ o0, Below w.heap.size w (w3.alloc o0) := fun o0 => hb.trans ((bp o0).mono hb.size)
      refine Calls.mono (HM2.out _ (ry.below (bp _)).read) ?_
      rintro e w4 ⟨rfl, hc⟩
      have s4 : w3.heap.size + 1 ≤ w4.heap.size := by have := hc.size; simp at this; omega
      have bq : Below w3.heap.size w3 w4 := (bp _).trans (hc.mono (bp _).size)
      replace cF0 := cell_later bq cF0
      replace zF := Nat.lt_of_lt_of_le zF bq.size
      replace cL0 := cell_later bq cL0
      replace cL1 := cell_later bq cL1
      replace cL2 := cell_later bq cL2
      replace zL := Nat.lt_of_lt_of_le zL bq.size
      replace cR0 := cell_later bq cR0
      replace cR1 := cell_later bq cR1
      replace cR2 := cell_later bq cR2
      replace zR := Nat.lt_of_lt_of_le zR bq.size
      have cE0 : w4.cell? ⟨w3.heap.size, 0, none⟩ = some (.int .i64 0) := cell_later hc (by simp [go_sem])
      have cE1 : w4.cell? ⟨w3.heap.size, 1, none⟩ = some (.int .i64 E1) := cell_later hc (by simp [go_sem])
      have cE2 : w4.cell? ⟨w3.heap.size, 2, none⟩ = some (.int .i64 E2) := cell_later hc (by simp [go_sem])
      have zE : w3.heap.size < w4.heap.size := by omega
      replace ry := ry.below bq
      replace hb := hb.trans (bq.mono hb.size)
      clear hc bq bp hbt
      go_wp2_with fail
      have bp : ∀ o0, Below w4.heap.size w4 (w4.alloc o0) := fun o0 => (Below.refl _ _).alloc (Nat.le_refl _) o0
      have hbt : ∀ o0, Below w.heap.size w (w4.alloc o0) := fun o0 => hb.trans ((bp o0).mono hb.size)
      refine Calls.mono (HM3.out _ (ry.below (bp _)).read) ?_
      rintro e w5 ⟨rfl, hc⟩
      have s5 : w4.heap.size + 1 ≤ w5.heap.size := by have := hc.size; simp at this; omega
      have bq : Below w4.heap.size w4 w5 := (bp _).trans (hc.mono (bp _).size)
      replace cF0 := cell_later bq cF0
      replace zF := Nat.lt_of_lt_of_le zF bq.size
      replace cL0 := cell_later bq cL0
      replace cL1 := cell_later bq cL1
      replace cL2 := cell_later bq cL2
      replace zL := Nat.lt_of_lt_of_le zL bq.size
      replace cR0 := cell_later bq cR0
      replace cR1 := cell_later bq cR1
      replace cR2 := cell_later bq cR2
      replace zR := Nat.lt_of_lt_of_le zR bq.size
      replace cE0 := cell_later bq cE0
      replace cE1 := cell_later bq cE1
      replace cE2 := cell_later bq cE2
      replace zE := Nat.lt_of_lt_of_le zE bq.size
      have cX0 : w5.cell? ⟨w4.heap.size, 0, none⟩ = some (.int .i64 0) := cell_later hc (by simp [go_sem])
      have cX1 : w5.cell? ⟨w4.heap.size, 1, none⟩ = some (.int .i64 E1) := cell_later hc (by simp [go_sem])
      have cX2 : w5.cell? ⟨w4.heap.size, 2, none⟩ = some (.int .i64 E2) := cell_later hc (by simp [go_sem])
      have zX : w4.heap.size < w5.heap.size := by omega
      replace ry := ry.below bq
      replace hb := hb.trans (bq.mono hb.size)
      clear hc bq bp hbt
      go_wp2_with fail
      have bp : ∀ o0, Below w5.heap.size w5 (w5.alloc o0) := fun o0 => (Below.refl _ _).alloc (Nat.le_refl _) o0
      have hbt : ∀ o0, Below w.heap.size w (w5.alloc o0) := fun o0 => hb.trans ((bp o0).mono hb.size)
      obtain ⟨w6, hw6⟩ : ∃ x, (w5.alloc (.cells #[.int .i64 0, .int .i64 M1, .int .i64 M2] 33)) = x := ⟨_, rfl⟩
      have hc : Below ((w5.alloc (.cells #[.int .i64 0, .int .i64 M1, .int .i64 M2] 33))).heap.size ((w5.alloc (.cells #[.int .i64 0, .int .i64 M1, .int .i64 M2] 33))) w6 := hw6 ▸ Below.refl _ _
      have s6 : w5.heap.size + 1 ≤ w6.heap.size := by have := hc.size; simp at this; omega
      have bq : Below w5.heap.size w5 w6 := (bp _).trans (hc.mono (bp _).size)
      replace cF0 := cell_later bq cF0
      replace zF := Nat.lt_of_lt_of_le zF bq.size
      replace cL0 := cell_later bq cL0
      replace cL1 := cell_later bq cL1
      replace cL2 := cell_later bq cL2
      replace zL := Nat.lt_of_lt_of_le zL bq.size
      replace cR0 := cell_later bq cR0
      replace cR1 := cell_later bq cR1
      replace cR2 := cell_later bq cR2
      replace zR := Nat.lt_of_lt_of_le zR bq.size
      replace cE0 := cell_later bq cE0
      replace cE1 := cell_later bq cE1
      replace cE2 := cell_later bq cE2
      replace zE := Nat.lt_of_lt_of_le zE bq.size
      replace cX0 := cell_later bq cX0
      replace cX1 := cell_later bq cX1
      replace cX2 := cell_later bq cX2
      replace zX := Nat.lt_of_lt_of_le zX bq.size
      have cM0 : w6.cell? ⟨w5.heap.size, 0, none⟩ = some (.int .i64 0) := cell_later hc (by simp [go_sem])
      have cM1 : w6.cell? ⟨w5.heap.size, 1, none⟩ = some (.int .i64 M1) := cell_later hc (by simp [go_sem])
      have cM2 : w6.cell? ⟨w5.heap.size, 2, none⟩ = some (.int .i64 M2) := cell_later hc (by simp [go_sem])
      have zM : w5.heap.size < w6.heap.size := by omega
      replace ry := ry.below bq
      replace hb := hb.trans (bq.mono hb.size)
      clear hc bq bp hbt
      rw [hw6]
      clear hw6
      have bd : Below w6.heap.size w6 w6.drew := (Below.refl _ _).drew
      refine wp_region_held_drew (S := fun w' => Below w.heap.size w w' ∧ w'.cell? ⟨w3.heap.size, 1, none⟩ = some (.int .i64 E1) ∧ w'.cell? ⟨w3.heap.size, 2, none⟩ = some (.int .i64 E2) ∧ w'.cell? ⟨w1.heap.size, 0, none⟩ = some (.slice ay ys.length ky) ∧ w'.cell? ⟨w1.heap.size + 1, 0, none⟩ = some (.int .i64 W) ∧ w'.cell? ⟨w1.heap.size + 1, 1, none⟩ = some (.bool Q) ∧ w'.cell? ⟨w1.heap.size + 1, 2, none⟩ = some (.int .i64 S) ∧ w'.cell? ⟨w5.heap.size, 0, none⟩ = some (.int .i64 0) ∧ w'.cell? ⟨w5.heap.size, 1, none⟩ = some (.int .i64 M1) ∧ w'.cell? ⟨w5.heap.size, 2, none⟩ = some (.int .i64 M2) ∧ w'.cell? ⟨w2.heap.size, 1, none⟩ = some (.int .i64 T1) ∧ w'.cell? ⟨w2.heap.size, 2, none⟩ = some (.int .i64 T2) ∧ w'.cell? ⟨w4.heap.size, 0, none⟩ = some (.int .i64 0) ∧ w'.cell? ⟨w4.heap.size, 1, none⟩ = some (.int .i64 E1) ∧ w'.cell? ⟨w4.heap.size, 2, none⟩ = some (.int .i64 E2)) (by kernel_rfl) ⟨(hb.trans (bd.mono hb.size)), cell_later bd cE1, cell_later bd cE2, cell_later bd cF0, cell_later bd cL0, cell_later bd cL1, cell_later bd cL2, cell_later bd cM0, cell_later bd cM1, cell_later bd cM2, cell_later bd cR1, cell_later bd cR2, cell_later bd cX0, cell_later bd cX1, cell_later bd cX2⟩ (fun hS => ?_)
      obtain ⟨D6, hD⟩ : ∃ D, w6.drew = D := ⟨_, rfl⟩
      rw [hD] at hS bd ⊢
      have hc := bd
      clear hD bd
      have s7 : w6.heap.size ≤ D6.heap.size := hc.size
      have bq := hc
      replace cF0 := cell_later bq cF0
      replace zF := Nat.lt_of_lt_of_le zF bq.size
      replace cL0 := cell_later bq cL0
      replace cL1 := cell_later bq cL1
      replace cL2 := cell_later bq cL2
      replace zL := Nat.lt_of_lt_of_le zL bq.size
      replace cR0 := cell_later bq cR0
      replace cR1 := cell_later bq cR1
      replace cR2 := cell_later bq cR2
      replace zR := Nat.lt_of_lt_of_le zR bq.size
      replace cE0 := cell_later bq cE0
      replace cE1 := cell_later bq cE1
      replace cE2 := cell_later bq cE2
      replace zE := Nat.lt_of_lt_of_le zE bq.size
      replace cX0 := cell_later bq cX0
      replace cX1 := cell_later bq cX1
      replace cX2 := cell_later bq cX2
      replace zX := Nat.lt_of_lt_of_le zX bq.size
      replace cM0 := cell_later bq cM0
      replace cM1 := cell_later bq cM1
      replace cM2 := cell_later bq cM2
      replace zM := Nat.lt_of_lt_of_le zM bq.size
      replace ry := ry.below bq
      replace hb := hb.trans (bq.mono hb.size)
      clear hc bq
      refine wpAnyH_take (i := 0) (v := (.agg #[.slice ay ys.length ky])) rfl (by as_aux_lemma => kernel_rfl) (by as_aux_lemma => kernel_rfl) (by as_aux_lemma => kernel_rfl) (fun _ _ _ h => h) (Or.inl ⟨by kernel_rfl, ?_⟩) hS ?_
      · intro w hSw; (try dsimp only at hSw); obtain ⟨hSb, hl0, hl1, hl2, hl3, hl4, hl5, hl6, hl7, hl8, hl9, hl10, hl11, hl12, hl13⟩ := hSw; go_simp
      (try simp only [Act.put, List.getElem_toArray, List.getElem_cons_zero, List.getElem_cons_succ, List.setIfInBounds_toArray, List.set_cons_zero, List.set_cons_succ])
      refine wpAnyH_take (i := 1) (v := (.agg #[.int .i64 W, .bool Q, .int .i64 S])) rfl (by as_aux_lemma => kernel_rfl) (by as_aux_lemma => kernel_rfl) (by as_aux_lemma => kernel_rfl) (fun _ _ _ h => h) (Or.inl ⟨by kernel_rfl, ?_⟩) hS ?_
      · intro w hSw; (try dsimp only at hSw); obtain ⟨hSb, hl0, hl1, hl2, hl3, hl4, hl5, hl6, hl7, hl8, hl9, hl10, hl11, hl12, hl13⟩ := hSw; go_simp
      (try simp only [Act.put, List.getElem_toArray, List.getElem_cons_zero, List.getElem_cons_succ, List.setIfInBounds_toArray, List.set_cons_zero, List.set_cons_succ])
      refine wpAnyH_take (i := 2) (v := (.pointer (some ⟨w2.heap.size, 1, none⟩))) rfl (by as_aux_lemma => kernel_rfl) (by as_aux_lemma => kernel_rfl) (by as_aux_lemma => kernel_rfl) (fun _ _ _ h => h) (Or.inl ⟨by kernel_rfl, ?_⟩) hS ?_
      · intro w hSw; (try dsimp only at hSw); go_simp
      (try simp only [Act.put, List.getElem_toArray, List.getElem_cons_zero, List.getElem_cons_succ, List.setIfInBounds_toArray, List.set_cons_zero, List.set_cons_succ])
      refine wpAnyH_take (i := 3) (v := (.agg #[.int .i64 T1, .int .i64 T2])) rfl (by as_aux_lemma => kernel_rfl) (by as_aux_lemma => kernel_rfl) (by as_aux_lemma => kernel_rfl) (fun _ _ _ h => h) (Or.inl ⟨by kernel_rfl, ?_⟩) hS ?_
      · intro w hSw; (try dsimp only at hSw); obtain ⟨hSb, hl0, hl1, hl2, hl3, hl4, hl5, hl6, hl7, hl8, hl9, hl10, hl11, hl12, hl13⟩ := hSw; go_simp
      (try simp only [Act.put, List.getElem_toArray, List.getElem_cons_zero, List.getElem_cons_succ, List.setIfInBounds_toArray, List.set_cons_zero, List.set_cons_succ])
      refine wpAnyH_ready (rs := [4]) (by as_aux_lemma => kernel_rfl) (by simp) ?_
      refine AllReadyH.cons rfl (fun K hK => ?_) AllReadyH.nil
      go_simp
      refine Calls.mono (HSF.out _ ry.read) ?_
      rintro e w8 ⟨rfl, hc⟩
      have s8 : D6.heap.size ≤ w8.heap.size := hc.size
      have bq := hc
      replace cF0 := cell_later bq cF0
      replace zF := Nat.lt_of_lt_of_le zF bq.size
      replace cL0 := cell_later bq cL0
      replace cL1 := cell_later bq cL1
      replace cL2 := cell_later bq cL2
      replace zL := Nat.lt_of_lt_of_le zL bq.size
      replace cR0 := cell_later bq cR0
      replace cR1 := cell_later bq cR1
      replace cR2 := cell_later bq cR2
      replace zR := Nat.lt_of_lt_of_le zR bq.size
      replace cE0 := cell_later bq cE0
      replace cE1 := cell_later bq cE1
      replace cE2 := cell_later bq cE2
      replace zE := Nat.lt_of_lt_of_le zE bq.size
      replace cX0 := cell_later bq cX0
      replace cX1 := cell_later bq cX1
      replace cX2 := cell_later bq cX2
      replace zX := Nat.lt_of_lt_of_le zX bq.size
      replace cM0 := cell_later bq cM0
      replace cM1 := cell_later bq cM1
      replace cM2 := cell_later bq cM2
      replace zM := Nat.lt_of_lt_of_le zM bq.size
      replace ry := ry.below bq
      replace hb := hb.trans (bq.mono hb.size)
      clear hc bq
      refine hK.out _ _ (⟨hb, cE1, cE2, cF0, cL0, cL1, cL2, cM0, cM1, cM2, cR1, cR2, cX0, cX1, cX2⟩) (fun hS => ?_)
      clear hK K
      (try simp only [Act.put, List.getElem_toArray, List.getElem_cons_zero, List.getElem_cons_succ, List.setIfInBounds_toArray, List.set_cons_zero, List.set_cons_succ])
      refine wpAnyH_take (i := 5) (v := (.bool true)) rfl (by as_aux_lemma => kernel_rfl) (by as_aux_lemma => kernel_rfl) (by as_aux_lemma => kernel_rfl) (fun _ _ _ h => h) (Or.inl ⟨by kernel_rfl, ?_⟩) hS ?_
      · intro w hSw; (try dsimp only at hSw); go_simp
      (try simp only [Act.put, List.getElem_toArray, List.getElem_cons_zero, List.getElem_cons_succ, List.setIfInBounds_toArray, List.set_cons_zero, List.set_cons_succ])
      refine wpAnyH_take (i := 6) (v := (.bool true)) rfl (by as_aux_lemma => kernel_rfl) (by as_aux_lemma => kernel_rfl) (by as_aux_lemma => kernel_rfl) (fun _ _ _ h => h) (Or.inl ⟨by kernel_rfl, ?_⟩) hS ?_
      · intro w hSw; (try dsimp only at hSw); go_simp
      (try simp only [Act.put, List.getElem_toArray, List.getElem_cons_zero, List.getElem_cons_succ, List.setIfInBounds_toArray, List.set_cons_zero, List.set_cons_succ])
      refine wpAnyH_take (i := 7) (v := (.pointer (some ⟨w4.heap.size, 0, none⟩))) rfl (by as_aux_lemma => kernel_rfl) (by as_aux_lemma => kernel_rfl) (by as_aux_lemma => kernel_rfl) (fun _ _ _ h => h) (Or.inl ⟨by kernel_rfl, ?_⟩) hS ?_
      · intro w hSw; (try dsimp only at hSw); go_simp
      (try simp only [Act.put, List.getElem_toArray, List.getElem_cons_zero, List.getElem_cons_succ, List.setIfInBounds_toArray, List.set_cons_zero, List.set_cons_succ])
      refine wpAnyH_take (i := 8) (v := (.int .i64 0)) rfl (by as_aux_lemma => kernel_rfl) (by as_aux_lemma => kernel_rfl) (by as_aux_lemma => kernel_rfl) (fun _ _ _ h => h) (Or.inl ⟨by kernel_rfl, ?_⟩) hS ?_
      · intro w hSw; (try dsimp only at hSw); obtain ⟨hSb, hl0, hl1, hl2, hl3, hl4, hl5, hl6, hl7, hl8, hl9, hl10, hl11, hl12, hl13⟩ := hSw; go_simp
      (try simp only [Act.put, List.getElem_toArray, List.getElem_cons_zero, List.getElem_cons_succ, List.setIfInBounds_toArray, List.set_cons_zero, List.set_cons_succ])
      refine wpAnyH_take (i := 9) (v := (.bool true)) rfl (by as_aux_lemma => kernel_rfl) (by as_aux_lemma => kernel_rfl) (by as_aux_lemma => kernel_rfl) (fun _ _ _ h => h) (Or.inl ⟨by kernel_rfl, ?_⟩) hS ?_
      · intro w hSw; (try dsimp only at hSw); go_simp
      (try simp only [Act.put, List.getElem_toArray, List.getElem_cons_zero, List.getElem_cons_succ, List.setIfInBounds_toArray, List.set_cons_zero, List.set_cons_succ])
      refine wpAnyH_take (i := 10) (v := (.bool true)) rfl (by as_aux_lemma => kernel_rfl) (by as_aux_lemma => kernel_rfl) (by as_aux_lemma => kernel_rfl) (fun _ _ _ h => h) (Or.inl ⟨by kernel_rfl, ?_⟩) hS ?_
      · intro w hSw; (try dsimp only at hSw); go_simp
      (try simp only [Act.put, List.getElem_toArray, List.getElem_cons_zero, List.getElem_cons_succ, List.setIfInBounds_toArray, List.set_cons_zero, List.set_cons_succ])
      refine wpAnyH_take (i := 11) (v := (.bool true)) rfl (by as_aux_lemma => kernel_rfl) (by as_aux_lemma => kernel_rfl) (by as_aux_lemma => kernel_rfl) (fun _ _ _ h => h) (Or.inl ⟨by kernel_rfl, ?_⟩) hS ?_
      · intro w hSw; (try dsimp only at hSw); go_simp
      (try simp only [Act.put, List.getElem_toArray, List.getElem_cons_zero, List.getElem_cons_succ, List.setIfInBounds_toArray, List.set_cons_zero, List.set_cons_succ])
      refine wpAnyH_take (i := 12) (v := (.pointer (some ⟨w4.heap.size, 1, none⟩))) rfl (by as_aux_lemma => kernel_rfl) (by as_aux_lemma => kernel_rfl) (by as_aux_lemma => kernel_rfl) (fun _ _ _ h => h) (Or.inl ⟨by kernel_rfl, ?_⟩) hS ?_
      · intro w hSw; (try dsimp only at hSw); go_simp
      (try simp only [Act.put, List.getElem_toArray, List.getElem_cons_zero, List.getElem_cons_succ, List.setIfInBounds_toArray, List.set_cons_zero, List.set_cons_succ])
      refine wpAnyH_take (i := 13) (v := (.agg #[.int .i64 E1, .int .i64 E2])) rfl (by as_aux_lemma => kernel_rfl) (by as_aux_lemma => kernel_rfl) (by as_aux_lemma => kernel_rfl) (fun _ _ _ h => h) (Or.inl ⟨by kernel_rfl, ?_⟩) hS ?_
      · intro w hSw; (try dsimp only at hSw); obtain ⟨hSb, hl0, hl1, hl2, hl3, hl4, hl5, hl6, hl7, hl8, hl9, hl10, hl11, hl12, hl13⟩ := hSw; go_simp
      (try simp only [Act.put, List.getElem_toArray, List.getElem_cons_zero, List.getElem_cons_succ, List.setIfInBounds_toArray, List.set_cons_zero, List.set_cons_succ])
      refine wpAnyH_take (i := 14) (v := (.pointer (some ⟨w3.heap.size, 1, none⟩))) rfl (by as_aux_lemma => kernel_rfl) (by as_aux_lemma => kernel_rfl) (by as_aux_lemma => kernel_rfl) (fun _ _ _ h => h) (Or.inl ⟨by kernel_rfl, ?_⟩) hS ?_
      · intro w hSw; (try dsimp only at hSw); go_simp
      (try simp only [Act.put, List.getElem_toArray, List.getElem_cons_zero, List.getElem_cons_succ, List.setIfInBounds_toArray, List.set_cons_zero, List.set_cons_succ])
      refine wpAnyH_take (i := 15) (v := (.agg #[.int .i64 E1, .int .i64 E2])) rfl (by as_aux_lemma => kernel_rfl) (by as_aux_lemma => kernel_rfl) (by as_aux_lemma => kernel_rfl) (fun _ _ _ h => h) (Or.inl ⟨by kernel_rfl, ?_⟩) hS ?_
      · intro w hSw; (try dsimp only at hSw); obtain ⟨hSb, hl0, hl1, hl2, hl3, hl4, hl5, hl6, hl7, hl8, hl9, hl10, hl11, hl12, hl13⟩ := hSw; go_simp
      (try simp only [Act.put, List.getElem_toArray, List.getElem_cons_zero, List.getElem_cons_succ, List.setIfInBounds_toArray, List.set_cons_zero, List.set_cons_succ])
      refine wpAnyH_take (i := 16) (v := (.bool true)) rfl (by as_aux_lemma => kernel_rfl) (by as_aux_lemma => kernel_rfl) (by as_aux_lemma => kernel_rfl) (fun _ _ _ h => h) (Or.inl ⟨by kernel_rfl, ?_⟩) hS ?_
      · intro w hSw; (try dsimp only at hSw); go_simp
      (try simp only [Act.put, List.getElem_toArray, List.getElem_cons_zero, List.getElem_cons_succ, List.setIfInBounds_toArray, List.set_cons_zero, List.set_cons_succ])
      refine wpAnyH_take (i := 17) (v := (.bool true)) rfl (by as_aux_lemma => kernel_rfl) (by as_aux_lemma => kernel_rfl) (by as_aux_lemma => kernel_rfl) (fun _ _ _ h => h) (Or.inl ⟨by kernel_rfl, ?_⟩) hS ?_
      · intro w hSw; (try dsimp only at hSw); go_simp
      (try simp only [Act.put, List.getElem_toArray, List.getElem_cons_zero, List.getElem_cons_succ, List.setIfInBounds_toArray, List.set_cons_zero, List.set_cons_succ])
      refine wpAnyH_take (i := 18) (v := (.bool true)) rfl (by as_aux_lemma => kernel_rfl) (by as_aux_lemma => kernel_rfl) (by as_aux_lemma => kernel_rfl) (fun _ _ _ h => h) (Or.inl ⟨by kernel_rfl, ?_⟩) hS ?_
      · intro w hSw; (try dsimp only at hSw); go_simp
      (try simp only [Act.put, List.getElem_toArray, List.getElem_cons_zero, List.getElem_cons_succ, List.setIfInBounds_toArray, List.set_cons_zero, List.set_cons_succ])
      refine wpAnyH_take (i := 19) (v := (.pointer (some ⟨w2.heap.size, 1, none⟩))) rfl (by as_aux_lemma => kernel_rfl) (by as_aux_lemma => kernel_rfl) (by as_aux_lemma => kernel_rfl) (fun _ _ _ h => h) (Or.inl ⟨by kernel_rfl, ?_⟩) hS ?_
      · intro w hSw; (try dsimp only at hSw); go_simp
      (try simp only [Act.put, List.getElem_toArray, List.getElem_cons_zero, List.getElem_cons_succ, List.setIfInBounds_toArray, List.set_cons_zero, List.set_cons_succ])
      refine wpAnyH_take (i := 20) (v := (.agg #[.int .i64 T1, .int .i64 T2])) rfl (by as_aux_lemma => kernel_rfl) (by as_aux_lemma => kernel_rfl) (by as_aux_lemma => kernel_rfl) (fun _ _ _ h => h) (Or.inl ⟨by kernel_rfl, ?_⟩) hS ?_
      · intro w hSw; (try dsimp only at hSw); obtain ⟨hSb, hl0, hl1, hl2, hl3, hl4, hl5, hl6, hl7, hl8, hl9, hl10, hl11, hl12, hl13⟩ := hSw; go_simp
      (try simp only [Act.put, List.getElem_toArray, List.getElem_cons_zero, List.getElem_cons_succ, List.setIfInBounds_toArray, List.set_cons_zero, List.set_cons_succ])
      refine wpAnyH_take (i := 21) (v := (.agg #[.int .i64 0, .int .i64 0])) rfl (by as_aux_lemma => kernel_rfl) (by as_aux_lemma => kernel_rfl) (by as_aux_lemma => kernel_rfl) (fun _ _ _ h => h) (Or.inl ⟨by kernel_rfl, ?_⟩) hS ?_
      · intro w hSw; (try dsimp only at hSw); go_simp
      (try simp only [Act.put, List.getElem_toArray, List.getElem_cons_zero, List.getElem_cons_succ, List.setIfInBounds_toArray, List.set_cons_zero, List.set_cons_succ])
      refine wpAnyH_take (i := 22) (v := (.bool false)) rfl (by as_aux_lemma => kernel_rfl) (by as_aux_lemma => kernel_rfl) (by as_aux_lemma => kernel_rfl) (fun _ _ _ h => h) (Or.inl ⟨by kernel_rfl, ?_⟩) hS ?_
      · intro w hSw; (try dsimp only at hSw); go_simp
      (try simp only [Act.put, List.getElem_toArray, List.getElem_cons_zero, List.getElem_cons_succ, List.setIfInBounds_toArray, List.set_cons_zero, List.set_cons_succ])
      refine wpAnyH_take (i := 23) (v := (.bool false)) rfl (by as_aux_lemma => kernel_rfl) (by as_aux_lemma => kernel_rfl) (by as_aux_lemma => kernel_rfl) (fun _ _ _ h => h) (Or.inl ⟨by kernel_rfl, ?_⟩) hS ?_
      · intro w hSw; (try dsimp only at hSw); go_simp
      (try simp only [Act.put, List.getElem_toArray, List.getElem_cons_zero, List.getElem_cons_succ, List.setIfInBounds_toArray, List.set_cons_zero, List.set_cons_succ])
      refine wpAnyH_take (i := 24) (v := (.pointer (some ⟨w5.heap.size, 1, none⟩))) rfl (by as_aux_lemma => kernel_rfl) (by as_aux_lemma => kernel_rfl) (by as_aux_lemma => kernel_rfl) (fun _ _ _ h => h) (Or.inl ⟨by kernel_rfl, ?_⟩) hS ?_
      · intro w hSw; (try dsimp only at hSw); go_simp
      (try simp only [Act.put, List.getElem_toArray, List.getElem_cons_zero, List.getElem_cons_succ, List.setIfInBounds_toArray, List.set_cons_zero, List.set_cons_succ])
      refine wpAnyH_take (i := 25) (v := (.agg #[.int .i64 M1, .int .i64 M2])) rfl (by as_aux_lemma => kernel_rfl) (by as_aux_lemma => kernel_rfl) (by as_aux_lemma => kernel_rfl) (fun _ _ _ h => h) (Or.inl ⟨by kernel_rfl, ?_⟩) hS ?_
      · intro w hSw; (try dsimp only at hSw); obtain ⟨hSb, hl0, hl1, hl2, hl3, hl4, hl5, hl6, hl7, hl8, hl9, hl10, hl11, hl12, hl13⟩ := hSw; go_simp
      (try simp only [Act.put, List.getElem_toArray, List.getElem_cons_zero, List.getElem_cons_succ, List.setIfInBounds_toArray, List.set_cons_zero, List.set_cons_succ])
      refine wpAnyH_take (i := 26) (v := (.pointer (some ⟨w2.heap.size, 1, none⟩))) rfl (by as_aux_lemma => kernel_rfl) (by as_aux_lemma => kernel_rfl) (by as_aux_lemma => kernel_rfl) (fun _ _ _ h => h) (Or.inl ⟨by kernel_rfl, ?_⟩) hS ?_
      · intro w hSw; (try dsimp only at hSw); go_simp
      (try simp only [Act.put, List.getElem_toArray, List.getElem_cons_zero, List.getElem_cons_succ, List.setIfInBounds_toArray, List.set_cons_zero, List.set_cons_succ])
      refine wpAnyH_take (i := 27) (v := (.agg #[.int .i64 T1, .int .i64 T2])) rfl (by as_aux_lemma => kernel_rfl) (by as_aux_lemma => kernel_rfl) (by as_aux_lemma => kernel_rfl) (fun _ _ _ h => h) (Or.inl ⟨by kernel_rfl, ?_⟩) hS ?_
      · intro w hSw; (try dsimp only at hSw); obtain ⟨hSb, hl0, hl1, hl2, hl3, hl4, hl5, hl6, hl7, hl8, hl9, hl10, hl11, hl12, hl13⟩ := hSw; go_simp
      (try simp only [Act.put, List.getElem_toArray, List.getElem_cons_zero, List.getElem_cons_succ, List.setIfInBounds_toArray, List.set_cons_zero, List.set_cons_succ])
      refine wpAnyH_take (i := 28) (v := (.bool true)) rfl (by as_aux_lemma => kernel_rfl) (by as_aux_lemma => kernel_rfl) (by as_aux_lemma => kernel_rfl) (fun _ _ _ h => h) (Or.inl ⟨by kernel_rfl, ?_⟩) hS ?_
      · intro w hSw; (try dsimp only at hSw); go_simp
      (try simp only [Act.put, List.getElem_toArray, List.getElem_cons_zero, List.getElem_cons_succ, List.setIfInBounds_toArray, List.set_cons_zero, List.set_cons_succ])
      refine wpAnyH_take (i := 29) (v := (.bool true)) rfl (by as_aux_lemma => kernel_rfl) (by as_aux_lemma => kernel_rfl) (by as_aux_lemma => kernel_rfl) (fun _ _ _ h => h) (Or.inl ⟨by kernel_rfl, ?_⟩) hS ?_
      · intro w hSw; (try dsimp only at hSw); go_simp
      (try simp only [Act.put, List.getElem_toArray, List.getElem_cons_zero, List.getElem_cons_succ, List.setIfInBounds_toArray, List.set_cons_zero, List.set_cons_succ])
      refine wpAnyH_take (i := 30) (v := (.bool true)) rfl (by as_aux_lemma => kernel_rfl) (by as_aux_lemma => kernel_rfl) (by as_aux_lemma => kernel_rfl) (fun _ _ _ h => h) (Or.inl ⟨by kernel_rfl, ?_⟩) hS ?_
      · intro w hSw; (try dsimp only at hSw); go_simp
      (try simp only [Act.put, List.getElem_toArray, List.getElem_cons_zero, List.getElem_cons_succ, List.setIfInBounds_toArray, List.set_cons_zero, List.set_cons_succ])
      refine wpAnyH_take (i := 31) (v := (.bool true)) rfl (by as_aux_lemma => kernel_rfl) (by as_aux_lemma => kernel_rfl) (by as_aux_lemma => kernel_rfl) (fun _ _ _ h => h) (Or.inl ⟨by kernel_rfl, ?_⟩) hS ?_
      · intro w hSw; (try dsimp only at hSw); go_simp
      (try simp only [Act.put, List.getElem_toArray, List.getElem_cons_zero, List.getElem_cons_succ, List.setIfInBounds_toArray, List.set_cons_zero, List.set_cons_succ])
      refine wpAnyH_take (i := 32) (v := (.pointer (some ⟨w5.heap.size, 0, none⟩))) rfl (by as_aux_lemma => kernel_rfl) (by as_aux_lemma => kernel_rfl) (by as_aux_lemma => kernel_rfl) (fun _ _ _ h => h) (Or.inl ⟨by kernel_rfl, ?_⟩) hS ?_
      · intro w hSw; (try dsimp only at hSw); go_simp
      (try simp only [Act.put, List.getElem_toArray, List.getElem_cons_zero, List.getElem_cons_succ, List.setIfInBounds_toArray, List.set_cons_zero, List.set_cons_succ])
      refine wpAnyH_take (i := 33) (v := (.int .i64 0)) rfl (by as_aux_lemma => kernel_rfl) (by as_aux_lemma => kernel_rfl) (by as_aux_lemma => kernel_rfl) (fun _ _ _ h => h) (Or.inl ⟨by kernel_rfl, ?_⟩) hS ?_
      · intro w hSw; (try dsimp only at hSw); obtain ⟨hSb, hl0, hl1, hl2, hl3, hl4, hl5, hl6, hl7, hl8, hl9, hl10, hl11, hl12, hl13⟩ := hSw; go_simp
      (try simp only [Act.put, List.getElem_toArray, List.getElem_cons_zero, List.getElem_cons_succ, List.setIfInBounds_toArray, List.set_cons_zero, List.set_cons_succ])
      refine wpAnyH_take (i := 34) (v := (.bool true)) rfl (by as_aux_lemma => kernel_rfl) (by as_aux_lemma => kernel_rfl) (by as_aux_lemma => kernel_rfl) (fun _ _ _ h => h) (Or.inl ⟨by kernel_rfl, ?_⟩) hS ?_
      · intro w hSw; (try dsimp only at hSw); go_simp
      (try simp only [Act.put, List.getElem_toArray, List.getElem_cons_zero, List.getElem_cons_succ, List.setIfInBounds_toArray, List.set_cons_zero, List.set_cons_succ])
      refine wpAnyH_take (i := 35) (v := (.bool true)) rfl (by as_aux_lemma => kernel_rfl) (by as_aux_lemma => kernel_rfl) (by as_aux_lemma => kernel_rfl) (fun _ _ _ h => h) (Or.inl ⟨by kernel_rfl, ?_⟩) hS ?_
      · intro w hSw; (try dsimp only at hSw); go_simp
      (try simp only [Act.put, List.getElem_toArray, List.getElem_cons_zero, List.getElem_cons_succ, List.setIfInBounds_toArray, List.set_cons_zero, List.set_cons_succ])
      refine wpAnyH_take (i := 36) (v := (.bool true)) rfl (by as_aux_lemma => kernel_rfl) (by as_aux_lemma => kernel_rfl) (by as_aux_lemma => kernel_rfl) (fun _ _ _ h => h) (Or.inl ⟨by kernel_rfl, ?_⟩) hS ?_
      · intro w hSw; (try dsimp only at hSw); go_simp
      (try simp only [Act.put, List.getElem_toArray, List.getElem_cons_zero, List.getElem_cons_succ, List.setIfInBounds_toArray, List.set_cons_zero, List.set_cons_succ])
      refine wpAnyH_take (i := 37) (v := (.pointer (some ⟨w2.heap.size, 1, none⟩))) rfl (by as_aux_lemma => kernel_rfl) (by as_aux_lemma => kernel_rfl) (by as_aux_lemma => kernel_rfl) (fun _ _ _ h => h) (Or.inl ⟨by kernel_rfl, ?_⟩) hS ?_
      · intro w hSw; (try dsimp only at hSw); go_simp
      (try simp only [Act.put, List.getElem_toArray, List.getElem_cons_zero, List.getElem_cons_succ, List.setIfInBounds_toArray, List.set_cons_zero, List.set_cons_succ])
      refine wpAnyH_take (i := 38) (v := (.agg #[.int .i64 T1, .int .i64 T2])) rfl (by as_aux_lemma => kernel_rfl) (by as_aux_lemma => kernel_rfl) (by as_aux_lemma => kernel_rfl) (fun _ _ _ h => h) (Or.inl ⟨by kernel_rfl, ?_⟩) hS ?_
      · intro w hSw; (try dsimp only at hSw); obtain ⟨hSb, hl0, hl1, hl2, hl3, hl4, hl5, hl6, hl7, hl8, hl9, hl10, hl11, hl12, hl13⟩ := hSw; go_simp
      (try simp only [Act.put, List.getElem_toArray, List.getElem_cons_zero, List.getElem_cons_succ, List.setIfInBounds_toArray, List.set_cons_zero, List.set_cons_succ])
      refine wpAnyH_take (i := 39) (v := (.agg #[.slice ay ys.length ky])) rfl (by as_aux_lemma => kernel_rfl) (by as_aux_lemma => kernel_rfl) (by as_aux_lemma => kernel_rfl) (fun _ _ _ h => h) (Or.inl ⟨by kernel_rfl, ?_⟩) hS ?_
      · intro w hSw; (try dsimp only at hSw); obtain ⟨hSb, hl0, hl1, hl2, hl3, hl4, hl5, hl6, hl7, hl8, hl9, hl10, hl11, hl12, hl13⟩ := hSw; go_simp
      (try simp only [Act.put, List.getElem_toArray, List.getElem_cons_zero, List.getElem_cons_succ, List.setIfInBounds_toArray, List.set_cons_zero, List.set_cons_succ])
      refine wpAnyH_take (i := 40) (v := (.agg #[.int .i64 W, .bool Q, .int .i64 S])) rfl (by as_aux_lemma => kernel_rfl) (by as_aux_lemma => kernel_rfl) (by as_aux_lemma => kernel_rfl) (fun _ _ _ h => h) (Or.inl ⟨by kernel_rfl, ?_⟩) hS ?_
      · intro w hSw; (try dsimp only at hSw); obtain ⟨hSb, hl0, hl1, hl2, hl3, hl4, hl5, hl6, hl7, hl8, hl9, hl10, hl11, hl12, hl13⟩ := hSw; go_simp
      (try simp only [Act.put, List.getElem_toArray, List.getElem_cons_zero, List.getElem_cons_succ, List.setIfInBounds_toArray, List.set_cons_zero, List.set_cons_succ])
      refine wpAnyH_take (i := 41) (v := (.int .i64 H)) rfl (by as_aux_lemma => kernel_rfl) (by as_aux_lemma => kernel_rfl) (by as_aux_lemma => kernel_rfl) (fun _ _ _ h => h) (Or.inl ⟨by kernel_rfl, ?_⟩) hS ?_
      · intro w hSw; (try dsimp only at hSw); go_simp
      (try simp only [Act.put, List.getElem_toArray, List.getElem_cons_zero, List.getElem_cons_succ, List.setIfInBounds_toArray, List.set_cons_zero, List.set_cons_succ])
      refine wpAnyH_ready (rs := [42]) (by as_aux_lemma => kernel_rfl) (by simp) ?_
      refine AllReadyH.cons rfl (fun K hK => ?_) AllReadyH.nil
      go_simp
      refine Calls.mono (HSL.out _ ry.read) ?_
      rintro e w9 ⟨rfl, hc⟩
      have s9 : w8.heap.size ≤ w9.heap.size := hc.size
      have bq := hc
      replace cF0 := cell_later bq cF0
      replace zF := Nat.lt_of_lt_of_le zF bq.size
      replace cL0 := cell_later bq cL0
      replace cL1 := cell_later bq cL1
      replace cL2 := cell_later bq cL2
      replace zL := Nat.lt_of_lt_of_le zL bq.size
      replace cR0 := cell_later bq cR0
      replace cR1 := cell_later bq cR1
      replace cR2 := cell_later bq cR2
      replace zR := Nat.lt_of_lt_of_le zR bq.size
      replace cE0 := cell_later bq cE0
      replace cE1 := cell_later bq cE1
      replace cE2 := cell_later bq cE2
      replace zE := Nat.lt_of_lt_of_le zE bq.size
      replace cX0 := cell_later bq cX0
      replace cX1 := cell_later bq cX1
      replace cX2 := cell_later bq cX2
      replace zX := Nat.lt_of_lt_of_le zX bq.size
      replace cM0 := cell_later bq cM0
      replace cM1 := cell_later bq cM1
      replace cM2 := cell_later bq cM2
      replace zM := Nat.lt_of_lt_of_le zM bq.size
      replace ry := ry.below bq
      replace hb := hb.trans (bq.mono hb.size)
      clear hc bq
      refine hK.out _ _ (⟨hb, cE1, cE2, cF0, cL0, cL1, cL2, cM0, cM1, cM2, cR1, cR2, cX0, cX1, cX2⟩) (fun hS => ?_)
      clear hK K
      (try simp only [Act.put, List.getElem_toArray, List.getElem_cons_zero, List.getElem_cons_succ, List.setIfInBounds_toArray, List.set_cons_zero, List.set_cons_succ])
      refine wpAnyH_take (i := 43) (v := (.agg #[.int .i64 T1, .int .i64 T2])) rfl (by as_aux_lemma => kernel_rfl) (by as_aux_lemma => kernel_rfl) (by as_aux_lemma => kernel_rfl) (fun _ _ _ h => h) (Or.inl ⟨by kernel_rfl, ?_⟩) hS ?_
      · intro w hSw; (try dsimp only at hSw); go_simp
      (try simp only [Act.put, List.getElem_toArray, List.getElem_cons_zero, List.getElem_cons_succ, List.setIfInBounds_toArray, List.set_cons_zero, List.set_cons_succ])
      refine wpAnyH_take (i := 44) (v := (.bool true)) rfl (by as_aux_lemma => kernel_rfl) (by as_aux_lemma => kernel_rfl) (by as_aux_lemma => kernel_rfl) (fun _ _ _ h => h) (Or.inl ⟨by kernel_rfl, ?_⟩) hS ?_
      · intro w hSw; (try dsimp only at hSw); go_simp
      (try simp only [Act.put, List.getElem_toArray, List.getElem_cons_zero, List.getElem_cons_succ, List.setIfInBounds_toArray, List.set_cons_zero, List.set_cons_succ])
      refine wpAnyH_take (i := 45) (v := (.bool true)) rfl (by as_aux_lemma => kernel_rfl) (by as_aux_lemma => kernel_rfl) (by as_aux_lemma => kernel_rfl) (fun _ _ _ h => h) (Or.inl ⟨by kernel_rfl, ?_⟩) hS ?_
      · intro w hSw; (try dsimp only at hSw); go_simp
      (try simp only [Act.put, List.getElem_toArray, List.getElem_cons_zero, List.getElem_cons_succ, List.setIfInBounds_toArray, List.set_cons_zero, List.set_cons_succ])
      refine wpAnyH_take (i := 46) (v := (.bool true)) rfl (by as_aux_lemma => kernel_rfl) (by as_aux_lemma => kernel_rfl) (by as_aux_lemma => kernel_rfl) (fun _ _ _ h => h) (Or.inl ⟨by kernel_rfl, ?_⟩) hS ?_
      · intro w hSw; (try dsimp only at hSw); go_simp
      (try simp only [Act.put, List.getElem_toArray, List.getElem_cons_zero, List.getElem_cons_succ, List.setIfInBounds_toArray, List.set_cons_zero, List.set_cons_succ])
      refine wpAnyH_done (by kernel_rfl) ?_ _
      clear hS
      go_wp2
      go_ret
      exact ⟨rfl, hb⟩
  · skip
    obtain ⟨F, hF⟩ : ∃ F, ltC ys W Q S H = F := ⟨_, rfl⟩
    rw [hF] at IL SL hC
    generalize (ltS ys W Q S H).1 = T1 at *
    generalize (ltS ys W Q S H).2 = T2 at *
    have HIL : Hid _ := IL
    have HSL : Hid _ := SL
    clear IL SL hF hk1 hk2 hyb
    go_wp2_with fail
    have bp : ∀ o0 o1, Below w1.heap.size w1 ((w1.alloc o0).alloc o1) := fun o0 o1 => ((Below.refl _ _).alloc (Nat.le_refl _) o0).alloc (by simp) o1
    have hbt : ∀ o0 o1, Below w.heap.size w ((w1.alloc o0).alloc o1) := fun o0 o1 => hb.trans ((bp o0 o1).mono hb.size)
    refine Calls.mono (HIL.out _ (ry.below (bp _ _)).read) ?_
    rintro e w2 ⟨rfl, hc⟩
    have s2 : w1.heap.size + 2 ≤ w2.heap.size := by have := hc.size; simp at this; omega
    have bq : Below w1.heap.size w1 w2 := (bp _ _).trans (hc.mono (bp _ _).size)
    have cF0 : w2.cell? ⟨w1.heap.size, 0, none⟩ = some (.slice ay ys.length ky) := cell_later hc (by simp [go_sem])
    have zF : w1.heap.size < w2.heap.size := by omega
    have cL0 : w2.cell? ⟨w1.heap.size + 1, 0, none⟩ = some (.int .i64 W) := cell_later hc (by simp [go_sem])
    have cL1 : w2.cell? ⟨w1.heap.size + 1, 1, none⟩ = some (.bool Q) := cell_later hc (by simp [go_sem])
    have cL2 : w2.cell? ⟨w1.heap.size + 1, 2, none⟩ = some (.int .i64 S) := cell_later hc (by simp [go_sem])
    have zL : w1.heap.size + 1 < w2.heap.size := by omega
    replace ry := ry.below bq
    replace hb := hb.trans (bq.mono hb.size)
    clear hc bq bp hbt
    go_wp2_with fail
    have bp : ∀ o0, Below w2.heap.size w2 (w2.alloc o0) := fun o0 => (Below.refl _ _).alloc (Nat.le_refl _) o0
    have hbt : ∀ o0, Below w.heap.size w (w2.alloc o0) := fun o0 => hb.trans ((bp o0).mono hb.size)
    obtain ⟨w3, hw3⟩ : ∃ x, (w2.alloc (.cells #[.int .i64 F, .int .i64 T1, .int .i64 T2] 33)) = x := ⟨_, rfl⟩
    have hc : Below ((w2.alloc (.cells #[.int .i64 F, .int .i64 T1, .int .i64 T2] 33))).heap.size ((w2.alloc (.cells #[.int .i64 F, .int .i64 T1, .int .i64 T2] 33))) w3 := hw3 ▸ Below.refl _ _
    have s3 : w2.heap.size + 1 ≤ w3.heap.size := by have := hc.size; simp at this; omega
    have bq : Below w2.heap.size w2 w3 := (bp _).trans (hc.mono (bp _).size)
    replace cF0 := cell_later bq cF0
    replace zF := Nat.lt_of_lt_of_le zF bq.size
    replace cL0 := cell_later bq cL0
    replace cL1 := cell_later bq cL1
    replace cL2 := cell_later bq cL2
    replace zL := Nat.lt_of_lt_of_le zL bq.size
    have cR0 : w3.cell? ⟨w2.heap.size, 0, none⟩ = some (.int .i64 F) := cell_later hc (by simp [go_sem])
    have cR1 : w3.cell? ⟨w2.heap.size, 1, none⟩ = some (.int .i64 T1) := cell_later hc (by simp [go_sem])
    have cR2 : w3.cell? ⟨w2.heap.size, 2, none⟩ = some (.int .i64 T2) := cell_later hc (by simp [go_sem])
    have zR : w2.heap.size < w3.heap.size := by omega
    replace ry := ry.below bq
    replace hb := hb.trans (bq.mono hb.size)
    clear hc bq bp hbt
    rw [hw3]
    clear hw3
    have bd : Below w3.heap.size w3 w3.drew := (Below.refl _ _).drew
    refine wp_region_held_drew (S := fun w' => Below w.heap.size w w' ∧ w'.cell? ⟨w1.heap.size, 0, none⟩ = some (.slice ay ys.length ky) ∧ w'.cell? ⟨w1.heap.size + 1, 0, none⟩ = some (.int .i64 W) ∧ w'.cell? ⟨w1.heap.size + 1, 1, none⟩ = some (.bool Q) ∧ w'.cell? ⟨w1.heap.size + 1, 2, none⟩ = some (.int .i64 S) ∧ w'.cell? ⟨w2.heap.size, 0, none⟩ = some (.int .i64 F)) (by kernel_rfl) ⟨(hb.trans (bd.mono hb.size)), cell_later bd cF0, cell_later bd cL0, cell_later bd cL1, cell_later bd cL2, cell_later bd cR0⟩ (fun hS => ?_)
    obtain ⟨D3, hD⟩ : ∃ D, w3.drew = D := ⟨_, rfl⟩
    rw [hD] at hS bd ⊢
    have hc := bd
    clear hD bd
    have s4 : w3.heap.size ≤ D3.heap.size := hc.size
    have bq := hc
    replace cF0 := cell_later bq cF0
    replace zF := Nat.lt_of_lt_of_le zF bq.size
    replace cL0 := cell_later bq cL0
    replace cL1 := cell_later bq cL1
    replace cL2 := cell_later bq cL2
    replace zL := Nat.lt_of_lt_of_le zL bq.size
    replace cR0 := cell_later bq cR0
    replace cR1 := cell_later bq cR1
    replace cR2 := cell_later bq cR2
    replace zR := Nat.lt_of_lt_of_le zR bq.size
    replace ry := ry.below bq
    replace hb := hb.trans (bq.mono hb.size)
    clear hc bq
    refine wpAnyH_take (i := 0) (v := (.agg #[.slice ay ys.length ky])) rfl (by as_aux_lemma => kernel_rfl) (by as_aux_lemma => kernel_rfl) (by as_aux_lemma => kernel_rfl) (fun _ _ _ h => h) (Or.inl ⟨by kernel_rfl, ?_⟩) hS ?_
    · intro w hSw; (try dsimp only at hSw); obtain ⟨hSb, hl0, hl1, hl2, hl3, hl4⟩ := hSw; go_simp
    (try simp only [Act.put, List.getElem_toArray, List.getElem_cons_zero, List.getElem_cons_succ, List.setIfInBounds_toArray, List.set_cons_zero, List.set_cons_succ])
    refine wpAnyH_take (i := 1) (v := (.agg #[.int .i64 W, .bool Q, .int .i64 S])) rfl (by as_aux_lemma => kernel_rfl) (by as_aux_lemma => kernel_rfl) (by as_aux_lemma => kernel_rfl) (fun _ _ _ h => h) (Or.inl ⟨by kernel_rfl, ?_⟩) hS ?_
    · intro w hSw; (try dsimp only at hSw); obtain ⟨hSb, hl0, hl1, hl2, hl3, hl4⟩ := hSw; go_simp
    (try simp only [Act.put, List.getElem_toArray, List.getElem_cons_zero, List.getElem_cons_succ, List.setIfInBounds_toArray, List.set_cons_zero, List.set_cons_succ])
    refine wpAnyH_take (i := 2) (v := (.int .i64 H)) rfl (by as_aux_lemma => kernel_rfl) (by as_aux_lemma => kernel_rfl) (by as_aux_lemma => kernel_rfl) (fun _ _ _ h => h) (Or.inl ⟨by kernel_rfl, ?_⟩) hS ?_
    · intro w hSw; (try dsimp only at hSw); go_simp
    (try simp only [Act.put, List.getElem_toArray, List.getElem_cons_zero, List.getElem_cons_succ, List.setIfInBounds_toArray, List.set_cons_zero, List.set_cons_succ])
    refine wpAnyH_take (i := 5) (v := (.pointer (some ⟨w2.heap.size, 0, none⟩))) rfl (by as_aux_lemma => kernel_rfl) (by as_aux_lemma => kernel_rfl) (by as_aux_lemma => kernel_rfl) (fun _ _ _ h => h) (Or.inl ⟨by kernel_rfl, ?_⟩) hS ?_
    · intro w hSw; (try dsimp only at hSw); go_simp
    (try simp only [Act.put, List.getElem_toArray, List.getElem_cons_zero, List.getElem_cons_succ, List.setIfInBounds_toArray, List.set_cons_zero, List.set_cons_succ])
    refine wpAnyH_take (i := 6) (v := (.int .i64 F)) rfl (by as_aux_lemma => kernel_rfl) (by as_aux_lemma => kernel_rfl) (by as_aux_lemma => kernel_rfl) (fun _ _ _ h => h) (Or.inl ⟨by kernel_rfl, ?_⟩) hS ?_
    · intro w hSw; (try dsimp only at hSw); obtain ⟨hSb, hl0, hl1, hl2, hl3, hl4⟩ := hSw; go_simp
    (try simp only [Act.put, List.getElem_toArray, List.getElem_cons_zero, List.getElem_cons_succ, List.setIfInBounds_toArray, List.set_cons_zero, List.set_cons_succ])
    refine wpAnyH_ready (rs := [3]) (by as_aux_lemma => kernel_rfl) (by simp) ?_
    refine AllReadyH.cons rfl (fun K hK => ?_) AllReadyH.nil
    go_simp
    refine Calls.mono (HSL.out _ ry.read) ?_
    rintro e w5 ⟨rfl, hc⟩
    have s5 : D3.heap.size ≤ w5.heap.size := hc.size
    have bq := hc
    replace cF0 := cell_later bq cF0
    replace zF := Nat.lt_of_lt_of_le zF bq.size
    replace cL0 := cell_later bq cL0
    replace cL1 := cell_later bq cL1
    replace cL2 := cell_later bq cL2
    replace zL := Nat.lt_of_lt_of_le zL bq.size
    replace cR0 := cell_later bq cR0
    replace cR1 := cell_later bq cR1
    replace cR2 := cell_later bq cR2
    replace zR := Nat.lt_of_lt_of_le zR bq.size
    replace ry := ry.below bq
    replace hb := hb.trans (bq.mono hb.size)
    clear hc bq
    refine hK.out _ _ (⟨hb, cF0, cL0, cL1, cL2, cR0⟩) (fun hS => ?_)
    clear hK K
    (try simp only [Act.put, List.getElem_toArray, List.getElem_cons_zero, List.getElem_cons_succ, List.setIfInBounds_toArray, List.set_cons_zero, List.set_cons_succ])
    refine wpAnyH_take (i := 4) (v := (.int .i64 F)) rfl (by as_aux_lemma => kernel_rfl) (by as_aux_lemma => kernel_rfl) (by as_aux_lemma => kernel_rfl) (fun _ _ _ h => h) (Or.inl ⟨by kernel_rfl, ?_⟩) hS ?_
    · intro w hSw; (try dsimp only at hSw); go_simp
    (try simp only [Act.put, List.getElem_toArray, List.getElem_cons_zero, List.getElem_cons_succ, List.setIfInBounds_toArray, List.set_cons_zero, List.set_cons_succ])
    refine wpAnyH_take (i := 7) (v := (.bool true)) rfl (by as_aux_lemma => kernel_rfl) (by as_aux_lemma => kernel_rfl) (by as_aux_lemma => kernel_rfl) (fun _ _ _ h => h) (Or.inl ⟨by kernel_rfl, ?_⟩) hS ?_
    · intro w hSw; (try dsimp only at hSw); go_simp
    (try simp only [Act.put, List.getElem_toArray, List.getElem_cons_zero, List.getElem_cons_succ, List.setIfInBounds_toArray, List.set_cons_zero, List.set_cons_succ])
    refine wpAnyH_take (i := 8) (v := (.bool true)) rfl (by as_aux_lemma => kernel_rfl) (by as_aux_lemma => kernel_rfl) (by as_aux_lemma => kernel_rfl) (fun _ _ _ h => h) (Or.inl ⟨by kernel_rfl, ?_⟩) hS ?_
    · intro w hSw; (try dsimp only at hSw); go_simp
    (try simp only [Act.put, List.getElem_toArray, List.getElem_cons_zero, List.getElem_cons_succ, List.setIfInBounds_toArray, List.set_cons_zero, List.set_cons_succ])
    refine wpAnyH_done (by kernel_rfl) ?_ _
    clear hS
    go_wp2
    go_ret
    exact ⟨rfl, hb⟩
end Go.Proofs.Ytjgmkcmlkffjlaa
namespace Go.Proofs.Ytjgmkcmlkffjlaa.fnLasts
open Go.ChangeShapes Go.WideShapes Go.ChangeAt Go.RowKit
set_option linter.unusedVariables false

theorem own : ownKnob Try.prog.godebug = none := by kernel_rfl
theorem laidOut : laidOutB Try.prog = true := by kernel_rfl

set_option maxRecDepth 100000 in
theorem lifted (os : Os) (started : os.Started) (H : Type) (enc : TypeId × Value → H) :
    ReturnsInHanded {} Try.checked os 3 .any (Rows.fnLastsSpec.pre6 enc Try.prog Try.f3 Rows.fnLastsRow.domain false) (Rows.fnLastsSpec.post enc Try.prog Try.f3 false true false false) := by
  refine returnsInHanded_of_change (C := Try.checked) own started (by kernel_rfl) Try.func3
    (ChangeSpec.witness6 (enc := enc) (C := Try.checked) false ⟨#[], #[.slice none 0 0], []⟩ 8 (by kernel_rfl) (by kernel_rfl) (by kernel_rfl) (by kernel_rfl)) ?_
  intro W base args ds gs before hval0 hW hcnd _
  have hval : ∀ (j : Nat) t v, Try.f3.params[j]? = some t → args[j]? = some v → Value.okWide Try.prog W .any base t v := hval0
  have hW' := hW
  obtain ⟨p, q, hA0, hV, rfl, hfz, hnd⟩ := hW
  have hA : DataW.TrodAll enc Try.prog W 0 (fun _ => true) true Try.f3.params.toList args.toList ds p := hA0
  rw [Try.params3] at hA hval
  obtain ⟨v0, d0, rfl, rfl, h0⟩ := trodAll_one hA
  obtain ⟨rfl, rfl⟩ := trodVars_none hV
  obtain ⟨a0, len0, cap0, rfl⟩ := okWide_slice Try.underlying22 (hval 0 22 v0 rfl rfl)
  have k0 := h0
  have lt0 : ∀ x ∈ p, x.block < W.heap.size := by obtain ⟨m, hm⟩ := k0; exact DataW.trod_lt m _ _ _ hm
  obtain ⟨x0, hr0, hB0, hm0⟩ := open_bytes Try.underlying22 Try.underlying5 (by kernel_rfl) h0
  clear hA0 hval0
  refine (lastsWalk a0 len0 cap0 x0 W hr0 hB0 hm0).mono fun e W' ⟨he, bel⟩ => ?_
  subst he
  exact ⟨_, rfl, _, _, _, [], _, [], hW', trodAll_mk1 (shut_bool Try.underlying4 _), trodAll_mk1 (Below.trod laidOut (by kernel_rfl) (of_decide_eq_true (by kernel_rfl)) k0 bel lt0), rfl, bel.frame _, fun h => by cases h⟩

theorem proved : Rows.FnLastsSaid :=
  OpenClaim.holds_of_wide 3 Try.f3 rfl rfl rfl rfl rfl rfl rfl ⟨rfl, rfl, rfl, rfl, rfl⟩ rfl rfl rfl rfl rfl (by kernel_rfl) Try.func3 (by kernel_rfl)
    (of_decide_eq_true (by kernel_rfl)) (by unfold Func.isWrapper; first | (rw [if_pos (by decide +kernel)]; kernel_rfl) | (rw [if_neg (by decide +kernel)]; exact ⟨rfl, rfl⟩))
    (fun os started H enc _ => lifted os started H enc)
end Go.Proofs.Ytjgmkcmlkffjlaa.fnLasts
namespace Go.Proofs.Ytjgmkcmlkffjlaa
theorem fnLasts_proved : Rows.FnLastsSaid := fnLasts.proved
end Go.Proofs.Ytjgmkcmlkffjlaa
