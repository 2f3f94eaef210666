/-
  The walk of FnFiles.
-/
import Derived.Test.YtjhlmhehojjgfaaDraw7
import Derived.Test.YtjhlmhehojjgfaaLwAt
import Derived.Test.YtjhlmhehojjgfaaFiles4
import Derived.Deep.RegionWith
import Derived.Deep.RegionHeld3
namespace Go.Proofs.Ytjhlmhehojjgfaa.fnFiles
open Go.RowKit
set_option linter.unusedVariables false
set_option linter.unusedSimpArgs false

theorem fldF0 (x y : Value) (w : World) : (Instr.field 29 (.agg #[x, y]) 0).run Try.prog w = .ok x w := by kernel_rfl
theorem fldB0 (x y : Value) (w : World) : (Instr.field 35 (.agg #[x, y]) 0).run Try.prog w = .ok x w := by kernel_rfl
theorem fldB1 (x y : Value) (w : World) : (Instr.field 35 (.agg #[x, y]) 1).run Try.prog w = .ok y w := by kernel_rfl

theorem rp_le (xs : List Int) (A N M : Int) : rpCode xs A N M = 0 → ((rpRes xs A N M).length : Int) ≤ M ∧ ((rpRes xs A N M).length : Int) ≤ N := by
  intro h
  have h1 : ¬ 400 < xs.length := by intro h2; unfold rpCode at h; rw [if_pos h2] at h; omega
  have h2 : ¬ (A < 0 ∨ N < 0 ∨ 400 < N ∨ M < 1 ∨ 400 < M) := by intro h2; unfold rpCode at h; rw [if_neg h1, if_pos h2] at h; omega
  unfold rpRes
  rw [if_pos h]
  simp
  omega

theorem cut_whole (ys zs : List Int) (h : ys.length + zs.length ≤ 400) : cutCode (ys ++ zs) (ys.length : Int) = 0 ∧ cutRes (ys ++ zs) (ys.length : Int) = ys := by
  have e : cutCode (ys ++ zs) (ys.length : Int) = 0 := by unfold cutCode; rw [if_neg (by simp; omega), if_neg (by simp; omega)]
  exact ⟨e, by unfold cutRes; rw [if_pos e]; simp⟩
theorem rp_head (ys : List Int) (t : Nat) (h : ys.length ≤ 400) (ht : t ≤ ys.length) : rpCode ys 0 (t : Int) 400 = 0 ∧ rpRes ys 0 (t : Int) 400 = ys.take t := by
  have e : rpCode ys 0 (t : Int) 400 = 0 := by unfold rpCode; rw [if_neg (by omega), if_neg (by omega)]
  exact ⟨e, by unfold rpRes; rw [if_pos e, show (min (t : Int) 400).toNat = t by omega]; simp⟩
theorem rp_tail (ys : List Int) (t : Nat) (h : ys.length ≤ 400) (ht : t ≤ ys.length) : rpCode ys (t : Int) 400 400 = 0 ∧ rpRes ys (t : Int) 400 400 = ys.drop t := by
  have e : rpCode ys (t : Int) 400 400 = 0 := by unfold rpCode; rw [if_neg (by omega), if_neg (by omega)]
  exact ⟨e, by unfold rpRes; rw [if_pos e, Int.toNat_natCast, List.take_of_length_le (by simp; omega)]⟩

set_option maxRecDepth 10000 in
set_option maxHeartbeats 12800000 in
theorem walk (a : Option Addr) (n ca : Nat) (xs : List Int) (w : World) (hr0 : Rd .u8 w a n xs) (hB : Bytes xs) (hm : n ≤ maxLen) :
    Calls Try.prog 3 #[.slice a n ca] w fun e w' => e = .returned (.bool true) ∧ Below w.heap.size w w' := by
  obtain ⟨i0, hi, hz0, hz1, hz2⟩ := info_parts info8d
  unfold maxLen at hm
  by_cases hn : n ≤ 1048576
  · go_enter Try.func3, Try.ntmps3
    go_wp2_with (go_at_call 11; go_in)
    refine (DrawAppendFile_any a n ca xs _ hr0 hB hn).mono ?_
    rintro e w1 ⟨vf, ys, vd, zs, rfl, rf, hyl, hyb, rd, hzl, hzb, hb⟩
    obtain ⟨af, kf, rfl, q1, q2⟩ := rf.shape
    have Kf : Hid _ := And.intro q1 q2
    clear q1 q2
    obtain ⟨ad, kd, rfl, _⟩ := rd.shape
    have s1 := hb.size
    by_cases hbig : ys.length + zs.length ≤ 400
    · have IA := fun (w' : World) (h1 : Rd .u8 w' af ys.length ys) (h2 : Rd .u8 w' ad zs.length zs) => implAppendFile_any af ad ys.length zs.length kf kd ys zs w' h1 h2 (by omega) (by omega)
      have e1 : apCode ys zs = 0 := by unfold apCode; rw [if_neg (by omega)]
      have e2 : apRes ys zs = ys ++ zs := by unfold apRes; rw [if_neg (by omega)]
      rw [e1, e2, List.length_append] at IA
      have ICt := fun (A' : Option Addr) (C' : Nat) (w' : World) (h : Rd .u8 w' A' (ys.length + zs.length) (ys ++ zs)) (j : ys.length + zs.length ≤ C') (m : C' ≤ maxLen) => implCutFile_any A' (ys.length + zs.length) C' (ys.length : Int) (ys ++ zs) w' h (by omega) j m
      rw [(cut_whole ys zs hbig).1, (cut_whole ys zs hbig).2] at ICt
      have RX : ∀ t, t ≤ ys.length → ∀ w', Rd .u8 w' af ys.length ys → Calls Try.prog 19 #[.agg #[.slice af ys.length kf], .int .i64 0, .int .i64 (t : Int), .int .i64 400] w' fun e w'' => ∃ v, e = .returned (.agg #[.int .i64 0, v]) ∧ RowI .u8 5 w'' w'.heap.size w''.heap.size v t (ys.take t) ∧ Below w'.heap.size w' w'' := by
        intro t ht w' h
        have := implReadPart_any af ys.length kf 0 (t : Int) 400 ys w' h (by omega) Kf.out.1 Kf.out.2
        rw [(rp_head ys t (by omega) ht).1, (rp_head ys t (by omega) ht).2, show (ys.take t).length = t by simp; omega] at this
        exact this
      have RY : ∀ t, t ≤ ys.length → ∀ w', Rd .u8 w' af ys.length ys → Calls Try.prog 19 #[.agg #[.slice af ys.length kf], .int .i64 (t : Int), .int .i64 400, .int .i64 400] w' fun e w'' => ∃ v, e = .returned (.agg #[.int .i64 0, v]) ∧ RowI .u8 5 w'' w'.heap.size w''.heap.size v (ys.length - t) (ys.drop t) ∧ Below w'.heap.size w' w'' := by
        intro t ht w' h
        have := implReadPart_any af ys.length kf (t : Int) 400 400 ys w' h (by omega) Kf.out.1 Kf.out.2
        rw [(rp_tail ys t (by omega) ht).1, (rp_tail ys t (by omega) ht).2, List.length_drop] at this
        exact this
      have HIA : Hid _ := IA
      have HIC : Hid _ := ICt
      have HRX : Hid _ := RX
      have HRY : Hid _ := RY
      clear IA ICt RX RY e1 e2
      go_wp2_with fail
      have bp : ∀ o0, Below w1.heap.size w1 (w1.alloc o0) := fun o0 => (Below.refl _ _).alloc (Nat.le_refl _) o0
      have hbt : ∀ o0, Below w.heap.size w (w1.alloc o0) := fun o0 => hb.trans ((bp o0).mono hb.size)
      refine Calls.mono (HIA.out _ (rf.below (bp _)).read (rd.below (bp _)).read) ?_
      rintro e w2 ⟨vA, rfl, rA, hc⟩
      obtain ⟨aA, kA, rfl, q1, q2⟩ := rA.shape
      have KA : Hid _ := And.intro q1 q2
      clear q1 q2
      replace rA := RowI.mono (lo' := w1.heap.size + 1) rA (by simp) (Nat.le_refl _)
      have s2 : w1.heap.size + 1 ≤ w2.heap.size := by have := hc.size; simp at this; omega
      have bq : Below w1.heap.size w1 w2 := (bp _).trans (hc.mono (bp _).size)
      have cF0 : w2.cell? ⟨w1.heap.size, 0, none⟩ = some (.slice af ys.length kf) := cell_later hc (by simp [go_sem])
      have zF : w1.heap.size < w2.heap.size := by omega
      replace rf := rf.below bq
      replace rd := rd.below bq
      replace hb := hb.trans (bq.mono hb.size)
      clear hc bq bp hbt
      go_wp2_with fail
      have bp : ∀ o0, Below w2.heap.size w2 (w2.alloc o0) := fun o0 => (Below.refl _ _).alloc (Nat.le_refl _) o0
      have hbt : ∀ o0, Below w.heap.size w (w2.alloc o0) := fun o0 => hb.trans ((bp o0).mono hb.size)
      refine Calls.mono (HIC.out aA kA _ (rA.below (bp _)).read KA.out.1 KA.out.2) ?_
      rintro e w3 ⟨vC, rfl, rC, hc⟩
      obtain ⟨aC, kC, rfl, _⟩ := rC.shape
      replace rC := RowI.mono (lo' := w2.heap.size + 1) rC (by simp) (Nat.le_refl _)
      have s3 : w2.heap.size + 1 ≤ w3.heap.size := by have := hc.size; simp at this; omega
      have bq : Below w2.heap.size w2 w3 := (bp _).trans (hc.mono (bp _).size)
      replace cF0 := cell_later bq cF0
      replace zF := Nat.lt_of_lt_of_le zF bq.size
      have cA0 : w3.cell? ⟨w2.heap.size, 0, none⟩ = some (.int .i64 0) := cell_later hc (by simp [go_sem])
      have cA1 : w3.cell? ⟨w2.heap.size, 1, none⟩ = some (.slice aA (ys.length + zs.length) kA) := cell_later hc (by simp [go_sem])
      have zA : w2.heap.size < w3.heap.size := by omega
      replace rf := rf.below bq
      replace rd := rd.below bq
      replace rA := rA.below bq
      replace hb := hb.trans (bq.mono hb.size)
      clear hc bq bp hbt
      go_wp2_with fail
      have bp : ∀ o0, Below w3.heap.size w3 (w3.alloc o0) := fun o0 => (Below.refl _ _).alloc (Nat.le_refl _) o0
      have hbt : ∀ o0, Below w.heap.size w (w3.alloc o0) := fun o0 => hb.trans ((bp o0).mono hb.size)
      refine Calls.mono (lwAt_any a n ca xs 3 ((ys.length : Int) + 1) _ (hr0.below (hbt _)) hB hn (by omega) (by omega) (by omega)) ?_
      rintro e w4 ⟨t, rfl, t0, t1, qd, hw⟩
      have hc := below_drewN (Below.refl (w3.alloc (.cells #[.int .i64 0, .slice aC ys.length kC] 29)).heap.size (w3.alloc (.cells #[.int .i64 0, .slice aC ys.length kC] 29))) qd
      rw [← hw] at hc
      clear hw
      obtain ⟨t, rfl⟩ := Int.eq_ofNat_of_zero_le t0
      have tn : t ≤ ys.length := by omega
      clear t0 t1
      have s4 : w3.heap.size + 1 ≤ w4.heap.size := by have := hc.size; simp at this; omega
      have bq : Below w3.heap.size w3 w4 := (bp _).trans (hc.mono (bp _).size)
      replace cF0 := cell_later bq cF0
      replace zF := Nat.lt_of_lt_of_le zF bq.size
      replace cA0 := cell_later bq cA0
      replace cA1 := cell_later bq cA1
      replace zA := Nat.lt_of_lt_of_le zA bq.size
      have cC0 : w4.cell? ⟨w3.heap.size, 0, none⟩ = some (.int .i64 0) := cell_later hc (by simp [go_sem])
      have cC1 : w4.cell? ⟨w3.heap.size, 1, none⟩ = some (.slice aC ys.length kC) := cell_later hc (by simp [go_sem])
      have zC : w3.heap.size < w4.heap.size := by omega
      replace rf := rf.below bq
      replace rd := rd.below bq
      replace rA := rA.below bq
      replace rC := rC.below bq
      replace hb := hb.trans (bq.mono hb.size)
      clear hc bq bp hbt
      have RX := HRX.out t tn
      have RY := HRY.out t tn
      have HX : Hid _ := RX
      have HY : Hid _ := RY
      clear RX RY HRX HRY
      go_wp2_with fail
      refine Calls.mono (HX.out _ rf.read) ?_
      rintro e w5 ⟨vX, rfl, rX, hc⟩
      obtain ⟨aX, kX, rfl, _⟩ := rX.shape
      have s5 : w4.heap.size ≤ w5.heap.size := hc.size
      have bq := hc
      replace cF0 := cell_later bq cF0
      replace zF := Nat.lt_of_lt_of_le zF bq.size
      replace cA0 := cell_later bq cA0
      replace cA1 := cell_later bq cA1
      replace zA := Nat.lt_of_lt_of_le zA bq.size
      replace cC0 := cell_later bq cC0
      replace cC1 := cell_later bq cC1
      replace zC := Nat.lt_of_lt_of_le zC bq.size
      replace rf := rf.below bq
      replace rd := rd.below bq
      replace rA := rA.below bq
      replace rC := rC.below bq
      replace hb := hb.trans (bq.mono hb.size)
      clear hc bq
      go_wp2_with fail
      have bp : ∀ o0, Below w5.heap.size w5 (w5.alloc o0) := fun o0 => (Below.refl _ _).alloc (Nat.le_refl _) o0
      have hbt : ∀ o0, Below w.heap.size w (w5.alloc o0) := fun o0 => hb.trans ((bp o0).mono hb.size)
      refine Calls.mono (HY.out _ (rf.below (bp _)).read) ?_
      rintro e w6 ⟨vY, rfl, rY, hc⟩
      obtain ⟨aY, kY, rfl, _⟩ := rY.shape
      replace rY := RowI.mono (lo' := w5.heap.size + 1) rY (by simp) (Nat.le_refl _)
      have s6 : w5.heap.size + 1 ≤ w6.heap.size := by have := hc.size; simp at this; omega
      have bq : Below w5.heap.size w5 w6 := (bp _).trans (hc.mono (bp _).size)
      replace cF0 := cell_later bq cF0
      replace zF := Nat.lt_of_lt_of_le zF bq.size
      replace cA0 := cell_later bq cA0
      replace cA1 := cell_later bq cA1
      replace zA := Nat.lt_of_lt_of_le zA bq.size
      replace cC0 := cell_later bq cC0
      replace cC1 := cell_later bq cC1
      replace zC := Nat.lt_of_lt_of_le zC bq.size
      have cX0 : w6.cell? ⟨w5.heap.size, 0, none⟩ = some (.int .i64 0) := cell_later hc (by simp [go_sem])
      have cX1 : w6.cell? ⟨w5.heap.size, 1, none⟩ = some (.slice aX t kX) := cell_later hc (by simp [go_sem])
      have zX : w5.heap.size < w6.heap.size := by omega
      replace rf := rf.below bq
      replace rd := rd.below bq
      replace rA := rA.below bq
      replace rC := rC.below bq
      replace rX := rX.below bq
      replace hb := hb.trans (bq.mono hb.size)
      clear hc bq bp hbt
      clear HX HY
      go_wp2_with fail
      have bp : ∀ o0, Below w6.heap.size w6 (w6.alloc o0) := fun o0 => (Below.refl _ _).alloc (Nat.le_refl _) o0
      have hbt : ∀ o0, Below w.heap.size w (w6.alloc o0) := fun o0 => hb.trans ((bp o0).mono hb.size)
      refine Calls.mono (DrawReadPart_any a n ca xs _ (hr0.below (hbt _)) hB hn) ?_
      rintro e w7 ⟨vG, gs, A, N, M, rfl, rG, hgl, hgb, hc⟩
      obtain ⟨aG, kG, rfl, q1, q2⟩ := rG.shape
      have KG : Hid _ := And.intro q1 q2
      clear q1 q2
      replace rG := RowI.mono (lo' := w6.heap.size + 1) rG (by simp) (Nat.le_refl _)
      have s7 : w6.heap.size + 1 ≤ w7.heap.size := by have := hc.size; simp at this; omega
      have bq : Below w6.heap.size w6 w7 := (bp _).trans (hc.mono (bp _).size)
      replace cF0 := cell_later bq cF0
      replace zF := Nat.lt_of_lt_of_le zF bq.size
      replace cA0 := cell_later bq cA0
      replace cA1 := cell_later bq cA1
      replace zA := Nat.lt_of_lt_of_le zA bq.size
      replace cC0 := cell_later bq cC0
      replace cC1 := cell_later bq cC1
      replace zC := Nat.lt_of_lt_of_le zC bq.size
      replace cX0 := cell_later bq cX0
      replace cX1 := cell_later bq cX1
      replace zX := Nat.lt_of_lt_of_le zX bq.size
      have cY0 : w7.cell? ⟨w6.heap.size, 0, none⟩ = some (.int .i64 0) := cell_later hc (by simp [go_sem])
      have cY1 : w7.cell? ⟨w6.heap.size, 1, none⟩ = some (.slice aY (ys.length - t) kY) := cell_later hc (by simp [go_sem])
      have zY : w6.heap.size < w7.heap.size := by omega
      replace rf := rf.below bq
      replace rd := rd.below bq
      replace rA := rA.below bq
      replace rC := rC.below bq
      replace rX := rX.below bq
      replace rY := rY.below bq
      replace hb := hb.trans (bq.mono hb.size)
      clear hc bq bp hbt
      have IR := fun (w' : World) (h : Rd .u8 w' aG gs.length gs) => implReadPart_any aG gs.length kG A N M gs w' h (by omega) KG.out.1 KG.out.2
      have SR := fun (w' : World) (h : Rd .u8 w' aG gs.length gs) => specReadPart_any aG gs.length kG A N M gs w' h (by omega) KG.out.1 KG.out.2
      have hle := rp_le gs A N M
      have hpl := rpRes_len gs A N M
      generalize rpCode gs A N M = pc at *
      generalize rpRes gs A N M = ps at *
      have HIR : Hid _ := IR
      have HSR : Hid _ := SR
      clear IR SR
      go_wp2_with fail
      have bp : ∀ o0, Below w7.heap.size w7 (w7.alloc o0) := fun o0 => (Below.refl _ _).alloc (Nat.le_refl _) o0
      have hbt : ∀ o0, Below w.heap.size w (w7.alloc o0) := fun o0 => hb.trans ((bp o0).mono hb.size)
      refine Calls.mono (HIR.out _ (rG.below (bp _)).read) ?_
      rintro e w8 ⟨vP, rfl, rP, hc⟩
      obtain ⟨aP, kP, rfl, _⟩ := rP.shape
      replace rP := RowI.mono (lo' := w7.heap.size + 1) rP (by simp) (Nat.le_refl _)
      have s8 : w7.heap.size + 1 ≤ w8.heap.size := by have := hc.size; simp at this; omega
      have bq : Below w7.heap.size w7 w8 := (bp _).trans (hc.mono (bp _).size)
      replace cF0 := cell_later bq cF0
      replace zF := Nat.lt_of_lt_of_le zF bq.size
      replace cA0 := cell_later bq cA0
      replace cA1 := cell_later bq cA1
      replace zA := Nat.lt_of_lt_of_le zA bq.size
      replace cC0 := cell_later bq cC0
      replace cC1 := cell_later bq cC1
      replace zC := Nat.lt_of_lt_of_le zC bq.size
      replace cX0 := cell_later bq cX0
      replace cX1 := cell_later bq cX1
      replace zX := Nat.lt_of_lt_of_le zX bq.size
      replace cY0 := cell_later bq cY0
      replace cY1 := cell_later bq cY1
      replace zY := Nat.lt_of_lt_of_le zY bq.size
      have cG0 : w8.cell? ⟨w7.heap.size, 0, none⟩ = some (.slice aG gs.length kG) := cell_later hc (by simp [go_sem])
      have zG : w7.heap.size < w8.heap.size := by omega
      replace rf := rf.below bq
      replace rd := rd.below bq
      replace rA := rA.below bq
      replace rC := rC.below bq
      replace rX := rX.below bq
      replace rY := rY.below bq
      replace rG := rG.below bq
      replace hb := hb.trans (bq.mono hb.size)
      clear hc bq bp hbt
      clear HIR
      go_wp2_with fail
      have bp : ∀ o0, Below w8.heap.size w8 (w8.alloc o0) := fun o0 => (Below.refl _ _).alloc (Nat.le_refl _) o0
      have hbt : ∀ o0, Below w.heap.size w (w8.alloc o0) := fun o0 => hb.trans ((bp o0).mono hb.size)
      refine Calls.mono (DrawCutFile_any a n ca xs _ (hr0.below (hbt _)) hB hn) ?_
      rintro e w9 ⟨vH, hs, E, rfl, rH, hhl, hhb, hc⟩
      obtain ⟨aH, kH, rfl, q1, q2⟩ := rH.shape
      have KH : Hid _ := And.intro q1 q2
      clear q1 q2
      replace rH := RowI.mono (lo' := w8.heap.size + 1) rH (by simp) (Nat.le_refl _)
      have s9 : w8.heap.size + 1 ≤ w9.heap.size := by have := hc.size; simp at this; omega
      have bq : Below w8.heap.size w8 w9 := (bp _).trans (hc.mono (bp _).size)
      replace cF0 := cell_later bq cF0
      replace zF := Nat.lt_of_lt_of_le zF bq.size
      replace cA0 := cell_later bq cA0
      replace cA1 := cell_later bq cA1
      replace zA := Nat.lt_of_lt_of_le zA bq.size
      replace cC0 := cell_later bq cC0
      replace cC1 := cell_later bq cC1
      replace zC := Nat.lt_of_lt_of_le zC bq.size
      replace cX0 := cell_later bq cX0
      replace cX1 := cell_later bq cX1
      replace zX := Nat.lt_of_lt_of_le zX bq.size
      replace cY0 := cell_later bq cY0
      replace cY1 := cell_later bq cY1
      replace zY := Nat.lt_of_lt_of_le zY bq.size
      replace cG0 := cell_later bq cG0
      replace zG := Nat.lt_of_lt_of_le zG bq.size
      have cP0 : w9.cell? ⟨w8.heap.size, 0, none⟩ = some (.int .i64 pc) := cell_later hc (by simp [go_sem])
      have cP1 : w9.cell? ⟨w8.heap.size, 1, none⟩ = some (.slice aP ps.length kP) := cell_later hc (by simp [go_sem])
      have zP : w8.heap.size < w9.heap.size := by omega
      replace rf := rf.below bq
      replace rd := rd.below bq
      replace rA := rA.below bq
      replace rC := rC.below bq
      replace rX := rX.below bq
      replace rY := rY.below bq
      replace rG := rG.below bq
      replace rP := rP.below bq
      replace hb := hb.trans (bq.mono hb.size)
      clear hc bq bp hbt
      have ICH : ∀ (w' : World), Rd .u8 w' aH hs.length hs → Calls Try.prog 17 #[.agg #[.slice aH hs.length kH], .int .i64 E] w' fun e w'' => ∃ v, e = .returned (.agg #[.int .i64 (cutCode hs E), v]) ∧ Below w'.heap.size w' w'' := fun w' h => (implCutFile_any aH hs.length kH E hs w' h (by omega) KH.out.1 KH.out.2).mono fun e w'' ⟨v, h1, _, h3⟩ => ⟨v, h1, h3⟩
      have SCH : ∀ (w' : World), Rd .u8 w' aH hs.length hs → Calls Try.prog 24 #[.agg #[.slice aH hs.length kH], .int .i64 E] w' fun e w'' => ∃ v, e = .returned (.agg #[.int .i64 (cutCode hs E), v]) ∧ Below w'.heap.size w' w'' := fun w' h => (specCutFile_any aH hs.length kH E hs w' h (by omega) KH.out.1 KH.out.2).mono fun e w'' ⟨v, h1, _, h3⟩ => ⟨v, h1, h3⟩
      generalize cutCode hs E = hcd at *
      have HICH : Hid _ := ICH
      have HSCH : Hid _ := SCH
      clear ICH SCH
      have hcutA : ∀ w', Rd .u8 w' aA (ys.length + zs.length) (ys ++ zs) → Rd .u8 w' (if kA = ys.length then aA else Option.map (fun x => x.add ys.length) aA) zs.length zs := by
        intro w' h
        have h2 := h.cut ys.length zs.length (by omega) (if kA = ys.length then aA else Option.map (fun x => x.add ys.length) aA) (fun h0 g off hh => by
          have := KA.out.1
          rw [if_neg (by omega)]
          subst hh
          simp [Addr.add_lit])
        simpa using h2
      have HCA : Hid _ := hcutA
      have hkA1 : ys.length ≤ kA := by have := KA.out.1; omega
      have hkA2 : (ys.length : Int) ≤ (ys.length : Int) + (zs.length : Int) := by omega
      have hkA3 : ys.length ≤ ys.length + zs.length := by omega
      have hwS : IntKind.i64.wrap ((ys.length : Int) + (zs.length : Int)) = (ys.length : Int) + (zs.length : Int) := by rw [IntKind.wrap_i64]; omega
      clear hcutA
      have fF := fldF0
      have fB0 := fldB0
      have fB1 := fldB1
      go_wp2_with fail
      have bp : ∀ o0, Below w9.heap.size w9 (w9.alloc o0) := fun o0 => (Below.refl _ _).alloc (Nat.le_refl _) o0
      have hbt : ∀ o0, Below w.heap.size w (w9.alloc o0) := fun o0 => hb.trans ((bp o0).mono hb.size)
      have bd : Below w9.heap.size w9 (w9.alloc (.cells #[.slice aH hs.length kH] 25)).drew := (bp _).drew
      refine wp_region_held_drew (S := fun w' => w'.cell? ⟨w3.heap.size, 0, none⟩ = some (.int .i64 0) ∧ w'.cell? ⟨w3.heap.size, 1, none⟩ = some (.slice aC ys.length kC) ∧ w'.cell? ⟨w1.heap.size, 0, none⟩ = some (.slice af ys.length kf) ∧ w'.cell? ⟨w2.heap.size, 1, none⟩ = some (.slice aA (ys.length + zs.length) kA) ∧ w'.cell? ⟨w5.heap.size, 1, none⟩ = some (.slice aX t kX) ∧ w'.cell? ⟨w6.heap.size, 1, none⟩ = some (.slice aY (ys.length - t) kY) ∧ w'.cell? ⟨w8.heap.size, 0, none⟩ = some (.int .i64 pc) ∧ w'.cell? ⟨w8.heap.size, 1, none⟩ = some (.slice aP ps.length kP) ∧ w'.cell? ⟨w7.heap.size, 0, none⟩ = some (.slice aG gs.length kG) ∧ w'.cell? ⟨w9.heap.size, 0, none⟩ = some (.slice aH hs.length kH)) (by kernel_rfl) ⟨cell_later bd cC0, cell_later bd cC1, cell_later bd cF0, cell_later bd cA1, cell_later bd cX1, cell_later bd cY1, cell_later bd cP0, cell_later bd cP1, cell_later bd cG0, by simp [go_sem]⟩ (fun hS => ?_)
      replace rf := rf.below bd
      replace rd := rd.below bd
      replace rA := rA.below bd
      replace rC := rC.below bd
      replace rX := rX.below bd
      replace rY := rY.below bd
      replace rG := rG.below bd
      replace rP := rP.below bd
      replace rH := rH.below bd
      replace hb := hb.trans (bd.mono hb.size)
      have sW : w9.heap.size < (w9.alloc (.cells #[.slice aH hs.length kH] 25)).drew.heap.size := by simp [World.drew]
      clear cF0 zF
      clear cA0 cA1 zA
      clear cC0 cC1 zC
      clear cX0 cX1 zX
      clear cY0 cY1 zY
      clear cG0 zG
      clear cP0 cP1 zP
      clear bp hbt bd
      generalize (w9.alloc (.cells #[.slice aH hs.length kH] 25)).drew = v0 at *
      refine wpAnyH_take (i := 0) (v := (.pointer (some ⟨w3.heap.size, 0, none⟩))) rfl (by as_aux_lemma => kernel_rfl) (by as_aux_lemma => kernel_rfl) (by as_aux_lemma => kernel_rfl) (fun _ _ _ h => h) (Or.inl ⟨by kernel_rfl, ?_⟩) hS ?_
      · intro w hSw; (try dsimp only at hSw); go_simp
      simp only [Act.put, List.getElem_toArray, List.getElem_cons_zero, List.getElem_cons_succ, List.setIfInBounds_toArray, List.set_cons_zero, List.set_cons_succ]
      refine wpAnyH_take (i := 1) (v := (.int .i64 0)) rfl (by as_aux_lemma => kernel_rfl) (by as_aux_lemma => kernel_rfl) (by as_aux_lemma => kernel_rfl) (fun _ _ _ h => h) (Or.inl ⟨by kernel_rfl, ?_⟩) hS ?_
      · intro w hSw; (try dsimp only at hSw); go_simp
      simp only [Act.put, List.getElem_toArray, List.getElem_cons_zero, List.getElem_cons_succ, List.setIfInBounds_toArray, List.set_cons_zero, List.set_cons_succ]
      refine wpAnyH_take (i := 2) (v := (.bool true)) rfl (by as_aux_lemma => kernel_rfl) (by as_aux_lemma => kernel_rfl) (by as_aux_lemma => kernel_rfl) (fun _ _ _ h => h) (Or.inl ⟨by kernel_rfl, ?_⟩) hS ?_
      · intro w hSw; (try dsimp only at hSw); go_simp
      simp only [Act.put, List.getElem_toArray, List.getElem_cons_zero, List.getElem_cons_succ, List.setIfInBounds_toArray, List.set_cons_zero, List.set_cons_succ]
      refine wpAnyH_take (i := 3) (v := (.bool true)) rfl (by as_aux_lemma => kernel_rfl) (by as_aux_lemma => kernel_rfl) (by as_aux_lemma => kernel_rfl) (fun _ _ _ h => h) (Or.inl ⟨by kernel_rfl, ?_⟩) hS ?_
      · intro w hSw; (try dsimp only at hSw); go_simp
      simp only [Act.put, List.getElem_toArray, List.getElem_cons_zero, List.getElem_cons_succ, List.setIfInBounds_toArray, List.set_cons_zero, List.set_cons_succ]
      refine wpAnyH_take (i := 4) (v := (.pointer (some ⟨w3.heap.size, 1, none⟩))) rfl (by as_aux_lemma => kernel_rfl) (by as_aux_lemma => kernel_rfl) (by as_aux_lemma => kernel_rfl) (fun _ _ _ h => h) (Or.inl ⟨by kernel_rfl, ?_⟩) hS ?_
      · intro w hSw; (try dsimp only at hSw); go_simp
      simp only [Act.put, List.getElem_toArray, List.getElem_cons_zero, List.getElem_cons_succ, List.setIfInBounds_toArray, List.set_cons_zero, List.set_cons_succ]
      refine wpAnyH_take (i := 5) (v := (.pointer (some ⟨w3.heap.size, 1, none⟩))) rfl (by as_aux_lemma => kernel_rfl) (by as_aux_lemma => kernel_rfl) (by as_aux_lemma => kernel_rfl) (fun _ _ _ h => h) (Or.inl ⟨by kernel_rfl, ?_⟩) hS ?_
      · intro w hSw; (try dsimp only at hSw); go_simp
      simp only [Act.put, List.getElem_toArray, List.getElem_cons_zero, List.getElem_cons_succ, List.setIfInBounds_toArray, List.set_cons_zero, List.set_cons_succ]
      refine wpAnyH_take (i := 6) (v := (.slice aC ys.length kC)) rfl (by as_aux_lemma => kernel_rfl) (by as_aux_lemma => kernel_rfl) (by as_aux_lemma => kernel_rfl) (fun _ _ _ h => h) (Or.inl ⟨by kernel_rfl, ?_⟩) hS ?_
      · intro w hSw; (try dsimp only at hSw); go_simp
      simp only [Act.put, List.getElem_toArray, List.getElem_cons_zero, List.getElem_cons_succ, List.setIfInBounds_toArray, List.set_cons_zero, List.set_cons_succ]
      refine wpAnyH_take (i := 7) (v := (.pointer (some ⟨w1.heap.size, 0, none⟩))) rfl (by as_aux_lemma => kernel_rfl) (by as_aux_lemma => kernel_rfl) (by as_aux_lemma => kernel_rfl) (fun _ _ _ h => h) (Or.inl ⟨by kernel_rfl, ?_⟩) hS ?_
      · intro w hSw; (try dsimp only at hSw); go_simp
      simp only [Act.put, List.getElem_toArray, List.getElem_cons_zero, List.getElem_cons_succ, List.setIfInBounds_toArray, List.set_cons_zero, List.set_cons_succ]
      refine wpAnyH_take (i := 8) (v := (.slice af ys.length kf)) rfl (by as_aux_lemma => kernel_rfl) (by as_aux_lemma => kernel_rfl) (by as_aux_lemma => kernel_rfl) (fun _ _ _ h => h) (Or.inl ⟨by kernel_rfl, ?_⟩) hS ?_
      · intro w hSw; (try dsimp only at hSw); go_simp
      simp only [Act.put, List.getElem_toArray, List.getElem_cons_zero, List.getElem_cons_succ, List.setIfInBounds_toArray, List.set_cons_zero, List.set_cons_succ]
      refine wpAnyH_ready (rs := [9]) (by as_aux_lemma => kernel_rfl) (by simp) ?_
      refine AllReadyH.cons rfl (fun K hK => ?_) AllReadyH.nil
      go_simp
      refine Calls.mono (lwSame_yes aC af ys.length kC kf ys _ rC.read rf.read) ?_
      rintro e v' ⟨rfl, hv'⟩
      rw [hv']
      clear hv' v'
      refine hK.out _ _ hS (fun hS => ?_)
      clear hK K
      refine wpAnyH_take (i := 10) (v := (.bool true)) rfl (by as_aux_lemma => kernel_rfl) (by as_aux_lemma => kernel_rfl) (by as_aux_lemma => kernel_rfl) (fun _ _ _ h => h) (Or.inl ⟨by kernel_rfl, ?_⟩) hS ?_
      · intro w hSw; (try dsimp only at hSw); go_simp
      simp only [Act.put, List.getElem_toArray, List.getElem_cons_zero, List.getElem_cons_succ, List.setIfInBounds_toArray, List.set_cons_zero, List.set_cons_succ]
      refine wpAnyH_take (i := 11) (v := (.bool true)) rfl (by as_aux_lemma => kernel_rfl) (by as_aux_lemma => kernel_rfl) (by as_aux_lemma => kernel_rfl) (fun _ _ _ h => h) (Or.inl ⟨by kernel_rfl, ?_⟩) hS ?_
      · intro w hSw; (try dsimp only at hSw); go_simp
      simp only [Act.put, List.getElem_toArray, List.getElem_cons_zero, List.getElem_cons_succ, List.setIfInBounds_toArray, List.set_cons_zero, List.set_cons_succ]
      refine wpAnyH_take (i := 12) (v := (.pointer (some ⟨w2.heap.size, 1, none⟩))) rfl (by as_aux_lemma => kernel_rfl) (by as_aux_lemma => kernel_rfl) (by as_aux_lemma => kernel_rfl) (fun _ _ _ h => h) (Or.inl ⟨by kernel_rfl, ?_⟩) hS ?_
      · intro w hSw; (try dsimp only at hSw); go_simp
      simp only [Act.put, List.getElem_toArray, List.getElem_cons_zero, List.getElem_cons_succ, List.setIfInBounds_toArray, List.set_cons_zero, List.set_cons_succ]
      refine wpAnyH_take (i := 13) (v := (.pointer (some ⟨w2.heap.size, 1, none⟩))) rfl (by as_aux_lemma => kernel_rfl) (by as_aux_lemma => kernel_rfl) (by as_aux_lemma => kernel_rfl) (fun _ _ _ h => h) (Or.inl ⟨by kernel_rfl, ?_⟩) hS ?_
      · intro w hSw; (try dsimp only at hSw); go_simp
      simp only [Act.put, List.getElem_toArray, List.getElem_cons_zero, List.getElem_cons_succ, List.setIfInBounds_toArray, List.set_cons_zero, List.set_cons_succ]
      refine wpAnyH_take (i := 14) (v := (.slice aA (ys.length + zs.length) kA)) rfl (by as_aux_lemma => kernel_rfl) (by as_aux_lemma => kernel_rfl) (by as_aux_lemma => kernel_rfl) (fun _ _ _ h => h) (Or.inl ⟨by kernel_rfl, ?_⟩) hS ?_
      · intro w hSw; (try dsimp only at hSw); go_simp
      simp only [Act.put, List.getElem_toArray, List.getElem_cons_zero, List.getElem_cons_succ, List.setIfInBounds_toArray, List.set_cons_zero, List.set_cons_succ]
      refine wpAnyH_take (i := 15) (v := (.int .i64 (ys.length : Int))) rfl (by as_aux_lemma => kernel_rfl) (by as_aux_lemma => kernel_rfl) (by as_aux_lemma => kernel_rfl) (fun _ _ _ h => h) (Or.inl ⟨by kernel_rfl, ?_⟩) hS ?_
      · intro w hSw; (try dsimp only at hSw); go_simp
      simp only [Act.put, List.getElem_toArray, List.getElem_cons_zero, List.getElem_cons_succ, List.setIfInBounds_toArray, List.set_cons_zero, List.set_cons_succ]
      refine wpAnyH_take (i := 16) (v := (.slice (if kA = ys.length then aA else Option.map (fun x => x.add ys.length) aA) zs.length (kA - ys.length))) rfl (by as_aux_lemma => kernel_rfl) (by as_aux_lemma => kernel_rfl) (by as_aux_lemma => kernel_rfl) (fun _ _ _ h => h) (Or.inl ⟨by kernel_rfl, ?_⟩) hS ?_
      · intro w hSw; (try dsimp only at hSw); go_simp
      simp only [Act.put, List.getElem_toArray, List.getElem_cons_zero, List.getElem_cons_succ, List.setIfInBounds_toArray, List.set_cons_zero, List.set_cons_succ]
      refine wpAnyH_take (i := 17) (v := (.slice ad zs.length kd)) rfl (by as_aux_lemma => kernel_rfl) (by as_aux_lemma => kernel_rfl) (by as_aux_lemma => kernel_rfl) (fun _ _ _ h => h) (Or.inl ⟨by kernel_rfl, ?_⟩) hS ?_
      · intro w hSw; (try dsimp only at hSw); go_simp
      simp only [Act.put, List.getElem_toArray, List.getElem_cons_zero, List.getElem_cons_succ, List.setIfInBounds_toArray, List.set_cons_zero, List.set_cons_succ]
      refine wpAnyH_ready (rs := [18]) (by as_aux_lemma => kernel_rfl) (by simp) ?_
      refine AllReadyH.cons rfl (fun K hK => ?_) AllReadyH.nil
      go_simp
      refine Calls.mono (lwSame_yes _ ad zs.length _ kd zs _ (HCA.out _ rA.read) rd.read) ?_
      rintro e v' ⟨rfl, hv'⟩
      rw [hv']
      clear hv' v'
      refine hK.out _ _ hS (fun hS => ?_)
      clear hK K
      refine wpAnyH_take (i := 19) (v := (.bool true)) rfl (by as_aux_lemma => kernel_rfl) (by as_aux_lemma => kernel_rfl) (by as_aux_lemma => kernel_rfl) (fun _ _ _ h => h) (Or.inl ⟨by kernel_rfl, ?_⟩) hS ?_
      · intro w hSw; (try dsimp only at hSw); go_simp
      simp only [Act.put, List.getElem_toArray, List.getElem_cons_zero, List.getElem_cons_succ, List.setIfInBounds_toArray, List.set_cons_zero, List.set_cons_succ]
      refine wpAnyH_take (i := 20) (v := (.bool true)) rfl (by as_aux_lemma => kernel_rfl) (by as_aux_lemma => kernel_rfl) (by as_aux_lemma => kernel_rfl) (fun _ _ _ h => h) (Or.inl ⟨by kernel_rfl, ?_⟩) hS ?_
      · intro w hSw; (try dsimp only at hSw); go_simp
      simp only [Act.put, List.getElem_toArray, List.getElem_cons_zero, List.getElem_cons_succ, List.setIfInBounds_toArray, List.set_cons_zero, List.set_cons_succ]
      refine wpAnyH_take (i := 22) (v := (.pointer (some ⟨w5.heap.size, 1, none⟩))) rfl (by as_aux_lemma => kernel_rfl) (by as_aux_lemma => kernel_rfl) (by as_aux_lemma => kernel_rfl) (fun _ _ _ h => h) (Or.inl ⟨by kernel_rfl, ?_⟩) hS ?_
      · intro w hSw; (try dsimp only at hSw); go_simp
      simp only [Act.put, List.getElem_toArray, List.getElem_cons_zero, List.getElem_cons_succ, List.setIfInBounds_toArray, List.set_cons_zero, List.set_cons_succ]
      refine wpAnyH_take (i := 23) (v := (.slice aX t kX)) rfl (by as_aux_lemma => kernel_rfl) (by as_aux_lemma => kernel_rfl) (by as_aux_lemma => kernel_rfl) (fun _ _ _ h => h) (Or.inl ⟨by kernel_rfl, ?_⟩) hS ?_
      · intro w hSw; (try dsimp only at hSw); go_simp
      simp only [Act.put, List.getElem_toArray, List.getElem_cons_zero, List.getElem_cons_succ, List.setIfInBounds_toArray, List.set_cons_zero, List.set_cons_succ]
      refine wpAnyH_take (i := 25) (v := (.pointer (some ⟨w6.heap.size, 1, none⟩))) rfl (by as_aux_lemma => kernel_rfl) (by as_aux_lemma => kernel_rfl) (by as_aux_lemma => kernel_rfl) (fun _ _ _ h => h) (Or.inl ⟨by kernel_rfl, ?_⟩) hS ?_
      · intro w hSw; (try dsimp only at hSw); go_simp
      simp only [Act.put, List.getElem_toArray, List.getElem_cons_zero, List.getElem_cons_succ, List.setIfInBounds_toArray, List.set_cons_zero, List.set_cons_succ]
      refine wpAnyH_take (i := 26) (v := (.slice aY (ys.length - t) kY)) rfl (by as_aux_lemma => kernel_rfl) (by as_aux_lemma => kernel_rfl) (by as_aux_lemma => kernel_rfl) (fun _ _ _ h => h) (Or.inl ⟨by kernel_rfl, ?_⟩) hS ?_
      · intro w hSw; (try dsimp only at hSw); go_simp
      simp only [Act.put, List.getElem_toArray, List.getElem_cons_zero, List.getElem_cons_succ, List.setIfInBounds_toArray, List.set_cons_zero, List.set_cons_succ]
      refine wpAnyH_take (i := 28) (v := (.pointer (some ⟨w1.heap.size, 0, none⟩))) rfl (by as_aux_lemma => kernel_rfl) (by as_aux_lemma => kernel_rfl) (by as_aux_lemma => kernel_rfl) (fun _ _ _ h => h) (Or.inl ⟨by kernel_rfl, ?_⟩) hS ?_
      · intro w hSw; (try dsimp only at hSw); go_simp
      simp only [Act.put, List.getElem_toArray, List.getElem_cons_zero, List.getElem_cons_succ, List.setIfInBounds_toArray, List.set_cons_zero, List.set_cons_succ]
      refine wpAnyH_take (i := 29) (v := (.slice af ys.length kf)) rfl (by as_aux_lemma => kernel_rfl) (by as_aux_lemma => kernel_rfl) (by as_aux_lemma => kernel_rfl) (fun _ _ _ h => h) (Or.inl ⟨by kernel_rfl, ?_⟩) hS ?_
      · intro w hSw; (try dsimp only at hSw); go_simp
      simp only [Act.put, List.getElem_toArray, List.getElem_cons_zero, List.getElem_cons_succ, List.setIfInBounds_toArray, List.set_cons_zero, List.set_cons_succ]
      refine wpAnyH_ready (rs := [21]) (by as_aux_lemma => kernel_rfl) (by simp) ?_
      refine AllReadyH.cons rfl (fun K hK => ?_) AllReadyH.nil
      go_simp
      have hc : Below v0.heap.size v0 (v0.alloc (.cells #[] 5)) := (Below.refl _ _).alloc (Nat.le_refl _) _
      have oE := own_lit (k := .u8) (e := 5) v0 #[] 0 v0.heap.size [] rfl rfl (Nat.le_refl _) (by simp [maxLen])
      have sE : v0.heap.size + 1 = (v0.alloc (.cells #[] 5)).heap.size := by simp
      refine hK.out _ _ ⟨cell_later hc hS.1, cell_later hc hS.2.1, cell_later hc hS.2.2.1, cell_later hc hS.2.2.2.1, cell_later hc hS.2.2.2.2.1, cell_later hc hS.2.2.2.2.2.1, cell_later hc hS.2.2.2.2.2.2.1, cell_later hc hS.2.2.2.2.2.2.2.1, cell_later hc hS.2.2.2.2.2.2.2.2.1, cell_later hc hS.2.2.2.2.2.2.2.2.2⟩ (fun hS => ?_)
      clear hK K
      replace rf := rf.below hc
      replace rd := rd.below hc
      replace rA := rA.below hc
      replace rC := rC.below hc
      replace rX := rX.below hc
      replace rY := rY.below hc
      replace rG := rG.below hc
      replace rP := rP.below hc
      replace rH := rH.below hc
      replace hb := hb.trans (hc.mono hb.size)
      clear hc
      generalize (v0.alloc (.cells #[] 5)) = u1 at *
      refine wpAnyH_ready (rs := [24]) (by kernel_rfl) (by simp) ?_
      refine AllReadyH.cons rfl (fun K hK => ?_) AllReadyH.nil
      rw [if_pos (by rfl)]
      refine wp_append_rd _ _ 22 rfl .u8 v0.heap.size 5 i0 1 Try.underlying22 hi hz0 hz1 hz2 _ 0 [] rfl oE aX t kX (ys.take t) rfl rX.read (by unfold maxLen; omega) (by omega) (by omega) ?_
      intro v24 u2 oF hg
      have lo := oE.lt
      have hc := Chg.of_grown (lo := v0.heap.size) (hi := u1.heap.size) hg (fun j hj => lo j hj)
      have su2 := hg.size
      refine hK.out _ _ ⟨hc.at hS.1 (by omega) (by omega), hc.at hS.2.1 (by omega) (by omega), hc.at hS.2.2.1 (by omega) (by omega), hc.at hS.2.2.2.1 (by omega) (by omega), hc.at hS.2.2.2.2.1 (by omega) (by omega), hc.at hS.2.2.2.2.2.1 (by omega) (by omega), hc.at hS.2.2.2.2.2.2.1 (by omega) (by omega), hc.at hS.2.2.2.2.2.2.2.1 (by omega) (by omega), hc.at hS.2.2.2.2.2.2.2.2.1 (by omega) (by omega), hc.at hS.2.2.2.2.2.2.2.2.2 (by omega) (by omega)⟩ (fun hS => ?_)
      clear hK K
      replace rf := rf.chg hc (by omega)
      replace rd := rd.chg hc (by omega)
      replace rA := rA.chg hc (by omega)
      replace rC := rC.chg hc (by omega)
      replace rX := rX.chg hc (by omega)
      replace rY := rY.chg hc (by omega)
      replace rG := rG.chg hc (by omega)
      replace rP := rP.chg hc (by omega)
      replace rH := rH.chg hc (by omega)
      replace hb := below_chg hb hc hb.size (by omega)
      clear hc hg lo oE
      rw [Nat.zero_add, List.nil_append] at oF
      obtain ⟨a24, k24, hv, _⟩ := oF.rd
      subst hv
      simp only [Act.put, List.getElem_toArray, List.getElem_cons_zero, List.getElem_cons_succ, List.setIfInBounds_toArray, List.set_cons_zero, List.set_cons_succ]
      refine wpAnyH_ready (rs := [27]) (by kernel_rfl) (by simp) ?_
      refine AllReadyH.cons rfl (fun K hK => ?_) AllReadyH.nil
      rw [if_pos (by rfl)]
      refine wp_append_rd _ _ 22 rfl .u8 v0.heap.size 5 i0 1 Try.underlying22 hi hz0 hz1 hz2 _ t (ys.take t) rfl oF aY (ys.length - t) kY (ys.drop t) rfl rY.read (by unfold maxLen; omega) (by omega) (by omega) ?_
      intro v27 u3 oG hg
      have lo := oF.lt
      have hc := Chg.of_grown (lo := v0.heap.size) (hi := u2.heap.size) hg (fun j hj => lo j hj)
      have su3 := hg.size
      refine hK.out _ _ ⟨hc.at hS.1 (by omega) (by omega), hc.at hS.2.1 (by omega) (by omega), hc.at hS.2.2.1 (by omega) (by omega), hc.at hS.2.2.2.1 (by omega) (by omega), hc.at hS.2.2.2.2.1 (by omega) (by omega), hc.at hS.2.2.2.2.2.1 (by omega) (by omega), hc.at hS.2.2.2.2.2.2.1 (by omega) (by omega), hc.at hS.2.2.2.2.2.2.2.1 (by omega) (by omega), hc.at hS.2.2.2.2.2.2.2.2.1 (by omega) (by omega), hc.at hS.2.2.2.2.2.2.2.2.2 (by omega) (by omega)⟩ (fun hS => ?_)
      clear hK K
      replace rf := rf.chg hc (by omega)
      replace rd := rd.chg hc (by omega)
      replace rA := rA.chg hc (by omega)
      replace rC := rC.chg hc (by omega)
      replace rX := rX.chg hc (by omega)
      replace rY := rY.chg hc (by omega)
      replace rG := rG.chg hc (by omega)
      replace rP := rP.chg hc (by omega)
      replace rH := rH.chg hc (by omega)
      replace hb := below_chg hb hc hb.size (by omega)
      clear hc hg lo oF
      rw [List.take_append_drop, show t + (ys.length - t) = ys.length by omega] at oG
      obtain ⟨a27, k27, hv, _⟩ := oG.rd
      subst hv
      simp only [Act.put, List.getElem_toArray, List.getElem_cons_zero, List.getElem_cons_succ, List.setIfInBounds_toArray, List.set_cons_zero, List.set_cons_succ]
      have rE := oG.read
      refine wpAnyH_ready (rs := [30]) (by as_aux_lemma => kernel_rfl) (by simp) ?_
      refine AllReadyH.cons rfl (fun K hK => ?_) AllReadyH.nil
      go_simp
      refine Calls.mono (lwSame_yes a27 af ys.length k27 kf ys _ rE rf.read) ?_
      rintro e v' ⟨rfl, hv'⟩
      rw [hv']
      clear hv' v'
      refine hK.out _ _ hS (fun hS => ?_)
      clear hK K
      clear oG rE
      refine wpAnyH_take (i := 31) (v := (.bool true)) rfl (by as_aux_lemma => kernel_rfl) (by as_aux_lemma => kernel_rfl) (by as_aux_lemma => kernel_rfl) (fun _ _ _ h => h) (Or.inl ⟨by kernel_rfl, ?_⟩) hS ?_
      · intro w hSw; (try dsimp only at hSw); go_simp
      simp only [Act.put, List.getElem_toArray, List.getElem_cons_zero, List.getElem_cons_succ, List.setIfInBounds_toArray, List.set_cons_zero, List.set_cons_succ]
      refine wpAnyH_take (i := 32) (v := (.bool true)) rfl (by as_aux_lemma => kernel_rfl) (by as_aux_lemma => kernel_rfl) (by as_aux_lemma => kernel_rfl) (fun _ _ _ h => h) (Or.inl ⟨by kernel_rfl, ?_⟩) hS ?_
      · intro w hSw; (try dsimp only at hSw); go_simp
      simp only [Act.put, List.getElem_toArray, List.getElem_cons_zero, List.getElem_cons_succ, List.setIfInBounds_toArray, List.set_cons_zero, List.set_cons_succ]
      refine wpAnyH_take (i := 33) (v := (.pointer (some ⟨w8.heap.size, 0, none⟩))) rfl (by as_aux_lemma => kernel_rfl) (by as_aux_lemma => kernel_rfl) (by as_aux_lemma => kernel_rfl) (fun _ _ _ h => h) (Or.inl ⟨by kernel_rfl, ?_⟩) hS ?_
      · intro w hSw; (try dsimp only at hSw); go_simp
      simp only [Act.put, List.getElem_toArray, List.getElem_cons_zero, List.getElem_cons_succ, List.setIfInBounds_toArray, List.set_cons_zero, List.set_cons_succ]
      refine wpAnyH_take (i := 34) (v := (.int .i64 pc)) rfl (by as_aux_lemma => kernel_rfl) (by as_aux_lemma => kernel_rfl) (by as_aux_lemma => kernel_rfl) (fun _ _ _ h => h) (Or.inl ⟨by kernel_rfl, ?_⟩) hS ?_
      · intro w hSw; (try dsimp only at hSw); go_simp
      simp only [Act.put, List.getElem_toArray, List.getElem_cons_zero, List.getElem_cons_succ, List.setIfInBounds_toArray, List.set_cons_zero, List.set_cons_succ]
      refine wpAnyH_take (i := 35) (v := (.agg #[.slice aG gs.length kG])) rfl (by as_aux_lemma => kernel_rfl) (by as_aux_lemma => kernel_rfl) (by as_aux_lemma => kernel_rfl) (fun _ _ _ h => h) (Or.inl ⟨by kernel_rfl, ?_⟩) hS ?_
      · intro w hSw; (try dsimp only at hSw); go_simp
      simp only [Act.put, List.getElem_toArray, List.getElem_cons_zero, List.getElem_cons_succ, List.setIfInBounds_toArray, List.set_cons_zero, List.set_cons_succ]
      refine wpAnyH_take (i := 36) (v := (.int .i64 A)) rfl (by as_aux_lemma => kernel_rfl) (by as_aux_lemma => kernel_rfl) (by as_aux_lemma => kernel_rfl) (fun _ _ _ h => h) (Or.inl ⟨by kernel_rfl, ?_⟩) hS ?_
      · intro w hSw; (try dsimp only at hSw); go_simp
      simp only [Act.put, List.getElem_toArray, List.getElem_cons_zero, List.getElem_cons_succ, List.setIfInBounds_toArray, List.set_cons_zero, List.set_cons_succ]
      refine wpAnyH_take (i := 37) (v := (.int .i64 N)) rfl (by as_aux_lemma => kernel_rfl) (by as_aux_lemma => kernel_rfl) (by as_aux_lemma => kernel_rfl) (fun _ _ _ h => h) (Or.inl ⟨by kernel_rfl, ?_⟩) hS ?_
      · intro w hSw; (try dsimp only at hSw); go_simp
      simp only [Act.put, List.getElem_toArray, List.getElem_cons_zero, List.getElem_cons_succ, List.setIfInBounds_toArray, List.set_cons_zero, List.set_cons_succ]
      refine wpAnyH_take (i := 38) (v := (.int .i64 M)) rfl (by as_aux_lemma => kernel_rfl) (by as_aux_lemma => kernel_rfl) (by as_aux_lemma => kernel_rfl) (fun _ _ _ h => h) (Or.inl ⟨by kernel_rfl, ?_⟩) hS ?_
      · intro w hSw; (try dsimp only at hSw); go_simp
      simp only [Act.put, List.getElem_toArray, List.getElem_cons_zero, List.getElem_cons_succ, List.setIfInBounds_toArray, List.set_cons_zero, List.set_cons_succ]
      have hcS : True := trivial
      refine wpAnyH_ready (rs := [39]) (by as_aux_lemma => kernel_rfl) (by simp) ?_
      refine AllReadyH.cons rfl (fun K hK => ?_) AllReadyH.nil
      go_simp
      refine Calls.mono (HSR.out _ rG.read) ?_
      rintro e v4 ⟨vS, rfl, rS, hc⟩
      refine hK.out _ _ ⟨cell_later hc hS.1, cell_later hc hS.2.1, cell_later hc hS.2.2.1, cell_later hc hS.2.2.2.1, cell_later hc hS.2.2.2.2.1, cell_later hc hS.2.2.2.2.2.1, cell_later hc hS.2.2.2.2.2.2.1, cell_later hc hS.2.2.2.2.2.2.2.1, cell_later hc hS.2.2.2.2.2.2.2.2.1, cell_later hc hS.2.2.2.2.2.2.2.2.2⟩ (fun hS => ?_)
      clear hK K
      replace rf := rf.below hc
      replace rd := rd.below hc
      replace rA := rA.below hc
      replace rC := rC.below hc
      replace rX := rX.below hc
      replace rY := rY.below hc
      replace rG := rG.below hc
      replace rP := rP.below hc
      replace rH := rH.below hc
      replace hb := hb.trans (hc.mono hb.size)
      have sv4 := hc.size
      clear hc
      obtain ⟨aS, kS, rfl, _⟩ := rS.shape
      clear rS hcS
      refine wpAnyH_take (i := 40) (v := (.int .i64 pc)) rfl (by as_aux_lemma => kernel_rfl) (by as_aux_lemma => kernel_rfl) (by as_aux_lemma => kernel_rfl) (fun _ _ _ h => h) (Or.inl ⟨by kernel_rfl, ?_⟩) hS ?_
      · intro w hSw; (try dsimp only at hSw); go_simp
      simp only [Act.put, List.getElem_toArray, List.getElem_cons_zero, List.getElem_cons_succ, List.setIfInBounds_toArray, List.set_cons_zero, List.set_cons_succ]
      refine wpAnyH_take (i := 41) (v := (.bool true)) rfl (by as_aux_lemma => kernel_rfl) (by as_aux_lemma => kernel_rfl) (by as_aux_lemma => kernel_rfl) (fun _ _ _ h => h) (Or.inl ⟨by kernel_rfl, ?_⟩) hS ?_
      · intro w hSw; (try dsimp only at hSw); go_simp
      simp only [Act.put, List.getElem_toArray, List.getElem_cons_zero, List.getElem_cons_succ, List.setIfInBounds_toArray, List.set_cons_zero, List.set_cons_succ]
      refine wpAnyH_take (i := 42) (v := (.bool true)) rfl (by as_aux_lemma => kernel_rfl) (by as_aux_lemma => kernel_rfl) (by as_aux_lemma => kernel_rfl) (fun _ _ _ h => h) (Or.inl ⟨by kernel_rfl, ?_⟩) hS ?_
      · intro w hSw; (try dsimp only at hSw); go_simp
      simp only [Act.put, List.getElem_toArray, List.getElem_cons_zero, List.getElem_cons_succ, List.setIfInBounds_toArray, List.set_cons_zero, List.set_cons_succ]
      refine wpAnyH_take (i := 43) (v := (.bool true)) rfl (by as_aux_lemma => kernel_rfl) (by as_aux_lemma => kernel_rfl) (by as_aux_lemma => kernel_rfl) (fun _ _ _ h => h) (Or.inl ⟨by kernel_rfl, ?_⟩) hS ?_
      · intro w hSw; (try dsimp only at hSw); go_simp
      simp only [Act.put, List.getElem_toArray, List.getElem_cons_zero, List.getElem_cons_succ, List.setIfInBounds_toArray, List.set_cons_zero, List.set_cons_succ]
      refine wpAnyH_take (i := 44) (v := (.pointer (some ⟨w8.heap.size, 0, none⟩))) rfl (by as_aux_lemma => kernel_rfl) (by as_aux_lemma => kernel_rfl) (by as_aux_lemma => kernel_rfl) (fun _ _ _ h => h) (Or.inl ⟨by kernel_rfl, ?_⟩) hS ?_
      · intro w hSw; (try dsimp only at hSw); go_simp
      simp only [Act.put, List.getElem_toArray, List.getElem_cons_zero, List.getElem_cons_succ, List.setIfInBounds_toArray, List.set_cons_zero, List.set_cons_succ]
      refine wpAnyH_take (i := 45) (v := (.int .i64 pc)) rfl (by as_aux_lemma => kernel_rfl) (by as_aux_lemma => kernel_rfl) (by as_aux_lemma => kernel_rfl) (fun _ _ _ h => h) (Or.inl ⟨by kernel_rfl, ?_⟩) hS ?_
      · intro w hSw; (try dsimp only at hSw); go_simp
      simp only [Act.put, List.getElem_toArray, List.getElem_cons_zero, List.getElem_cons_succ, List.setIfInBounds_toArray, List.set_cons_zero, List.set_cons_succ]
      by_cases hpc : pc = 0
      · subst hpc
        obtain ⟨l1, l2⟩ := hle rfl
        have l1' : (ps.length : Int) ≤ M := l1
        have l2' : (ps.length : Int) ≤ N := l2
        refine wpAnyH_take (i := 46) (v := (.bool false)) rfl (by as_aux_lemma => kernel_rfl) (by as_aux_lemma => kernel_rfl) (by as_aux_lemma => kernel_rfl) (fun _ _ _ h => h) (Or.inl ⟨by kernel_rfl, ?_⟩) hS ?_
        · intro w hSw; (try dsimp only at hSw); go_simp
        simp only [Act.put, List.getElem_toArray, List.getElem_cons_zero, List.getElem_cons_succ, List.setIfInBounds_toArray, List.set_cons_zero, List.set_cons_succ]
        refine wpAnyH_take (i := 47) (v := (.bool false)) rfl (by as_aux_lemma => kernel_rfl) (by as_aux_lemma => kernel_rfl) (by as_aux_lemma => kernel_rfl) (fun _ _ _ h => h) (Or.inl ⟨by kernel_rfl, ?_⟩) hS ?_
        · intro w hSw; (try dsimp only at hSw); go_simp
        simp only [Act.put, List.getElem_toArray, List.getElem_cons_zero, List.getElem_cons_succ, List.setIfInBounds_toArray, List.set_cons_zero, List.set_cons_succ]
        refine wpAnyH_take (i := 48) (v := (.pointer (some ⟨w8.heap.size, 1, none⟩))) rfl (by as_aux_lemma => kernel_rfl) (by as_aux_lemma => kernel_rfl) (by as_aux_lemma => kernel_rfl) (fun _ _ _ h => h) (Or.inl ⟨by kernel_rfl, ?_⟩) hS ?_
        · intro w hSw; (try dsimp only at hSw); go_simp
        simp only [Act.put, List.getElem_toArray, List.getElem_cons_zero, List.getElem_cons_succ, List.setIfInBounds_toArray, List.set_cons_zero, List.set_cons_succ]
        refine wpAnyH_take (i := 49) (v := (.slice aP ps.length kP)) rfl (by as_aux_lemma => kernel_rfl) (by as_aux_lemma => kernel_rfl) (by as_aux_lemma => kernel_rfl) (fun _ _ _ h => h) (Or.inl ⟨by kernel_rfl, ?_⟩) hS ?_
        · intro w hSw; (try dsimp only at hSw); go_simp
        simp only [Act.put, List.getElem_toArray, List.getElem_cons_zero, List.getElem_cons_succ, List.setIfInBounds_toArray, List.set_cons_zero, List.set_cons_succ]
        refine wpAnyH_take (i := 50) (v := (.int .i64 (ps.length : Int))) rfl (by as_aux_lemma => kernel_rfl) (by as_aux_lemma => kernel_rfl) (by as_aux_lemma => kernel_rfl) (fun _ _ _ h => h) (Or.inl ⟨by kernel_rfl, ?_⟩) hS ?_
        · intro w hSw; (try dsimp only at hSw); go_simp
        simp only [Act.put, List.getElem_toArray, List.getElem_cons_zero, List.getElem_cons_succ, List.setIfInBounds_toArray, List.set_cons_zero, List.set_cons_succ]
        refine wpAnyH_take (i := 51) (v := (.int .i64 M)) rfl (by as_aux_lemma => kernel_rfl) (by as_aux_lemma => kernel_rfl) (by as_aux_lemma => kernel_rfl) (fun _ _ _ h => h) (Or.inl ⟨by kernel_rfl, ?_⟩) hS ?_
        · intro w hSw; (try dsimp only at hSw); go_simp
        simp only [Act.put, List.getElem_toArray, List.getElem_cons_zero, List.getElem_cons_succ, List.setIfInBounds_toArray, List.set_cons_zero, List.set_cons_succ]
        refine wpAnyH_take (i := 52) (v := (.bool true)) rfl (by as_aux_lemma => kernel_rfl) (by as_aux_lemma => kernel_rfl) (by as_aux_lemma => kernel_rfl) (fun _ _ _ h => h) (Or.inl ⟨by kernel_rfl, ?_⟩) hS ?_
        · intro w hSw; (try dsimp only at hSw); go_simp
        simp only [Act.put, List.getElem_toArray, List.getElem_cons_zero, List.getElem_cons_succ, List.setIfInBounds_toArray, List.set_cons_zero, List.set_cons_succ]
        refine wpAnyH_take (i := 53) (v := (.bool true)) rfl (by as_aux_lemma => kernel_rfl) (by as_aux_lemma => kernel_rfl) (by as_aux_lemma => kernel_rfl) (fun _ _ _ h => h) (Or.inl ⟨by kernel_rfl, ?_⟩) hS ?_
        · intro w hSw; (try dsimp only at hSw); go_simp
        simp only [Act.put, List.getElem_toArray, List.getElem_cons_zero, List.getElem_cons_succ, List.setIfInBounds_toArray, List.set_cons_zero, List.set_cons_succ]
        refine wpAnyH_take (i := 54) (v := (.pointer (some ⟨w8.heap.size, 1, none⟩))) rfl (by as_aux_lemma => kernel_rfl) (by as_aux_lemma => kernel_rfl) (by as_aux_lemma => kernel_rfl) (fun _ _ _ h => h) (Or.inl ⟨by kernel_rfl, ?_⟩) hS ?_
        · intro w hSw; (try dsimp only at hSw); go_simp
        simp only [Act.put, List.getElem_toArray, List.getElem_cons_zero, List.getElem_cons_succ, List.setIfInBounds_toArray, List.set_cons_zero, List.set_cons_succ]
        refine wpAnyH_take (i := 55) (v := (.slice aP ps.length kP)) rfl (by as_aux_lemma => kernel_rfl) (by as_aux_lemma => kernel_rfl) (by as_aux_lemma => kernel_rfl) (fun _ _ _ h => h) (Or.inl ⟨by kernel_rfl, ?_⟩) hS ?_
        · intro w hSw; (try dsimp only at hSw); go_simp
        simp only [Act.put, List.getElem_toArray, List.getElem_cons_zero, List.getElem_cons_succ, List.setIfInBounds_toArray, List.set_cons_zero, List.set_cons_succ]
        refine wpAnyH_take (i := 56) (v := (.int .i64 (ps.length : Int))) rfl (by as_aux_lemma => kernel_rfl) (by as_aux_lemma => kernel_rfl) (by as_aux_lemma => kernel_rfl) (fun _ _ _ h => h) (Or.inl ⟨by kernel_rfl, ?_⟩) hS ?_
        · intro w hSw; (try dsimp only at hSw); go_simp
        simp only [Act.put, List.getElem_toArray, List.getElem_cons_zero, List.getElem_cons_succ, List.setIfInBounds_toArray, List.set_cons_zero, List.set_cons_succ]
        refine wpAnyH_take (i := 57) (v := (.int .i64 N)) rfl (by as_aux_lemma => kernel_rfl) (by as_aux_lemma => kernel_rfl) (by as_aux_lemma => kernel_rfl) (fun _ _ _ h => h) (Or.inl ⟨by kernel_rfl, ?_⟩) hS ?_
        · intro w hSw; (try dsimp only at hSw); go_simp
        simp only [Act.put, List.getElem_toArray, List.getElem_cons_zero, List.getElem_cons_succ, List.setIfInBounds_toArray, List.set_cons_zero, List.set_cons_succ]
        refine wpAnyH_take (i := 58) (v := (.bool true)) rfl (by as_aux_lemma => kernel_rfl) (by as_aux_lemma => kernel_rfl) (by as_aux_lemma => kernel_rfl) (fun _ _ _ h => h) (Or.inl ⟨by kernel_rfl, ?_⟩) hS ?_
        · intro w hSw; (try dsimp only at hSw); go_simp
        simp only [Act.put, List.getElem_toArray, List.getElem_cons_zero, List.getElem_cons_succ, List.setIfInBounds_toArray, List.set_cons_zero, List.set_cons_succ]
        refine wpAnyH_take (i := 59) (v := (.bool true)) rfl (by as_aux_lemma => kernel_rfl) (by as_aux_lemma => kernel_rfl) (by as_aux_lemma => kernel_rfl) (fun _ _ _ h => h) (Or.inl ⟨by kernel_rfl, ?_⟩) hS ?_
        · intro w hSw; (try dsimp only at hSw); go_simp
        simp only [Act.put, List.getElem_toArray, List.getElem_cons_zero, List.getElem_cons_succ, List.setIfInBounds_toArray, List.set_cons_zero, List.set_cons_succ]
        refine wpAnyH_take (i := 60) (v := (.bool true)) rfl (by as_aux_lemma => kernel_rfl) (by as_aux_lemma => kernel_rfl) (by as_aux_lemma => kernel_rfl) (fun _ _ _ h => h) (Or.inl ⟨by kernel_rfl, ?_⟩) hS ?_
        · intro w hSw; (try dsimp only at hSw); go_simp
        simp only [Act.put, List.getElem_toArray, List.getElem_cons_zero, List.getElem_cons_succ, List.setIfInBounds_toArray, List.set_cons_zero, List.set_cons_succ]
        refine wpAnyH_take (i := 61) (v := (.pointer (some ⟨w8.heap.size, 1, none⟩))) rfl (by as_aux_lemma => kernel_rfl) (by as_aux_lemma => kernel_rfl) (by as_aux_lemma => kernel_rfl) (fun _ _ _ h => h) (Or.inl ⟨by kernel_rfl, ?_⟩) hS ?_
        · intro w hSw; (try dsimp only at hSw); go_simp
        simp only [Act.put, List.getElem_toArray, List.getElem_cons_zero, List.getElem_cons_succ, List.setIfInBounds_toArray, List.set_cons_zero, List.set_cons_succ]
        refine wpAnyH_take (i := 62) (v := (.slice aP ps.length kP)) rfl (by as_aux_lemma => kernel_rfl) (by as_aux_lemma => kernel_rfl) (by as_aux_lemma => kernel_rfl) (fun _ _ _ h => h) (Or.inl ⟨by kernel_rfl, ?_⟩) hS ?_
        · intro w hSw; (try dsimp only at hSw); go_simp
        simp only [Act.put, List.getElem_toArray, List.getElem_cons_zero, List.getElem_cons_succ, List.setIfInBounds_toArray, List.set_cons_zero, List.set_cons_succ]
        refine wpAnyH_take (i := 63) (v := (.agg #[.slice aG gs.length kG])) rfl (by as_aux_lemma => kernel_rfl) (by as_aux_lemma => kernel_rfl) (by as_aux_lemma => kernel_rfl) (fun _ _ _ h => h) (Or.inl ⟨by kernel_rfl, ?_⟩) hS ?_
        · intro w hSw; (try dsimp only at hSw); go_simp
        simp only [Act.put, List.getElem_toArray, List.getElem_cons_zero, List.getElem_cons_succ, List.setIfInBounds_toArray, List.set_cons_zero, List.set_cons_succ]
        refine wpAnyH_take (i := 64) (v := (.int .i64 A)) rfl (by as_aux_lemma => kernel_rfl) (by as_aux_lemma => kernel_rfl) (by as_aux_lemma => kernel_rfl) (fun _ _ _ h => h) (Or.inl ⟨by kernel_rfl, ?_⟩) hS ?_
        · intro w hSw; (try dsimp only at hSw); go_simp
        simp only [Act.put, List.getElem_toArray, List.getElem_cons_zero, List.getElem_cons_succ, List.setIfInBounds_toArray, List.set_cons_zero, List.set_cons_succ]
        refine wpAnyH_take (i := 65) (v := (.int .i64 N)) rfl (by as_aux_lemma => kernel_rfl) (by as_aux_lemma => kernel_rfl) (by as_aux_lemma => kernel_rfl) (fun _ _ _ h => h) (Or.inl ⟨by kernel_rfl, ?_⟩) hS ?_
        · intro w hSw; (try dsimp only at hSw); go_simp
        simp only [Act.put, List.getElem_toArray, List.getElem_cons_zero, List.getElem_cons_succ, List.setIfInBounds_toArray, List.set_cons_zero, List.set_cons_succ]
        refine wpAnyH_take (i := 66) (v := (.int .i64 M)) rfl (by as_aux_lemma => kernel_rfl) (by as_aux_lemma => kernel_rfl) (by as_aux_lemma => kernel_rfl) (fun _ _ _ h => h) (Or.inl ⟨by kernel_rfl, ?_⟩) hS ?_
        · intro w hSw; (try dsimp only at hSw); go_simp
        simp only [Act.put, List.getElem_toArray, List.getElem_cons_zero, List.getElem_cons_succ, List.setIfInBounds_toArray, List.set_cons_zero, List.set_cons_succ]
        refine wpAnyH_ready (rs := [67]) (by as_aux_lemma => kernel_rfl) (by simp) ?_
        refine AllReadyH.cons rfl (fun K hK => ?_) AllReadyH.nil
        go_simp
        refine Calls.mono (HSR.out _ rG.read) ?_
        rintro e v5 ⟨vS2, rfl, rS2, hc⟩
        refine hK.out _ _ ⟨cell_later hc hS.1, cell_later hc hS.2.1, cell_later hc hS.2.2.1, cell_later hc hS.2.2.2.1, cell_later hc hS.2.2.2.2.1, cell_later hc hS.2.2.2.2.2.1, cell_later hc hS.2.2.2.2.2.2.1, cell_later hc hS.2.2.2.2.2.2.2.1, cell_later hc hS.2.2.2.2.2.2.2.2.1, cell_later hc hS.2.2.2.2.2.2.2.2.2⟩ (fun hS => ?_)
        clear hK K
        replace rf := rf.below hc
        replace rd := rd.below hc
        replace rA := rA.below hc
        replace rC := rC.below hc
        replace rX := rX.below hc
        replace rY := rY.below hc
        replace rG := rG.below hc
        replace rP := rP.below hc
        replace rH := rH.below hc
        replace hb := hb.trans (hc.mono hb.size)
        have sv5 := hc.size
        clear hc
        obtain ⟨aS2, kS2, rfl, _⟩ := rS2.shape
        refine wpAnyH_take (i := 68) (v := (.slice aS2 ps.length kS2)) rfl (by as_aux_lemma => kernel_rfl) (by as_aux_lemma => kernel_rfl) (by as_aux_lemma => kernel_rfl) (fun _ _ _ h => h) (Or.inl ⟨by kernel_rfl, ?_⟩) hS ?_
        · intro w hSw; (try dsimp only at hSw); go_simp
        simp only [Act.put, List.getElem_toArray, List.getElem_cons_zero, List.getElem_cons_succ, List.setIfInBounds_toArray, List.set_cons_zero, List.set_cons_succ]
        refine wpAnyH_ready (rs := [69]) (by as_aux_lemma => kernel_rfl) (by simp) ?_
        refine AllReadyH.cons rfl (fun K hK => ?_) AllReadyH.nil
        go_simp
        refine Calls.mono (lwSame_yes aP aS2 ps.length kP kS2 ps _ rP.read rS2.read) ?_
        rintro e v' ⟨rfl, hv'⟩
        rw [hv']
        clear hv' v'
        refine hK.out _ _ hS (fun hS => ?_)
        clear hK K
        refine wpAnyH_take (i := 70) (v := (.bool true)) rfl (by as_aux_lemma => kernel_rfl) (by as_aux_lemma => kernel_rfl) (by as_aux_lemma => kernel_rfl) (fun _ _ _ h => h) (Or.inl ⟨by kernel_rfl, ?_⟩) hS ?_
        · intro w hSw; (try dsimp only at hSw); go_simp
        simp only [Act.put, List.getElem_toArray, List.getElem_cons_zero, List.getElem_cons_succ, List.setIfInBounds_toArray, List.set_cons_zero, List.set_cons_succ]
        refine wpAnyH_take (i := 71) (v := (.bool true)) rfl (by as_aux_lemma => kernel_rfl) (by as_aux_lemma => kernel_rfl) (by as_aux_lemma => kernel_rfl) (fun _ _ _ h => h) (Or.inl ⟨by kernel_rfl, ?_⟩) hS ?_
        · intro w hSw; (try dsimp only at hSw); go_simp
        simp only [Act.put, List.getElem_toArray, List.getElem_cons_zero, List.getElem_cons_succ, List.setIfInBounds_toArray, List.set_cons_zero, List.set_cons_succ]
        refine wpAnyH_take (i := 72) (v := (.bool true)) rfl (by as_aux_lemma => kernel_rfl) (by as_aux_lemma => kernel_rfl) (by as_aux_lemma => kernel_rfl) (fun _ _ _ h => h) (Or.inl ⟨by kernel_rfl, ?_⟩) hS ?_
        · intro w hSw; (try dsimp only at hSw); go_simp
        simp only [Act.put, List.getElem_toArray, List.getElem_cons_zero, List.getElem_cons_succ, List.setIfInBounds_toArray, List.set_cons_zero, List.set_cons_succ]
        refine wpAnyH_take (i := 73) (v := (.bool true)) rfl (by as_aux_lemma => kernel_rfl) (by as_aux_lemma => kernel_rfl) (by as_aux_lemma => kernel_rfl) (fun _ _ _ h => h) (Or.inl ⟨by kernel_rfl, ?_⟩) hS ?_
        · intro w hSw; (try dsimp only at hSw); go_simp
        simp only [Act.put, List.getElem_toArray, List.getElem_cons_zero, List.getElem_cons_succ, List.setIfInBounds_toArray, List.set_cons_zero, List.set_cons_succ]
        refine wpAnyH_take (i := 74) (v := (.agg #[.slice aH hs.length kH])) rfl (by as_aux_lemma => kernel_rfl) (by as_aux_lemma => kernel_rfl) (by as_aux_lemma => kernel_rfl) (fun _ _ _ h => h) (Or.inl ⟨by kernel_rfl, ?_⟩) hS ?_
        · intro w hSw; (try dsimp only at hSw); go_simp
        simp only [Act.put, List.getElem_toArray, List.getElem_cons_zero, List.getElem_cons_succ, List.setIfInBounds_toArray, List.set_cons_zero, List.set_cons_succ]
        refine wpAnyH_take (i := 75) (v := (.int .i64 E)) rfl (by as_aux_lemma => kernel_rfl) (by as_aux_lemma => kernel_rfl) (by as_aux_lemma => kernel_rfl) (fun _ _ _ h => h) (Or.inl ⟨by kernel_rfl, ?_⟩) hS ?_
        · intro w hSw; (try dsimp only at hSw); go_simp
        simp only [Act.put, List.getElem_toArray, List.getElem_cons_zero, List.getElem_cons_succ, List.setIfInBounds_toArray, List.set_cons_zero, List.set_cons_succ]
        refine wpAnyH_take (i := 78) (v := (.agg #[.slice aH hs.length kH])) rfl (by as_aux_lemma => kernel_rfl) (by as_aux_lemma => kernel_rfl) (by as_aux_lemma => kernel_rfl) (fun _ _ _ h => h) (Or.inl ⟨by kernel_rfl, ?_⟩) hS ?_
        · intro w hSw; (try dsimp only at hSw); go_simp
        simp only [Act.put, List.getElem_toArray, List.getElem_cons_zero, List.getElem_cons_succ, List.setIfInBounds_toArray, List.set_cons_zero, List.set_cons_succ]
        refine wpAnyH_take (i := 79) (v := (.int .i64 E)) rfl (by as_aux_lemma => kernel_rfl) (by as_aux_lemma => kernel_rfl) (by as_aux_lemma => kernel_rfl) (fun _ _ _ h => h) (Or.inl ⟨by kernel_rfl, ?_⟩) hS ?_
        · intro w hSw; (try dsimp only at hSw); go_simp
        simp only [Act.put, List.getElem_toArray, List.getElem_cons_zero, List.getElem_cons_succ, List.setIfInBounds_toArray, List.set_cons_zero, List.set_cons_succ]
        refine wpAnyH_ready (rs := [76]) (by as_aux_lemma => kernel_rfl) (by simp) ?_
        refine AllReadyH.cons rfl (fun K hK => ?_) AllReadyH.nil
        go_simp
        refine Calls.mono (HICH.out _ rH.read) ?_
        rintro e v7 ⟨vh1, rfl, hc⟩
        refine hK.out _ _ ⟨cell_later hc hS.1, cell_later hc hS.2.1, cell_later hc hS.2.2.1, cell_later hc hS.2.2.2.1, cell_later hc hS.2.2.2.2.1, cell_later hc hS.2.2.2.2.2.1, cell_later hc hS.2.2.2.2.2.2.1, cell_later hc hS.2.2.2.2.2.2.2.1, cell_later hc hS.2.2.2.2.2.2.2.2.1, cell_later hc hS.2.2.2.2.2.2.2.2.2⟩ (fun hS => ?_)
        clear hK K
        replace rf := rf.below hc
        replace rd := rd.below hc
        replace rA := rA.below hc
        replace rC := rC.below hc
        replace rX := rX.below hc
        replace rY := rY.below hc
        replace rG := rG.below hc
        replace rP := rP.below hc
        replace rH := rH.below hc
        replace hb := hb.trans (hc.mono hb.size)
        have sv7 := hc.size
        clear hc
        refine wpAnyH_take (i := 77) (v := (.int .i64 hcd)) rfl (by as_aux_lemma => kernel_rfl) (by as_aux_lemma => kernel_rfl) (by as_aux_lemma => kernel_rfl) (fun _ _ _ h => h) (Or.inl ⟨by kernel_rfl, ?_⟩) hS ?_
        · intro w hSw; (try dsimp only at hSw); go_simp
        simp only [Act.put, List.getElem_toArray, List.getElem_cons_zero, List.getElem_cons_succ, List.setIfInBounds_toArray, List.set_cons_zero, List.set_cons_succ]
        refine wpAnyH_ready (rs := [80]) (by as_aux_lemma => kernel_rfl) (by simp) ?_
        refine AllReadyH.cons rfl (fun K hK => ?_) AllReadyH.nil
        go_simp
        refine Calls.mono (HSCH.out _ rH.read) ?_
        rintro e v8 ⟨vh2, rfl, hc⟩
        refine hK.out _ _ ⟨cell_later hc hS.1, cell_later hc hS.2.1, cell_later hc hS.2.2.1, cell_later hc hS.2.2.2.1, cell_later hc hS.2.2.2.2.1, cell_later hc hS.2.2.2.2.2.1, cell_later hc hS.2.2.2.2.2.2.1, cell_later hc hS.2.2.2.2.2.2.2.1, cell_later hc hS.2.2.2.2.2.2.2.2.1, cell_later hc hS.2.2.2.2.2.2.2.2.2⟩ (fun hS => ?_)
        clear hK K
        replace rf := rf.below hc
        replace rd := rd.below hc
        replace rA := rA.below hc
        replace rC := rC.below hc
        replace rX := rX.below hc
        replace rY := rY.below hc
        replace rG := rG.below hc
        replace rP := rP.below hc
        replace rH := rH.below hc
        replace hb := hb.trans (hc.mono hb.size)
        have sv8 := hc.size
        clear hc
        refine wpAnyH_take (i := 81) (v := (.int .i64 hcd)) rfl (by as_aux_lemma => kernel_rfl) (by as_aux_lemma => kernel_rfl) (by as_aux_lemma => kernel_rfl) (fun _ _ _ h => h) (Or.inl ⟨by kernel_rfl, ?_⟩) hS ?_
        · intro w hSw; (try dsimp only at hSw); go_simp
        simp only [Act.put, List.getElem_toArray, List.getElem_cons_zero, List.getElem_cons_succ, List.setIfInBounds_toArray, List.set_cons_zero, List.set_cons_succ]
        refine wpAnyH_take (i := 82) (v := (.bool true)) rfl (by as_aux_lemma => kernel_rfl) (by as_aux_lemma => kernel_rfl) (by as_aux_lemma => kernel_rfl) (fun _ _ _ h => h) (Or.inl ⟨by kernel_rfl, ?_⟩) hS ?_
        · intro w hSw; (try dsimp only at hSw); go_simp
        simp only [Act.put, List.getElem_toArray, List.getElem_cons_zero, List.getElem_cons_succ, List.setIfInBounds_toArray, List.set_cons_zero, List.set_cons_succ]
        refine wpAnyH_take (i := 83) (v := (.bool true)) rfl (by as_aux_lemma => kernel_rfl) (by as_aux_lemma => kernel_rfl) (by as_aux_lemma => kernel_rfl) (fun _ _ _ h => h) (Or.inl ⟨by kernel_rfl, ?_⟩) hS ?_
        · intro w hSw; (try dsimp only at hSw); go_simp
        simp only [Act.put, List.getElem_toArray, List.getElem_cons_zero, List.getElem_cons_succ, List.setIfInBounds_toArray, List.set_cons_zero, List.set_cons_succ]
        refine wpAnyH_take (i := 84) (v := (.bool true)) rfl (by as_aux_lemma => kernel_rfl) (by as_aux_lemma => kernel_rfl) (by as_aux_lemma => kernel_rfl) (fun _ _ _ h => h) (Or.inl ⟨by kernel_rfl, ?_⟩) hS ?_
        · intro w hSw; (try dsimp only at hSw); go_simp
        simp only [Act.put, List.getElem_toArray, List.getElem_cons_zero, List.getElem_cons_succ, List.setIfInBounds_toArray, List.set_cons_zero, List.set_cons_succ]
        refine wpAnyH_take (i := 85) (v := (.pointer (some ⟨w2.heap.size, 1, none⟩))) rfl (by as_aux_lemma => kernel_rfl) (by as_aux_lemma => kernel_rfl) (by as_aux_lemma => kernel_rfl) (fun _ _ _ h => h) (Or.inl ⟨by kernel_rfl, ?_⟩) hS ?_
        · intro w hSw; (try dsimp only at hSw); go_simp
        simp only [Act.put, List.getElem_toArray, List.getElem_cons_zero, List.getElem_cons_succ, List.setIfInBounds_toArray, List.set_cons_zero, List.set_cons_succ]
        refine wpAnyH_take (i := 86) (v := (.pointer (some ⟨w2.heap.size, 1, none⟩))) rfl (by as_aux_lemma => kernel_rfl) (by as_aux_lemma => kernel_rfl) (by as_aux_lemma => kernel_rfl) (fun _ _ _ h => h) (Or.inl ⟨by kernel_rfl, ?_⟩) hS ?_
        · intro w hSw; (try dsimp only at hSw); go_simp
        simp only [Act.put, List.getElem_toArray, List.getElem_cons_zero, List.getElem_cons_succ, List.setIfInBounds_toArray, List.set_cons_zero, List.set_cons_succ]
        refine wpAnyH_take (i := 87) (v := (.slice aA (ys.length + zs.length) kA)) rfl (by as_aux_lemma => kernel_rfl) (by as_aux_lemma => kernel_rfl) (by as_aux_lemma => kernel_rfl) (fun _ _ _ h => h) (Or.inl ⟨by kernel_rfl, ?_⟩) hS ?_
        · intro w hSw; (try dsimp only at hSw); go_simp
        simp only [Act.put, List.getElem_toArray, List.getElem_cons_zero, List.getElem_cons_succ, List.setIfInBounds_toArray, List.set_cons_zero, List.set_cons_succ]
        refine wpAnyH_take (i := 88) (v := (.int .i64 ((ys.length : Int) + (zs.length : Int)))) rfl (by as_aux_lemma => kernel_rfl) (by as_aux_lemma => kernel_rfl) (by as_aux_lemma => kernel_rfl) (fun _ _ _ h => h) (Or.inl ⟨by kernel_rfl, ?_⟩) hS ?_
        · intro w hSw; (try dsimp only at hSw); go_simp
        simp only [Act.put, List.getElem_toArray, List.getElem_cons_zero, List.getElem_cons_succ, List.setIfInBounds_toArray, List.set_cons_zero, List.set_cons_succ]
        refine wpAnyH_take (i := 89) (v := (.pointer (some ⟨w1.heap.size, 0, none⟩))) rfl (by as_aux_lemma => kernel_rfl) (by as_aux_lemma => kernel_rfl) (by as_aux_lemma => kernel_rfl) (fun _ _ _ h => h) (Or.inl ⟨by kernel_rfl, ?_⟩) hS ?_
        · intro w hSw; (try dsimp only at hSw); go_simp
        simp only [Act.put, List.getElem_toArray, List.getElem_cons_zero, List.getElem_cons_succ, List.setIfInBounds_toArray, List.set_cons_zero, List.set_cons_succ]
        refine wpAnyH_take (i := 90) (v := (.slice af ys.length kf)) rfl (by as_aux_lemma => kernel_rfl) (by as_aux_lemma => kernel_rfl) (by as_aux_lemma => kernel_rfl) (fun _ _ _ h => h) (Or.inl ⟨by kernel_rfl, ?_⟩) hS ?_
        · intro w hSw; (try dsimp only at hSw); go_simp
        simp only [Act.put, List.getElem_toArray, List.getElem_cons_zero, List.getElem_cons_succ, List.setIfInBounds_toArray, List.set_cons_zero, List.set_cons_succ]
        refine wpAnyH_take (i := 91) (v := (.int .i64 (ys.length : Int))) rfl (by as_aux_lemma => kernel_rfl) (by as_aux_lemma => kernel_rfl) (by as_aux_lemma => kernel_rfl) (fun _ _ _ h => h) (Or.inl ⟨by kernel_rfl, ?_⟩) hS ?_
        · intro w hSw; (try dsimp only at hSw); go_simp
        simp only [Act.put, List.getElem_toArray, List.getElem_cons_zero, List.getElem_cons_succ, List.setIfInBounds_toArray, List.set_cons_zero, List.set_cons_succ]
        refine wpAnyH_take (i := 92) (v := (.slice ad zs.length kd)) rfl (by as_aux_lemma => kernel_rfl) (by as_aux_lemma => kernel_rfl) (by as_aux_lemma => kernel_rfl) (fun _ _ _ h => h) (Or.inl ⟨by kernel_rfl, ?_⟩) hS ?_
        · intro w hSw; (try dsimp only at hSw); go_simp
        simp only [Act.put, List.getElem_toArray, List.getElem_cons_zero, List.getElem_cons_succ, List.setIfInBounds_toArray, List.set_cons_zero, List.set_cons_succ]
        refine wpAnyH_take (i := 93) (v := (.int .i64 (zs.length : Int))) rfl (by as_aux_lemma => kernel_rfl) (by as_aux_lemma => kernel_rfl) (by as_aux_lemma => kernel_rfl) (fun _ _ _ h => h) (Or.inl ⟨by kernel_rfl, ?_⟩) hS ?_
        · intro w hSw; (try dsimp only at hSw); go_simp
        simp only [Act.put, List.getElem_toArray, List.getElem_cons_zero, List.getElem_cons_succ, List.setIfInBounds_toArray, List.set_cons_zero, List.set_cons_succ]
        refine wpAnyH_take (i := 94) (v := (.int .i64 ((ys.length : Int) + (zs.length : Int)))) rfl (by as_aux_lemma => kernel_rfl) (by as_aux_lemma => kernel_rfl) (by as_aux_lemma => kernel_rfl) (fun _ _ _ h => h) (Or.inl ⟨by kernel_rfl, ?_⟩) hS ?_
        · intro w hSw; (try dsimp only at hSw); go_simp
        simp only [Act.put, List.getElem_toArray, List.getElem_cons_zero, List.getElem_cons_succ, List.setIfInBounds_toArray, List.set_cons_zero, List.set_cons_succ]
        refine wpAnyH_take (i := 95) (v := (.bool true)) rfl (by as_aux_lemma => kernel_rfl) (by as_aux_lemma => kernel_rfl) (by as_aux_lemma => kernel_rfl) (fun _ _ _ h => h) (Or.inl ⟨by kernel_rfl, ?_⟩) hS ?_
        · intro w hSw; (try dsimp only at hSw); go_simp
        simp only [Act.put, List.getElem_toArray, List.getElem_cons_zero, List.getElem_cons_succ, List.setIfInBounds_toArray, List.set_cons_zero, List.set_cons_succ]
        refine wpAnyH_take (i := 96) (v := (.bool true)) rfl (by as_aux_lemma => kernel_rfl) (by as_aux_lemma => kernel_rfl) (by as_aux_lemma => kernel_rfl) (fun _ _ _ h => h) (Or.inl ⟨by kernel_rfl, ?_⟩) hS ?_
        · intro w hSw; (try dsimp only at hSw); go_simp
        simp only [Act.put, List.getElem_toArray, List.getElem_cons_zero, List.getElem_cons_succ, List.setIfInBounds_toArray, List.set_cons_zero, List.set_cons_succ]
        refine wpAnyH_take (i := 97) (v := (.bool true)) rfl (by as_aux_lemma => kernel_rfl) (by as_aux_lemma => kernel_rfl) (by as_aux_lemma => kernel_rfl) (fun _ _ _ h => h) (Or.inl ⟨by kernel_rfl, ?_⟩) hS ?_
        · intro w hSw; (try dsimp only at hSw); go_simp
        simp only [Act.put, List.getElem_toArray, List.getElem_cons_zero, List.getElem_cons_succ, List.setIfInBounds_toArray, List.set_cons_zero, List.set_cons_succ]
        refine wpAnyH_done (by kernel_rfl) ?_ _
        clear hS
        go_wp2
        all_goals go_ret
        all_goals exact ⟨rfl, hb⟩
      · have hpc' : (pc != 0) = true := by simpa using hpc
        refine wpAnyH_take (i := 46) (v := (.bool true)) rfl (by as_aux_lemma => kernel_rfl) (by as_aux_lemma => kernel_rfl) (by as_aux_lemma => kernel_rfl) (fun _ _ _ h => h) (Or.inl ⟨by kernel_rfl, ?_⟩) hS ?_
        · intro w hSw; (try dsimp only at hSw); go_simp
        simp only [Act.put, List.getElem_toArray, List.getElem_cons_zero, List.getElem_cons_succ, List.setIfInBounds_toArray, List.set_cons_zero, List.set_cons_succ]
        refine wpAnyH_take (i := 47) (v := (.bool true)) rfl (by as_aux_lemma => kernel_rfl) (by as_aux_lemma => kernel_rfl) (by as_aux_lemma => kernel_rfl) (fun _ _ _ h => h) (Or.inl ⟨by kernel_rfl, ?_⟩) hS ?_
        · intro w hSw; (try dsimp only at hSw); go_simp
        simp only [Act.put, List.getElem_toArray, List.getElem_cons_zero, List.getElem_cons_succ, List.setIfInBounds_toArray, List.set_cons_zero, List.set_cons_succ]
        refine wpAnyH_take (i := 48) (v := undef) rfl (by as_aux_lemma => kernel_rfl) (by as_aux_lemma => kernel_rfl) (by as_aux_lemma => kernel_rfl) (fun _ _ _ h => h) (Or.inr ⟨by kernel_rfl, rfl⟩) hS ?_
        simp only [Act.put, List.getElem_toArray, List.getElem_cons_zero, List.getElem_cons_succ, List.setIfInBounds_toArray, List.set_cons_zero, List.set_cons_succ]
        refine wpAnyH_take (i := 49) (v := undef) rfl (by as_aux_lemma => kernel_rfl) (by as_aux_lemma => kernel_rfl) (by as_aux_lemma => kernel_rfl) (fun _ _ _ h => h) (Or.inr ⟨by kernel_rfl, rfl⟩) hS ?_
        simp only [Act.put, List.getElem_toArray, List.getElem_cons_zero, List.getElem_cons_succ, List.setIfInBounds_toArray, List.set_cons_zero, List.set_cons_succ]
        refine wpAnyH_take (i := 50) (v := undef) rfl (by as_aux_lemma => kernel_rfl) (by as_aux_lemma => kernel_rfl) (by as_aux_lemma => kernel_rfl) (fun _ _ _ h => h) (Or.inr ⟨by kernel_rfl, rfl⟩) hS ?_
        simp only [Act.put, List.getElem_toArray, List.getElem_cons_zero, List.getElem_cons_succ, List.setIfInBounds_toArray, List.set_cons_zero, List.set_cons_succ]
        refine wpAnyH_take (i := 51) (v := undef) rfl (by as_aux_lemma => kernel_rfl) (by as_aux_lemma => kernel_rfl) (by as_aux_lemma => kernel_rfl) (fun _ _ _ h => h) (Or.inr ⟨by kernel_rfl, rfl⟩) hS ?_
        simp only [Act.put, List.getElem_toArray, List.getElem_cons_zero, List.getElem_cons_succ, List.setIfInBounds_toArray, List.set_cons_zero, List.set_cons_succ]
        refine wpAnyH_take (i := 52) (v := undef) rfl (by as_aux_lemma => kernel_rfl) (by as_aux_lemma => kernel_rfl) (by as_aux_lemma => kernel_rfl) (fun _ _ _ h => h) (Or.inr ⟨by kernel_rfl, rfl⟩) hS ?_
        simp only [Act.put, List.getElem_toArray, List.getElem_cons_zero, List.getElem_cons_succ, List.setIfInBounds_toArray, List.set_cons_zero, List.set_cons_succ]
        refine wpAnyH_take (i := 53) (v := undef) rfl (by as_aux_lemma => kernel_rfl) (by as_aux_lemma => kernel_rfl) (by as_aux_lemma => kernel_rfl) (fun _ _ _ h => h) (Or.inr ⟨by kernel_rfl, rfl⟩) hS ?_
        simp only [Act.put, List.getElem_toArray, List.getElem_cons_zero, List.getElem_cons_succ, List.setIfInBounds_toArray, List.set_cons_zero, List.set_cons_succ]
        refine wpAnyH_take (i := 54) (v := undef) rfl (by as_aux_lemma => kernel_rfl) (by as_aux_lemma => kernel_rfl) (by as_aux_lemma => kernel_rfl) (fun _ _ _ h => h) (Or.inr ⟨by kernel_rfl, rfl⟩) hS ?_
        simp only [Act.put, List.getElem_toArray, List.getElem_cons_zero, List.getElem_cons_succ, List.setIfInBounds_toArray, List.set_cons_zero, List.set_cons_succ]
        refine wpAnyH_take (i := 55) (v := undef) rfl (by as_aux_lemma => kernel_rfl) (by as_aux_lemma => kernel_rfl) (by as_aux_lemma => kernel_rfl) (fun _ _ _ h => h) (Or.inr ⟨by kernel_rfl, rfl⟩) hS ?_
        simp only [Act.put, List.getElem_toArray, List.getElem_cons_zero, List.getElem_cons_succ, List.setIfInBounds_toArray, List.set_cons_zero, List.set_cons_succ]
        refine wpAnyH_take (i := 56) (v := undef) rfl (by as_aux_lemma => kernel_rfl) (by as_aux_lemma => kernel_rfl) (by as_aux_lemma => kernel_rfl) (fun _ _ _ h => h) (Or.inr ⟨by kernel_rfl, rfl⟩) hS ?_
        simp only [Act.put, List.getElem_toArray, List.getElem_cons_zero, List.getElem_cons_succ, List.setIfInBounds_toArray, List.set_cons_zero, List.set_cons_succ]
        refine wpAnyH_take (i := 57) (v := undef) rfl (by as_aux_lemma => kernel_rfl) (by as_aux_lemma => kernel_rfl) (by as_aux_lemma => kernel_rfl) (fun _ _ _ h => h) (Or.inr ⟨by kernel_rfl, rfl⟩) hS ?_
        simp only [Act.put, List.getElem_toArray, List.getElem_cons_zero, List.getElem_cons_succ, List.setIfInBounds_toArray, List.set_cons_zero, List.set_cons_succ]
        refine wpAnyH_take (i := 58) (v := undef) rfl (by as_aux_lemma => kernel_rfl) (by as_aux_lemma => kernel_rfl) (by as_aux_lemma => kernel_rfl) (fun _ _ _ h => h) (Or.inr ⟨by kernel_rfl, rfl⟩) hS ?_
        simp only [Act.put, List.getElem_toArray, List.getElem_cons_zero, List.getElem_cons_succ, List.setIfInBounds_toArray, List.set_cons_zero, List.set_cons_succ]
        refine wpAnyH_take (i := 59) (v := undef) rfl (by as_aux_lemma => kernel_rfl) (by as_aux_lemma => kernel_rfl) (by as_aux_lemma => kernel_rfl) (fun _ _ _ h => h) (Or.inr ⟨by kernel_rfl, rfl⟩) hS ?_
        simp only [Act.put, List.getElem_toArray, List.getElem_cons_zero, List.getElem_cons_succ, List.setIfInBounds_toArray, List.set_cons_zero, List.set_cons_succ]
        refine wpAnyH_take (i := 60) (v := undef) rfl (by as_aux_lemma => kernel_rfl) (by as_aux_lemma => kernel_rfl) (by as_aux_lemma => kernel_rfl) (fun _ _ _ h => h) (Or.inr ⟨by kernel_rfl, rfl⟩) hS ?_
        simp only [Act.put, List.getElem_toArray, List.getElem_cons_zero, List.getElem_cons_succ, List.setIfInBounds_toArray, List.set_cons_zero, List.set_cons_succ]
        refine wpAnyH_take (i := 61) (v := undef) rfl (by as_aux_lemma => kernel_rfl) (by as_aux_lemma => kernel_rfl) (by as_aux_lemma => kernel_rfl) (fun _ _ _ h => h) (Or.inr ⟨by kernel_rfl, rfl⟩) hS ?_
        simp only [Act.put, List.getElem_toArray, List.getElem_cons_zero, List.getElem_cons_succ, List.setIfInBounds_toArray, List.set_cons_zero, List.set_cons_succ]
        refine wpAnyH_take (i := 62) (v := undef) rfl (by as_aux_lemma => kernel_rfl) (by as_aux_lemma => kernel_rfl) (by as_aux_lemma => kernel_rfl) (fun _ _ _ h => h) (Or.inr ⟨by kernel_rfl, rfl⟩) hS ?_
        simp only [Act.put, List.getElem_toArray, List.getElem_cons_zero, List.getElem_cons_succ, List.setIfInBounds_toArray, List.set_cons_zero, List.set_cons_succ]
        refine wpAnyH_take (i := 63) (v := undef) rfl (by as_aux_lemma => kernel_rfl) (by as_aux_lemma => kernel_rfl) (by as_aux_lemma => kernel_rfl) (fun _ _ _ h => h) (Or.inr ⟨by kernel_rfl, rfl⟩) hS ?_
        simp only [Act.put, List.getElem_toArray, List.getElem_cons_zero, List.getElem_cons_succ, List.setIfInBounds_toArray, List.set_cons_zero, List.set_cons_succ]
        refine wpAnyH_take (i := 64) (v := undef) rfl (by as_aux_lemma => kernel_rfl) (by as_aux_lemma => kernel_rfl) (by as_aux_lemma => kernel_rfl) (fun _ _ _ h => h) (Or.inr ⟨by kernel_rfl, rfl⟩) hS ?_
        simp only [Act.put, List.getElem_toArray, List.getElem_cons_zero, List.getElem_cons_succ, List.setIfInBounds_toArray, List.set_cons_zero, List.set_cons_succ]
        refine wpAnyH_take (i := 65) (v := undef) rfl (by as_aux_lemma => kernel_rfl) (by as_aux_lemma => kernel_rfl) (by as_aux_lemma => kernel_rfl) (fun _ _ _ h => h) (Or.inr ⟨by kernel_rfl, rfl⟩) hS ?_
        simp only [Act.put, List.getElem_toArray, List.getElem_cons_zero, List.getElem_cons_succ, List.setIfInBounds_toArray, List.set_cons_zero, List.set_cons_succ]
        refine wpAnyH_take (i := 66) (v := undef) rfl (by as_aux_lemma => kernel_rfl) (by as_aux_lemma => kernel_rfl) (by as_aux_lemma => kernel_rfl) (fun _ _ _ h => h) (Or.inr ⟨by kernel_rfl, rfl⟩) hS ?_
        simp only [Act.put, List.getElem_toArray, List.getElem_cons_zero, List.getElem_cons_succ, List.setIfInBounds_toArray, List.set_cons_zero, List.set_cons_succ]
        refine wpAnyH_take (i := 67) (v := undef) rfl (by as_aux_lemma => kernel_rfl) (by as_aux_lemma => kernel_rfl) (by as_aux_lemma => kernel_rfl) (fun _ _ _ h => h) (Or.inr ⟨by kernel_rfl, rfl⟩) hS ?_
        simp only [Act.put, List.getElem_toArray, List.getElem_cons_zero, List.getElem_cons_succ, List.setIfInBounds_toArray, List.set_cons_zero, List.set_cons_succ]
        refine wpAnyH_take (i := 68) (v := undef) rfl (by as_aux_lemma => kernel_rfl) (by as_aux_lemma => kernel_rfl) (by as_aux_lemma => kernel_rfl) (fun _ _ _ h => h) (Or.inr ⟨by kernel_rfl, rfl⟩) hS ?_
        simp only [Act.put, List.getElem_toArray, List.getElem_cons_zero, List.getElem_cons_succ, List.setIfInBounds_toArray, List.set_cons_zero, List.set_cons_succ]
        refine wpAnyH_take (i := 69) (v := undef) rfl (by as_aux_lemma => kernel_rfl) (by as_aux_lemma => kernel_rfl) (by as_aux_lemma => kernel_rfl) (fun _ _ _ h => h) (Or.inr ⟨by kernel_rfl, rfl⟩) hS ?_
        simp only [Act.put, List.getElem_toArray, List.getElem_cons_zero, List.getElem_cons_succ, List.setIfInBounds_toArray, List.set_cons_zero, List.set_cons_succ]
        refine wpAnyH_take (i := 70) (v := undef) rfl (by as_aux_lemma => kernel_rfl) (by as_aux_lemma => kernel_rfl) (by as_aux_lemma => kernel_rfl) (fun _ _ _ h => h) (Or.inr ⟨by kernel_rfl, rfl⟩) hS ?_
        simp only [Act.put, List.getElem_toArray, List.getElem_cons_zero, List.getElem_cons_succ, List.setIfInBounds_toArray, List.set_cons_zero, List.set_cons_succ]
        refine wpAnyH_take (i := 71) (v := (.bool true)) rfl (by as_aux_lemma => kernel_rfl) (by as_aux_lemma => kernel_rfl) (by as_aux_lemma => kernel_rfl) (fun _ _ _ h => h) (Or.inl ⟨by kernel_rfl, ?_⟩) hS ?_
        · intro w hSw; (try dsimp only at hSw); go_simp
        simp only [Act.put, List.getElem_toArray, List.getElem_cons_zero, List.getElem_cons_succ, List.setIfInBounds_toArray, List.set_cons_zero, List.set_cons_succ]
        refine wpAnyH_take (i := 72) (v := (.bool true)) rfl (by as_aux_lemma => kernel_rfl) (by as_aux_lemma => kernel_rfl) (by as_aux_lemma => kernel_rfl) (fun _ _ _ h => h) (Or.inl ⟨by kernel_rfl, ?_⟩) hS ?_
        · intro w hSw; (try dsimp only at hSw); go_simp
        simp only [Act.put, List.getElem_toArray, List.getElem_cons_zero, List.getElem_cons_succ, List.setIfInBounds_toArray, List.set_cons_zero, List.set_cons_succ]
        refine wpAnyH_take (i := 73) (v := (.bool true)) rfl (by as_aux_lemma => kernel_rfl) (by as_aux_lemma => kernel_rfl) (by as_aux_lemma => kernel_rfl) (fun _ _ _ h => h) (Or.inl ⟨by kernel_rfl, ?_⟩) hS ?_
        · intro w hSw; (try dsimp only at hSw); go_simp
        simp only [Act.put, List.getElem_toArray, List.getElem_cons_zero, List.getElem_cons_succ, List.setIfInBounds_toArray, List.set_cons_zero, List.set_cons_succ]
        refine wpAnyH_take (i := 74) (v := (.agg #[.slice aH hs.length kH])) rfl (by as_aux_lemma => kernel_rfl) (by as_aux_lemma => kernel_rfl) (by as_aux_lemma => kernel_rfl) (fun _ _ _ h => h) (Or.inl ⟨by kernel_rfl, ?_⟩) hS ?_
        · intro w hSw; (try dsimp only at hSw); go_simp
        simp only [Act.put, List.getElem_toArray, List.getElem_cons_zero, List.getElem_cons_succ, List.setIfInBounds_toArray, List.set_cons_zero, List.set_cons_succ]
        refine wpAnyH_take (i := 75) (v := (.int .i64 E)) rfl (by as_aux_lemma => kernel_rfl) (by as_aux_lemma => kernel_rfl) (by as_aux_lemma => kernel_rfl) (fun _ _ _ h => h) (Or.inl ⟨by kernel_rfl, ?_⟩) hS ?_
        · intro w hSw; (try dsimp only at hSw); go_simp
        simp only [Act.put, List.getElem_toArray, List.getElem_cons_zero, List.getElem_cons_succ, List.setIfInBounds_toArray, List.set_cons_zero, List.set_cons_succ]
        refine wpAnyH_take (i := 78) (v := (.agg #[.slice aH hs.length kH])) rfl (by as_aux_lemma => kernel_rfl) (by as_aux_lemma => kernel_rfl) (by as_aux_lemma => kernel_rfl) (fun _ _ _ h => h) (Or.inl ⟨by kernel_rfl, ?_⟩) hS ?_
        · intro w hSw; (try dsimp only at hSw); go_simp
        simp only [Act.put, List.getElem_toArray, List.getElem_cons_zero, List.getElem_cons_succ, List.setIfInBounds_toArray, List.set_cons_zero, List.set_cons_succ]
        refine wpAnyH_take (i := 79) (v := (.int .i64 E)) rfl (by as_aux_lemma => kernel_rfl) (by as_aux_lemma => kernel_rfl) (by as_aux_lemma => kernel_rfl) (fun _ _ _ h => h) (Or.inl ⟨by kernel_rfl, ?_⟩) hS ?_
        · intro w hSw; (try dsimp only at hSw); go_simp
        simp only [Act.put, List.getElem_toArray, List.getElem_cons_zero, List.getElem_cons_succ, List.setIfInBounds_toArray, List.set_cons_zero, List.set_cons_succ]
        refine wpAnyH_ready (rs := [76]) (by as_aux_lemma => kernel_rfl) (by simp) ?_
        refine AllReadyH.cons rfl (fun K hK => ?_) AllReadyH.nil
        go_simp
        refine Calls.mono (HICH.out _ rH.read) ?_
        rintro e v5 ⟨vh1, rfl, hc⟩
        refine hK.out _ _ ⟨cell_later hc hS.1, cell_later hc hS.2.1, cell_later hc hS.2.2.1, cell_later hc hS.2.2.2.1, cell_later hc hS.2.2.2.2.1, cell_later hc hS.2.2.2.2.2.1, cell_later hc hS.2.2.2.2.2.2.1, cell_later hc hS.2.2.2.2.2.2.2.1, cell_later hc hS.2.2.2.2.2.2.2.2.1, cell_later hc hS.2.2.2.2.2.2.2.2.2⟩ (fun hS => ?_)
        clear hK K
        replace rf := rf.below hc
        replace rd := rd.below hc
        replace rA := rA.below hc
        replace rC := rC.below hc
        replace rX := rX.below hc
        replace rY := rY.below hc
        replace rG := rG.below hc
        replace rP := rP.below hc
        replace rH := rH.below hc
        replace hb := hb.trans (hc.mono hb.size)
        have sv5 := hc.size
        clear hc
        refine wpAnyH_take (i := 77) (v := (.int .i64 hcd)) rfl (by as_aux_lemma => kernel_rfl) (by as_aux_lemma => kernel_rfl) (by as_aux_lemma => kernel_rfl) (fun _ _ _ h => h) (Or.inl ⟨by kernel_rfl, ?_⟩) hS ?_
        · intro w hSw; (try dsimp only at hSw); go_simp
        simp only [Act.put, List.getElem_toArray, List.getElem_cons_zero, List.getElem_cons_succ, List.setIfInBounds_toArray, List.set_cons_zero, List.set_cons_succ]
        refine wpAnyH_ready (rs := [80]) (by as_aux_lemma => kernel_rfl) (by simp) ?_
        refine AllReadyH.cons rfl (fun K hK => ?_) AllReadyH.nil
        go_simp
        refine Calls.mono (HSCH.out _ rH.read) ?_
        rintro e v6 ⟨vh2, rfl, hc⟩
        refine hK.out _ _ ⟨cell_later hc hS.1, cell_later hc hS.2.1, cell_later hc hS.2.2.1, cell_later hc hS.2.2.2.1, cell_later hc hS.2.2.2.2.1, cell_later hc hS.2.2.2.2.2.1, cell_later hc hS.2.2.2.2.2.2.1, cell_later hc hS.2.2.2.2.2.2.2.1, cell_later hc hS.2.2.2.2.2.2.2.2.1, cell_later hc hS.2.2.2.2.2.2.2.2.2⟩ (fun hS => ?_)
        clear hK K
        replace rf := rf.below hc
        replace rd := rd.below hc
        replace rA := rA.below hc
        replace rC := rC.below hc
        replace rX := rX.below hc
        replace rY := rY.below hc
        replace rG := rG.below hc
        replace rP := rP.below hc
        replace rH := rH.below hc
        replace hb := hb.trans (hc.mono hb.size)
        have sv6 := hc.size
        clear hc
        refine wpAnyH_take (i := 81) (v := (.int .i64 hcd)) rfl (by as_aux_lemma => kernel_rfl) (by as_aux_lemma => kernel_rfl) (by as_aux_lemma => kernel_rfl) (fun _ _ _ h => h) (Or.inl ⟨by kernel_rfl, ?_⟩) hS ?_
        · intro w hSw; (try dsimp only at hSw); go_simp
        simp only [Act.put, List.getElem_toArray, List.getElem_cons_zero, List.getElem_cons_succ, List.setIfInBounds_toArray, List.set_cons_zero, List.set_cons_succ]
        refine wpAnyH_take (i := 82) (v := (.bool true)) rfl (by as_aux_lemma => kernel_rfl) (by as_aux_lemma => kernel_rfl) (by as_aux_lemma => kernel_rfl) (fun _ _ _ h => h) (Or.inl ⟨by kernel_rfl, ?_⟩) hS ?_
        · intro w hSw; (try dsimp only at hSw); go_simp
        simp only [Act.put, List.getElem_toArray, List.getElem_cons_zero, List.getElem_cons_succ, List.setIfInBounds_toArray, List.set_cons_zero, List.set_cons_succ]
        refine wpAnyH_take (i := 83) (v := (.bool true)) rfl (by as_aux_lemma => kernel_rfl) (by as_aux_lemma => kernel_rfl) (by as_aux_lemma => kernel_rfl) (fun _ _ _ h => h) (Or.inl ⟨by kernel_rfl, ?_⟩) hS ?_
        · intro w hSw; (try dsimp only at hSw); go_simp
        simp only [Act.put, List.getElem_toArray, List.getElem_cons_zero, List.getElem_cons_succ, List.setIfInBounds_toArray, List.set_cons_zero, List.set_cons_succ]
        refine wpAnyH_take (i := 84) (v := (.bool true)) rfl (by as_aux_lemma => kernel_rfl) (by as_aux_lemma => kernel_rfl) (by as_aux_lemma => kernel_rfl) (fun _ _ _ h => h) (Or.inl ⟨by kernel_rfl, ?_⟩) hS ?_
        · intro w hSw; (try dsimp only at hSw); go_simp
        simp only [Act.put, List.getElem_toArray, List.getElem_cons_zero, List.getElem_cons_succ, List.setIfInBounds_toArray, List.set_cons_zero, List.set_cons_succ]
        refine wpAnyH_take (i := 85) (v := (.pointer (some ⟨w2.heap.size, 1, none⟩))) rfl (by as_aux_lemma => kernel_rfl) (by as_aux_lemma => kernel_rfl) (by as_aux_lemma => kernel_rfl) (fun _ _ _ h => h) (Or.inl ⟨by kernel_rfl, ?_⟩) hS ?_
        · intro w hSw; (try dsimp only at hSw); go_simp
        simp only [Act.put, List.getElem_toArray, List.getElem_cons_zero, List.getElem_cons_succ, List.setIfInBounds_toArray, List.set_cons_zero, List.set_cons_succ]
        refine wpAnyH_take (i := 86) (v := (.pointer (some ⟨w2.heap.size, 1, none⟩))) rfl (by as_aux_lemma => kernel_rfl) (by as_aux_lemma => kernel_rfl) (by as_aux_lemma => kernel_rfl) (fun _ _ _ h => h) (Or.inl ⟨by kernel_rfl, ?_⟩) hS ?_
        · intro w hSw; (try dsimp only at hSw); go_simp
        simp only [Act.put, List.getElem_toArray, List.getElem_cons_zero, List.getElem_cons_succ, List.setIfInBounds_toArray, List.set_cons_zero, List.set_cons_succ]
        refine wpAnyH_take (i := 87) (v := (.slice aA (ys.length + zs.length) kA)) rfl (by as_aux_lemma => kernel_rfl) (by as_aux_lemma => kernel_rfl) (by as_aux_lemma => kernel_rfl) (fun _ _ _ h => h) (Or.inl ⟨by kernel_rfl, ?_⟩) hS ?_
        · intro w hSw; (try dsimp only at hSw); go_simp
        simp only [Act.put, List.getElem_toArray, List.getElem_cons_zero, List.getElem_cons_succ, List.setIfInBounds_toArray, List.set_cons_zero, List.set_cons_succ]
        refine wpAnyH_take (i := 88) (v := (.int .i64 ((ys.length : Int) + (zs.length : Int)))) rfl (by as_aux_lemma => kernel_rfl) (by as_aux_lemma => kernel_rfl) (by as_aux_lemma => kernel_rfl) (fun _ _ _ h => h) (Or.inl ⟨by kernel_rfl, ?_⟩) hS ?_
        · intro w hSw; (try dsimp only at hSw); go_simp
        simp only [Act.put, List.getElem_toArray, List.getElem_cons_zero, List.getElem_cons_succ, List.setIfInBounds_toArray, List.set_cons_zero, List.set_cons_succ]
        refine wpAnyH_take (i := 89) (v := (.pointer (some ⟨w1.heap.size, 0, none⟩))) rfl (by as_aux_lemma => kernel_rfl) (by as_aux_lemma => kernel_rfl) (by as_aux_lemma => kernel_rfl) (fun _ _ _ h => h) (Or.inl ⟨by kernel_rfl, ?_⟩) hS ?_
        · intro w hSw; (try dsimp only at hSw); go_simp
        simp only [Act.put, List.getElem_toArray, List.getElem_cons_zero, List.getElem_cons_succ, List.setIfInBounds_toArray, List.set_cons_zero, List.set_cons_succ]
        refine wpAnyH_take (i := 90) (v := (.slice af ys.length kf)) rfl (by as_aux_lemma => kernel_rfl) (by as_aux_lemma => kernel_rfl) (by as_aux_lemma => kernel_rfl) (fun _ _ _ h => h) (Or.inl ⟨by kernel_rfl, ?_⟩) hS ?_
        · intro w hSw; (try dsimp only at hSw); go_simp
        simp only [Act.put, List.getElem_toArray, List.getElem_cons_zero, List.getElem_cons_succ, List.setIfInBounds_toArray, List.set_cons_zero, List.set_cons_succ]
        refine wpAnyH_take (i := 91) (v := (.int .i64 (ys.length : Int))) rfl (by as_aux_lemma => kernel_rfl) (by as_aux_lemma => kernel_rfl) (by as_aux_lemma => kernel_rfl) (fun _ _ _ h => h) (Or.inl ⟨by kernel_rfl, ?_⟩) hS ?_
        · intro w hSw; (try dsimp only at hSw); go_simp
        simp only [Act.put, List.getElem_toArray, List.getElem_cons_zero, List.getElem_cons_succ, List.setIfInBounds_toArray, List.set_cons_zero, List.set_cons_succ]
        refine wpAnyH_take (i := 92) (v := (.slice ad zs.length kd)) rfl (by as_aux_lemma => kernel_rfl) (by as_aux_lemma => kernel_rfl) (by as_aux_lemma => kernel_rfl) (fun _ _ _ h => h) (Or.inl ⟨by kernel_rfl, ?_⟩) hS ?_
        · intro w hSw; (try dsimp only at hSw); go_simp
        simp only [Act.put, List.getElem_toArray, List.getElem_cons_zero, List.getElem_cons_succ, List.setIfInBounds_toArray, List.set_cons_zero, List.set_cons_succ]
        refine wpAnyH_take (i := 93) (v := (.int .i64 (zs.length : Int))) rfl (by as_aux_lemma => kernel_rfl) (by as_aux_lemma => kernel_rfl) (by as_aux_lemma => kernel_rfl) (fun _ _ _ h => h) (Or.inl ⟨by kernel_rfl, ?_⟩) hS ?_
        · intro w hSw; (try dsimp only at hSw); go_simp
        simp only [Act.put, List.getElem_toArray, List.getElem_cons_zero, List.getElem_cons_succ, List.setIfInBounds_toArray, List.set_cons_zero, List.set_cons_succ]
        refine wpAnyH_take (i := 94) (v := (.int .i64 ((ys.length : Int) + (zs.length : Int)))) rfl (by as_aux_lemma => kernel_rfl) (by as_aux_lemma => kernel_rfl) (by as_aux_lemma => kernel_rfl) (fun _ _ _ h => h) (Or.inl ⟨by kernel_rfl, ?_⟩) hS ?_
        · intro w hSw; (try dsimp only at hSw); go_simp
        simp only [Act.put, List.getElem_toArray, List.getElem_cons_zero, List.getElem_cons_succ, List.setIfInBounds_toArray, List.set_cons_zero, List.set_cons_succ]
        refine wpAnyH_take (i := 95) (v := (.bool true)) rfl (by as_aux_lemma => kernel_rfl) (by as_aux_lemma => kernel_rfl) (by as_aux_lemma => kernel_rfl) (fun _ _ _ h => h) (Or.inl ⟨by kernel_rfl, ?_⟩) hS ?_
        · intro w hSw; (try dsimp only at hSw); go_simp
        simp only [Act.put, List.getElem_toArray, List.getElem_cons_zero, List.getElem_cons_succ, List.setIfInBounds_toArray, List.set_cons_zero, List.set_cons_succ]
        refine wpAnyH_take (i := 96) (v := (.bool true)) rfl (by as_aux_lemma => kernel_rfl) (by as_aux_lemma => kernel_rfl) (by as_aux_lemma => kernel_rfl) (fun _ _ _ h => h) (Or.inl ⟨by kernel_rfl, ?_⟩) hS ?_
        · intro w hSw; (try dsimp only at hSw); go_simp
        simp only [Act.put, List.getElem_toArray, List.getElem_cons_zero, List.getElem_cons_succ, List.setIfInBounds_toArray, List.set_cons_zero, List.set_cons_succ]
        refine wpAnyH_take (i := 97) (v := (.bool true)) rfl (by as_aux_lemma => kernel_rfl) (by as_aux_lemma => kernel_rfl) (by as_aux_lemma => kernel_rfl) (fun _ _ _ h => h) (Or.inl ⟨by kernel_rfl, ?_⟩) hS ?_
        · intro w hSw; (try dsimp only at hSw); go_simp
        simp only [Act.put, List.getElem_toArray, List.getElem_cons_zero, List.getElem_cons_succ, List.setIfInBounds_toArray, List.set_cons_zero, List.set_cons_succ]
        refine wpAnyH_done (by kernel_rfl) ?_ _
        clear hS
        go_wp2
        all_goals go_ret
        all_goals exact ⟨rfl, hb⟩
    · have e1 : apCode ys zs = 2 := by unfold apCode; rw [if_pos (by omega)]
      have IA := fun (w' : World) (h1 : Rd .u8 w' af ys.length ys) (h2 : Rd .u8 w' ad zs.length zs) => implAppendFile_any af ad ys.length zs.length kf kd ys zs w' h1 h2 (by omega) (by omega)
      have SA : ∀ (w' : World), Rd .u8 w' af ys.length ys → Rd .u8 w' ad zs.length zs → Calls Try.prog 14 #[.agg #[.slice af ys.length kf], .slice ad zs.length kd] w' fun e w'' => ∃ v, e = .returned (.agg #[.int .i64 2, v]) ∧ Below w'.heap.size w' w'' := by
        intro w' h1 h2
        have := specAppendFile_any af ad ys.length zs.length kf kd ys zs w' h1 h2 (by omega) (by omega)
        rw [e1] at this
        exact this.mono (fun e w'' ⟨v, h1, _, h3⟩ => ⟨v, h1, h3⟩)
      rw [e1] at IA
      have HIA : Hid _ := IA
      have HSA : Hid _ := SA
      have fF := fldF0
      clear IA SA e1
      have bp : ∀ o0, Below w1.heap.size w1 (w1.alloc o0) := fun o0 => (Below.refl _ _).alloc (Nat.le_refl _) o0
      go_wp2_with fail
      refine Calls.mono (HIA.out _ (rf.below (bp _)).read (rd.below (bp _)).read) ?_
      rintro e w2 ⟨vA, rfl, rA, hc⟩
      obtain ⟨aA, kA, rfl, _⟩ := rA.shape
      have s2 : w1.heap.size + 1 ≤ w2.heap.size := by have := hc.size; simp at this; omega
      have cF : w2.cell? ⟨w1.heap.size, 0, none⟩ = some (.slice af ys.length kf) := cell_later hc (by simp [go_sem])
      have zF : w1.heap.size < w2.heap.size := by omega
      have bq := (bp _).trans (hc.mono (bp _).size)
      replace rf := rf.below bq
      replace rd := rd.below bq
      replace hb := hb.trans (bq.mono hb.size)
      clear HIA hc bp bq rA
      generalize (apRes ys zs).length = m at *
      have bd : Below w2.heap.size w2 (w2.alloc (.cells #[.int .i64 2, .slice aA m kA] 29)).drew := ((Below.refl _ _).alloc (Nat.le_refl _) _).drew
      go_wp2_with fail
      refine wp_region_held_drew (S := fun w' => w'.cell? ⟨w1.heap.size, 0, none⟩ = some (.slice af ys.length kf) ∧ w'.cell? ⟨w2.heap.size, 0, none⟩ = some (.int .i64 2)) (by kernel_rfl) ⟨cell_later bd cF, by simp [go_sem]⟩ (fun hS => ?_)
      replace rf := rf.below bd
      replace rd := rd.below bd
      replace hb := hb.trans (bd.mono hb.size)
      clear bd cF
      generalize (w2.alloc (.cells #[.int .i64 2, .slice aA m kA] 29)).drew = v0 at *
      refine wpAnyH_take (i := 0) (v := (.agg #[.slice af ys.length kf])) rfl (by as_aux_lemma => kernel_rfl) (by as_aux_lemma => kernel_rfl) (by as_aux_lemma => kernel_rfl) (fun _ _ _ h => h) (Or.inl ⟨by kernel_rfl, ?_⟩) hS ?_
      · intro w hSw; (try dsimp only at hSw); go_simp
      simp only [Act.put, List.getElem_toArray, List.getElem_cons_zero, List.getElem_cons_succ, List.setIfInBounds_toArray, List.set_cons_zero, List.set_cons_succ]
      refine wpAnyH_take (i := 1) (v := (.slice ad zs.length kd)) rfl (by as_aux_lemma => kernel_rfl) (by as_aux_lemma => kernel_rfl) (by as_aux_lemma => kernel_rfl) (fun _ _ _ h => h) (Or.inl ⟨by kernel_rfl, ?_⟩) hS ?_
      · intro w hSw; (try dsimp only at hSw); go_simp
      simp only [Act.put, List.getElem_toArray, List.getElem_cons_zero, List.getElem_cons_succ, List.setIfInBounds_toArray, List.set_cons_zero, List.set_cons_succ]
      refine wpAnyH_take (i := 4) (v := (.pointer (some ⟨w2.heap.size, 0, none⟩))) rfl (by as_aux_lemma => kernel_rfl) (by as_aux_lemma => kernel_rfl) (by as_aux_lemma => kernel_rfl) (fun _ _ _ h => h) (Or.inl ⟨by kernel_rfl, ?_⟩) hS ?_
      · intro w hSw; (try dsimp only at hSw); go_simp
      simp only [Act.put, List.getElem_toArray, List.getElem_cons_zero, List.getElem_cons_succ, List.setIfInBounds_toArray, List.set_cons_zero, List.set_cons_succ]
      refine wpAnyH_take (i := 5) (v := (.int .i64 2)) rfl (by as_aux_lemma => kernel_rfl) (by as_aux_lemma => kernel_rfl) (by as_aux_lemma => kernel_rfl) (fun _ _ _ h => h) (Or.inl ⟨by kernel_rfl, ?_⟩) hS ?_
      · intro w hSw; (try dsimp only at hSw); go_simp
      simp only [Act.put, List.getElem_toArray, List.getElem_cons_zero, List.getElem_cons_succ, List.setIfInBounds_toArray, List.set_cons_zero, List.set_cons_succ]
      refine wpAnyH_ready (rs := [2]) (by as_aux_lemma => kernel_rfl) (by simp) ?_
      refine AllReadyH.cons rfl (fun K hK => ?_) AllReadyH.nil
      go_simp
      refine Calls.mono (HSA.out _ rf.read rd.read) ?_
      rintro e v1 ⟨vS, rfl, hc⟩
      refine hK.out _ _ ⟨cell_later hc hS.1, cell_later hc hS.2⟩ (fun hS => ?_)
      clear hK K
      replace rf := rf.below hc
      replace rd := rd.below hc
      replace hb := hb.trans (hc.mono hb.size)
      clear hc
      refine wpAnyH_take (i := 3) (v := (.int .i64 2)) rfl (by as_aux_lemma => kernel_rfl) (by as_aux_lemma => kernel_rfl) (by as_aux_lemma => kernel_rfl) (fun _ _ _ h => h) (Or.inl ⟨by kernel_rfl, ?_⟩) hS ?_
      · intro w hSw; (try dsimp only at hSw); go_simp
      simp only [Act.put, List.getElem_toArray, List.getElem_cons_zero, List.getElem_cons_succ, List.setIfInBounds_toArray, List.set_cons_zero, List.set_cons_succ]
      refine wpAnyH_take (i := 6) (v := (.bool true)) rfl (by as_aux_lemma => kernel_rfl) (by as_aux_lemma => kernel_rfl) (by as_aux_lemma => kernel_rfl) (fun _ _ _ h => h) (Or.inl ⟨by kernel_rfl, ?_⟩) hS ?_
      · intro w hSw; (try dsimp only at hSw); go_simp
      simp only [Act.put, List.getElem_toArray, List.getElem_cons_zero, List.getElem_cons_succ, List.setIfInBounds_toArray, List.set_cons_zero, List.set_cons_succ]
      refine wpAnyH_take (i := 7) (v := (.bool true)) rfl (by as_aux_lemma => kernel_rfl) (by as_aux_lemma => kernel_rfl) (by as_aux_lemma => kernel_rfl) (fun _ _ _ h => h) (Or.inl ⟨by kernel_rfl, ?_⟩) hS ?_
      · intro w hSw; (try dsimp only at hSw); go_simp
      simp only [Act.put, List.getElem_toArray, List.getElem_cons_zero, List.getElem_cons_succ, List.setIfInBounds_toArray, List.set_cons_zero, List.set_cons_succ]
      refine wpAnyH_take (i := 8) (v := (.agg #[.slice af ys.length kf])) rfl (by as_aux_lemma => kernel_rfl) (by as_aux_lemma => kernel_rfl) (by as_aux_lemma => kernel_rfl) (fun _ _ _ h => h) (Or.inl ⟨by kernel_rfl, ?_⟩) hS ?_
      · intro w hSw; (try dsimp only at hSw); go_simp
      simp only [Act.put, List.getElem_toArray, List.getElem_cons_zero, List.getElem_cons_succ, List.setIfInBounds_toArray, List.set_cons_zero, List.set_cons_succ]
      refine wpAnyH_take (i := 10) (v := (.agg #[.slice af ys.length kf])) rfl (by as_aux_lemma => kernel_rfl) (by as_aux_lemma => kernel_rfl) (by as_aux_lemma => kernel_rfl) (fun _ _ _ h => h) (Or.inl ⟨by kernel_rfl, ?_⟩) hS ?_
      · intro w hSw; (try dsimp only at hSw); go_simp
      simp only [Act.put, List.getElem_toArray, List.getElem_cons_zero, List.getElem_cons_succ, List.setIfInBounds_toArray, List.set_cons_zero, List.set_cons_succ]
      refine wpAnyH_ready (rs := [9]) (by as_aux_lemma => kernel_rfl) (by simp) ?_
      refine AllReadyH.cons rfl (fun K hK => ?_) AllReadyH.nil
      go_simp
      refine Calls.mono (implFileFault_any af ys.length kf _ (by omega)) ?_
      rintro e v2 ⟨rfl, hc⟩
      refine hK.out _ _ ⟨cell_later hc hS.1, cell_later hc hS.2⟩ (fun hS => ?_)
      clear hK K
      replace rf := rf.below hc
      replace rd := rd.below hc
      replace hb := hb.trans (hc.mono hb.size)
      clear hc
      refine wpAnyH_ready (rs := [11]) (by as_aux_lemma => kernel_rfl) (by simp) ?_
      refine AllReadyH.cons rfl (fun K hK => ?_) AllReadyH.nil
      go_simp
      refine Calls.mono (specFileFault_any af ys.length kf _ (by omega)) ?_
      rintro e v3 ⟨rfl, hc⟩
      refine hK.out _ _ ⟨cell_later hc hS.1, cell_later hc hS.2⟩ (fun hS => ?_)
      clear hK K
      replace rf := rf.below hc
      replace rd := rd.below hc
      replace hb := hb.trans (hc.mono hb.size)
      clear hc
      refine wpAnyH_take (i := 12) (v := (.bool true)) rfl (by as_aux_lemma => kernel_rfl) (by as_aux_lemma => kernel_rfl) (by as_aux_lemma => kernel_rfl) (fun _ _ _ h => h) (Or.inl ⟨by kernel_rfl, ?_⟩) hS ?_
      · intro w hSw; (try dsimp only at hSw); go_simp
      simp only [Act.put, List.getElem_toArray, List.getElem_cons_zero, List.getElem_cons_succ, List.setIfInBounds_toArray, List.set_cons_zero, List.set_cons_succ]
      refine wpAnyH_take (i := 13) (v := (.bool true)) rfl (by as_aux_lemma => kernel_rfl) (by as_aux_lemma => kernel_rfl) (by as_aux_lemma => kernel_rfl) (fun _ _ _ h => h) (Or.inl ⟨by kernel_rfl, ?_⟩) hS ?_
      · intro w hSw; (try dsimp only at hSw); go_simp
      simp only [Act.put, List.getElem_toArray, List.getElem_cons_zero, List.getElem_cons_succ, List.setIfInBounds_toArray, List.set_cons_zero, List.set_cons_succ]
      refine wpAnyH_take (i := 14) (v := (.bool true)) rfl (by as_aux_lemma => kernel_rfl) (by as_aux_lemma => kernel_rfl) (by as_aux_lemma => kernel_rfl) (fun _ _ _ h => h) (Or.inl ⟨by kernel_rfl, ?_⟩) hS ?_
      · intro w hSw; (try dsimp only at hSw); go_simp
      simp only [Act.put, List.getElem_toArray, List.getElem_cons_zero, List.getElem_cons_succ, List.setIfInBounds_toArray, List.set_cons_zero, List.set_cons_succ]
      refine wpAnyH_done (by kernel_rfl) ?_ _
      clear hS
      go_wp2
      go_ret
      exact ⟨rfl, hb⟩
  · go_enter Try.func3, Try.ntmps3
    go_wp2
    go_ret
    exact ⟨rfl, Below.refl _ _⟩
end Go.Proofs.Ytjhlmhehojjgfaa.fnFiles
