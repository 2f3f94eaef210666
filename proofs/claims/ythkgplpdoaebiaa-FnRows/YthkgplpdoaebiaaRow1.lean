/-
  Layouts and how many rows a line has: contracts of both sides.
-/
import Derived.Test.YthkgplpdoaebiaaCells3
import Derived.Test.YthkgplpdoaebiaaFiles1
import Derived.Test.YthkgplpdoaebiaaRowM
import Derived.Test.YthkgplpdoaebiaaBox
import Derived.Test.YthkgplpdoaebiaaJoin
namespace Go.Proofs.Ythkgplpdoaebiaa
open Go.RowKit
set_option linter.unusedVariables false
set_option linter.unusedSimpArgs false

/-- a layout as a value -/
def lyV (W : Int) (C : Bool) (S : Int) : Value := .agg #[.int .i64 W, .bool C, .int .i64 S]

set_option maxHeartbeats 800000 in
theorem implLayoutFault_any (W S : Int) (C : Bool) (w : World) :
    Calls Try.prog 15 #[.agg #[.int .i64 W, .bool C, .int .i64 S]] w fun e w' => e = .returned (.int .i64 (lyF W C S)) ∧ Below w.heap.size w w' := by
  go_enter Try.func15, Try.ntmps15
  go_wp2
  all_goals go_ret
  all_goals refine ⟨ret_int ?_, (Below.refl _ _).alloc (Nat.le_refl _) _⟩
  all_goals (unfold lyF; cases C <;> simp_all <;> omega)

set_option maxHeartbeats 800000 in
theorem l10Fault_any (b : Nat) (W S : Int) (C : Bool) (w : World) (c0 : w.cell? ⟨b, 0, none⟩ = some (.int .i64 W)) (c1 : w.cell? ⟨b, 1, none⟩ = some (.bool C)) (c2 : w.cell? ⟨b, 2, none⟩ = some (.int .i64 S)) :
    Calls Try.prog 47 #[.pointer (some ⟨b, 0, none⟩)] w fun e w' => e = .returned (.int .i64 (lyF W C S)) ∧ w' = w := by
  go_enter Try.func47, Try.ntmps47
  go_wp2_with (go_at_call 56; refine (l1In_any _ _ _ _).mono ?_; rintro e w1 ⟨rfl, rfl⟩)
  all_goals go_ret
  all_goals refine ⟨ret_int ?_, rfl⟩
  all_goals (unfold lyF; cases C <;> simp_all <;> omega)

set_option maxHeartbeats 800000 in
theorem specLayoutFault_any (W S : Int) (C : Bool) (w : World) :
    Calls Try.prog 16 #[.agg #[.int .i64 W, .bool C, .int .i64 S]] w fun e w' => e = .returned (.int .i64 (lyF W C S)) ∧ Below w.heap.size w w' := by
  go_enter Try.func16, Try.ntmps16
  go_wp2_with fail
  refine (l10Fault_any w.heap.size W S C _ (by simp [go_sem]) (by simp [go_sem]) (by simp [go_sem])).mono ?_
  rintro e w1 ⟨rfl, rfl⟩
  go_wp2
  go_ret
  exact ⟨rfl, (Below.refl _ _).alloc (Nat.le_refl _) _⟩

theorem rwN_quo {C : Bool} {W : Int} {n : Nat} (hW : 1 ≤ W) (hC : C = false) (hn : n ≠ 0) : ((n : Int) + W - 1) / W = (rwN C W n : Nat) := by
  unfold rwN
  rw [if_neg (by simp [hC, hn])]
  obtain ⟨k, rfl⟩ : ∃ k : Nat, W = (k : Int) := ⟨W.toNat, by omega⟩
  obtain ⟨m, hm⟩ : ∃ m : Nat, (n : Int) + k - 1 = (m : Int) := ⟨n + k - 1, by omega⟩
  rw [hm, Int.toNat_natCast, Int.toNat_natCast, Int.natCast_ediv]

set_option maxHeartbeats 800000 in
theorem rowsFor_any (W S : Int) (C : Bool) (n : Nat) (w : World) (hW : 1 ≤ W) (hW2 : W ≤ 40) (hn : n ≤ 100000) :
    Calls Try.prog 44 #[.agg #[.int .i64 W, .bool C, .int .i64 S], .int .i64 n] w fun e w' => e = .returned (.int .i64 (rwN C W n : Nat)) ∧ Below w.heap.size w w' := by
  have hle := rwN_le (C := C) (n := n) hW
  have hq := @rwN_quo C W n hW
  have HQ : Hid _ := hq
  have ht : C = true ∨ n = 0 → (1 : Int) = (rwN C W n : Nat) := fun h => by unfold rwN; rw [if_pos h]; rfl
  have HT : Hid _ := ht
  clear hq ht
  go_enter Try.func44, Try.ntmps44
  go_wp2
  all_goals go_ret
  all_goals refine ⟨ret_int ?_, (Below.refl _ _).alloc (Nat.le_refl _) _⟩
  · exact HT.out (Or.inl (by assumption))
  · exact HT.out (Or.inr (by simp_all))
  · exact HQ.out (by simp_all) (by simp_all)

/-- a line's rows -/
def lnRows (C : Bool) (W : Int) (xs : List Int) : Nat := rwN C W (cellsAll xs).length

set_option maxHeartbeats 800000 in
theorem l10Count_any (b : Nat) (a : Option Addr) (n ca : Nat) (xs : List Int) (W S : Int) (C : Bool) (w : World) (ha : Rd .u8 w a n xs) (hB : Bytes xs) (h1 : n ≤ 400) (hW : 1 ≤ W) (hW2 : W ≤ 40)
    (c0 : w.cell? ⟨b, 0, none⟩ = some (.int .i64 W)) (c1 : w.cell? ⟨b, 1, none⟩ = some (.bool C)) (c2 : w.cell? ⟨b, 2, none⟩ = some (.int .i64 S)) :
    Calls Try.prog 46 #[.slice a n ca, .pointer (some ⟨b, 0, none⟩)] w fun e w' => e = .returned (.int .i64 (lnRows C W xs : Nat)) ∧ Below w.heap.size w w' := by
  have hq := @rwN_quo C W (cellsAll xs).length hW
  have HQ : Hid _ := hq
  have ht : C = true ∨ (cellsAll xs).length = 0 → (1 : Int) = (rwN C W (cellsAll xs).length : Nat) := fun h => by unfold rwN; rw [if_pos h]; rfl
  have HT : Hid _ := ht
  have hlc : (cellsAll xs).length ≤ 100000 := by have h2 := cellsAll_len hB; have h3 := ha.1; omega
  clear hq ht
  unfold lnRows
  have CC := l1Cells_any a n ca xs w ha hB h1
  generalize (cellsAll xs).length = k at *
  have HC : Hid _ := CC
  clear CC
  go_enter Try.func46, Try.ntmps46
  go_wp2_with fail
  refine Calls.mono HC.out ?_
  rintro e w1 ⟨v, rfl, ho, hb⟩
  obtain ⟨av, cap, hv, -⟩ := ho.rd cellE_len
  subst hv
  replace c0 := cell_later hb c0
  replace c1 := cell_later hb c1
  replace c2 := cell_later hb c2
  go_wp2
  · go_ret
    exact ⟨ret_int (HT.out (Or.inl (by assumption))), hb⟩
  · go_ret
    exact ⟨ret_int (HT.out (Or.inr (by simp_all))), hb⟩
  · go_quiet (fail)
    go_wp2
    go_ret
    exact ⟨ret_int (HQ.out (by simp_all) (by simp_all)), hb.trans (below_drewN (Below.refl _ _) _ |>.mono hb.size)⟩

/-- what is asked of a line and a layout -/
def askF (xs : List Int) (W : Int) (C : Bool) (S : Int) : Int := if lyF W C S ≠ 0 then lyF W C S else if 400 < xs.length then 2 else 0
theorem lyF_ok {W : Int} {C : Bool} {S : Int} (h : lyF W C S = 0) : 1 ≤ W ∧ W ≤ 40 ∧ 0 ≤ S ∧ S ≤ 400 ∧ (C = false → S = 0) := by
  unfold lyF at h
  split at h
  · omega
  · split at h
    · omega
    · rename_i h1 h2
      refine ⟨by omega, by omega, by omega, by omega, fun hc => ?_⟩
      apply Classical.byContradiction; intro hs; exact h2 ⟨hs, hc⟩

set_option maxHeartbeats 800000 in
theorem l10Asked_any (b : Nat) (a : Option Addr) (n ca : Nat) (xs : List Int) (W S : Int) (C : Bool) (w : World) (ha : Rd .u8 w a n xs) (h1 : n ≤ 1073741824)
    (c0 : w.cell? ⟨b, 0, none⟩ = some (.int .i64 W)) (c1 : w.cell? ⟨b, 1, none⟩ = some (.bool C)) (c2 : w.cell? ⟨b, 2, none⟩ = some (.int .i64 S)) :
    Calls Try.prog 45 #[.slice a n ca, .pointer (some ⟨b, 0, none⟩)] w fun e w' => e = .returned (.int .i64 (askF xs W C S)) ∧ w' = w := by
  have hlen := ha.1
  have e1 : lyF W C S ≠ 0 → lyF W C S = askF xs W C S := fun h => by unfold askF; rw [if_pos h]
  have e2 : lyF W C S = 0 → 400 < n → 2 = askF xs W C S := fun h h2 => by unfold askF; rw [if_neg (by omega), if_pos (by omega)]
  have e3 : lyF W C S = 0 → ¬ 400 < n → 0 = askF xs W C S := fun h h2 => by unfold askF; rw [if_neg (by omega), if_neg (by omega)]
  generalize askF xs W C S = A at *
  have E1 : Hid _ := e1
  have E2 : Hid _ := e2
  have E3 : Hid _ := e3
  clear e1 e2 e3
  go_enter Try.func45, Try.ntmps45
  go_wp2_with fail
  refine (l10Fault_any b W S C _ c0 c1 c2).mono ?_
  rintro e w1 ⟨rfl, rfl⟩
  generalize lyF W C S = L at *
  go_wp2
  · go_ret
    exact ⟨ret_int (E1.out (by simp_all)), rfl⟩
  · go_ret
    exact ⟨ret_int (E2.out (by simp_all) (by omega)), rfl⟩
  · go_ret
    exact ⟨ret_int (E3.out (by simp_all) (by omega)), rfl⟩

/-- what RowCount tells -/
def rcVal (xs : List Int) (W : Int) (C : Bool) (S : Int) : Int := if askF xs W C S = 0 then (lnRows C W xs : Nat) else 0

set_option maxHeartbeats 800000 in
theorem specRowCount_any (a : Option Addr) (n ca : Nat) (xs : List Int) (W S : Int) (C : Bool) (w : World) (ha : Rd .u8 w a n xs) (hB : Bytes xs) (h1 : n ≤ 1073741824) :
    Calls Try.prog 14 #[.slice a n ca, .agg #[.int .i64 W, .bool C, .int .i64 S]] w fun e w' => e = .returned (.agg #[.int .i64 (askF xs W C S), .int .i64 (rcVal xs W C S)]) ∧ Below w.heap.size w w' := by
  have hlen := ha.1
  have B2 : ∀ o1 o2, Below w.heap.size w ((w.alloc o1).alloc o2) := fun o1 o2 => ((Below.refl _ _).alloc (Nat.le_refl _) o1).alloc (by simp) o2
  have A := fun w' h c0 c1 c2 => l10Asked_any w.heap.size a n ca xs W S C w' h h1 c0 c1 c2
  have hk : askF xs W C S = 0 → (n ≤ 400 ∧ 1 ≤ W ∧ W ≤ 40) ∧ rcVal xs W C S = (lnRows C W xs : Nat) := fun h => by
    refine ⟨?_, by unfold rcVal; rw [if_pos h]⟩
    unfold askF at h
    split at h
    · omega
    · rename_i h2
      have := lyF_ok (W := W) (C := C) (S := S) (by omega)
      split at h <;> omega
  have hk2 : ¬ askF xs W C S = 0 → rcVal xs W C S = 0 := fun h => by unfold rcVal; rw [if_neg h]
  generalize rcVal xs W C S = V at *
  generalize askF xs W C S = F at *
  have HA : Hid _ := A
  clear A
  by_cases hF : F = 0
  · obtain ⟨⟨hn, hW1, hW2⟩, rfl⟩ := hk hF
    subst hF
    clear hk hk2
    have KC := fun w' h c0 c1 c2 => l10Count_any w.heap.size a n ca xs W S C w' h hB hn hW1 hW2 c0 c1 c2
    generalize lnRows C W xs = K at *
    have HK : Hid _ := KC
    clear KC
    go_enter Try.func14, Try.ntmps14
    go_wp2_with fail
    refine (HA.out _ (ha.below (B2 _ _)) (by simp [go_sem]) (by simp [go_sem]) (by simp [go_sem])).mono ?_
    rintro e w1 ⟨rfl, rfl⟩
    go_wp2_with fail
    refine (HK.out _ (ha.below (B2 _ _)) (by simp [go_sem]) (by simp [go_sem]) (by simp [go_sem])).mono ?_
    rintro e w1 ⟨rfl, hb⟩
    have d0 : w1.cell? ⟨w.heap.size + 1, 0, none⟩ = some (.int .i64 0) := cell_later hb (by simp [go_sem])
    have d1 : w1.cell? ⟨w.heap.size + 1, 1, none⟩ = some (.int .i64 0) := cell_later hb (by simp [go_sem])
    have df0 : w1.frozen? ⟨w.heap.size + 1, 0, none⟩ = false := (hb.frozen (p := ⟨w.heap.size + 1, 0, none⟩) (by simp)).trans (by simp [go_sem])
    have df1 : w1.frozen? ⟨w.heap.size + 1, 1, none⟩ = false := (hb.frozen (p := ⟨w.heap.size + 1, 1, none⟩) (by simp)).trans (by simp [go_sem])
    have hb2 := (B2 _ _).trans (hb.mono (by simp; omega))
    clear hb
    go_wp2
    exact bodyPost_ret (v := .agg #[.int .i64 0, .int .i64 (K : Nat)]) (by simp [results, Try.results14, go_sem, d0, d1]) rfl ⟨rfl, (hb2.setCell (by simp) _).setCell (by simp) _⟩
  · obtain rfl := hk2 hF
    clear hk hk2
    go_enter Try.func14, Try.ntmps14
    go_wp2_with fail
    refine (HA.out _ (ha.below (B2 _ _)) (by simp [go_sem]) (by simp [go_sem]) (by simp [go_sem])).mono ?_
    rintro e w1 ⟨rfl, rfl⟩
    go_wp2
    exact bodyPost_ret (v := .agg #[.int .i64 F, .int .i64 0]) (by simp [results, Try.results14, go_sem]) rfl ⟨rfl, B2 _ _⟩

set_option maxHeartbeats 1600000 in
theorem implRowCount_any (a : Option Addr) (n ca : Nat) (xs : List Int) (W S : Int) (C : Bool) (w : World) (ha : Rd .u8 w a n xs) (hB : Bytes xs) (h1 : n ≤ 1073741824) (hca : n ≤ ca) (hcm : ca ≤ maxLen) :
    Calls Try.prog 13 #[.slice a n ca, .agg #[.int .i64 W, .bool C, .int .i64 S]] w fun e w' => e = .returned (.agg #[.int .i64 (askF xs W C S), .int .i64 (rcVal xs W C S)]) ∧ Below w.heap.size w w' := by
  have hlen := ha.1
  have HWd := fun w' h => implWidthOf_any a n ca xs w' h hB h1 hca hcm
  have HW : Hid _ := HWd
  clear HWd
  by_cases hL : lyF W C S = 0
  · obtain ⟨hW1, hW2, hS1, hS2, hCS⟩ := lyF_ok hL
    by_cases hn : n ≤ 400
    · have e1 : askF xs W C S = 0 := by unfold askF; rw [if_neg (by omega), if_neg (by omega)]
      have e2 : rcVal xs W C S = (lnRows C W xs : Nat) := by unfold rcVal; rw [if_pos e1]
      have e3 : widthVal xs = .agg #[.int .i64 0, .int .i64 (cellsAll xs).length] := by unfold widthVal cellsCode cellsRes; rw [if_neg (by omega), if_neg (by omega)]
      have hlc : (cellsAll xs).length ≤ 100000 := by have h2 := cellsAll_len hB; omega
      rw [e1, e2]
      rw [e3] at HW
      unfold lnRows
      have R := fun w' => rowsFor_any W S C (cellsAll xs).length w'
      generalize (cellsAll xs).length = k at *
      have HR : Hid _ := R
      clear e1 e2 e3 hCS R
      have LF := fun w' => implLayoutFault_any W S C w'
      rw [hL] at LF
      clear hL
      go_enter Try.func13, Try.ntmps13
      have hb : Below w.heap.size w w := Below.refl _ _
      go_wp2_with fail
      have bp : ∀ o0 o1, Below w.heap.size w ((w.alloc o0).alloc o1) := fun o0 o1 => ((Below.refl _ _).alloc (Nat.le_refl _) o0).alloc (by simp) o1
      have hbt : ∀ o0 o1, Below w.heap.size w ((w.alloc o0).alloc o1) := fun o0 o1 => hb.trans ((bp o0 o1).mono hb.size)
      refine Calls.mono (LF _) ?_
      rintro e w1 ⟨rfl, hc⟩
      have s1 : w.heap.size + 2 ≤ w1.heap.size := by have := hc.size; simp at this; omega
      have bq : Below w.heap.size w w1 := (bp _ _).trans (hc.mono (bp _ _).size)
      have cL0 : w1.cell? ⟨w.heap.size, 0, none⟩ = some (.int .i64 W) := cell_later hc (by simp [go_sem])
      have cL1 : w1.cell? ⟨w.heap.size, 1, none⟩ = some (.bool C) := cell_later hc (by simp [go_sem])
      have cL2 : w1.cell? ⟨w.heap.size, 2, none⟩ = some (.int .i64 S) := cell_later hc (by simp [go_sem])
      have zL : w.heap.size < w1.heap.size := by omega
      have cR0 : w1.cell? ⟨w.heap.size + 1, 0, none⟩ = some (.int .i64 0) := cell_later hc (by simp [go_sem])
      have fR0 : w1.frozen? ⟨w.heap.size + 1, 0, none⟩ = false := (hc.frozen (p := ⟨w.heap.size + 1, 0, none⟩) (by first | (simp; done) | (simp; omega))).trans (by simp [go_sem])
      have cR1 : w1.cell? ⟨w.heap.size + 1, 1, none⟩ = some (.int .i64 0) := cell_later hc (by simp [go_sem])
      have fR1 : w1.frozen? ⟨w.heap.size + 1, 1, none⟩ = false := (hc.frozen (p := ⟨w.heap.size + 1, 1, none⟩) (by first | (simp; done) | (simp; omega))).trans (by simp [go_sem])
      have zR : w.heap.size + 1 < w1.heap.size := by omega
      replace hb := hb.trans (bq.mono hb.size)
      clear hc bq bp hbt
      go_wp2_with fail
      refine Calls.mono (HW.out _ (ha.below hb)) ?_
      rintro e w2 ⟨rfl, hc⟩
      have s2 : w1.heap.size ≤ w2.heap.size := hc.size
      have bq := hc
      replace cL0 := cell_later bq cL0
      replace cL1 := cell_later bq cL1
      replace cL2 := cell_later bq cL2
      replace zL := Nat.lt_of_lt_of_le zL bq.size
      replace cR0 := cell_later bq cR0
      replace fR0 := (bq.frozen (p := ⟨w.heap.size + 1, 0, none⟩) zR).trans fR0
      replace cR1 := cell_later bq cR1
      replace fR1 := (bq.frozen (p := ⟨w.heap.size + 1, 1, none⟩) zR).trans fR1
      replace zR := Nat.lt_of_lt_of_le zR bq.size
      replace hb := hb.trans (bq.mono hb.size)
      clear hc bq
      go_wp2_with fail
      have bp : ∀ o0, Below w2.heap.size w2 (w2.alloc o0) := fun o0 => (Below.refl _ _).alloc (Nat.le_refl _) o0
      have hbt : ∀ o0, Below w.heap.size w (w2.alloc o0) := fun o0 => hb.trans ((bp o0).mono hb.size)
      refine Calls.mono (HR.out _ hW1 hW2 hlc) ?_
      rintro e w3 ⟨rfl, hc⟩
      have s3 : w2.heap.size + 1 ≤ w3.heap.size := by have := hc.size; simp at this; omega
      have bq : Below w2.heap.size w2 w3 := (bp _).trans (hc.mono (bp _).size)
      replace cL0 := cell_later bq cL0
      replace cL1 := cell_later bq cL1
      replace cL2 := cell_later bq cL2
      replace zL := Nat.lt_of_lt_of_le zL bq.size
      replace cR0 := cell_later bq cR0
      replace fR0 := (bq.frozen (p := ⟨w.heap.size + 1, 0, none⟩) zR).trans fR0
      replace cR1 := cell_later bq cR1
      replace fR1 := (bq.frozen (p := ⟨w.heap.size + 1, 1, none⟩) zR).trans fR1
      replace zR := Nat.lt_of_lt_of_le zR bq.size
      have cN0 : w3.cell? ⟨w2.heap.size, 0, none⟩ = some (.int .i64 0) := cell_later hc (by simp [go_sem])
      have cN1 : w3.cell? ⟨w2.heap.size, 1, none⟩ = some (.int .i64 k) := cell_later hc (by simp [go_sem])
      have zN : w2.heap.size < w3.heap.size := by omega
      replace hb := hb.trans (bq.mono hb.size)
      clear hc bq bp hbt
      go_wp2
      exact bodyPost_ret (v := .agg #[.int .i64 0, .int .i64 (rwN C W k : Nat)]) (by simp [results, Try.results13, go_sem, cR0, cR1]) rfl ⟨rfl, ((hb.setCell (by first | omega | (simp; omega) | simp) _).setCell (by first | omega | (simp; omega) | simp) _)⟩
    · have e1 : askF xs W C S = 2 := by unfold askF; rw [if_neg (by omega), if_pos (by omega)]
      have e2 : rcVal xs W C S = 0 := by unfold rcVal; rw [if_neg (by omega)]
      have e3 : widthVal xs = .agg #[.int .i64 2, .int .i64 0] := by unfold widthVal cellsCode cellsRes; rw [if_pos (by omega), if_pos (by omega)]; rfl
      rw [e1, e2]
      rw [e3] at HW
      clear e1 e2 e3 hCS
      have LF := fun w' => implLayoutFault_any W S C w'
      rw [hL] at LF
      clear hL
      go_enter Try.func13, Try.ntmps13
      have hb : Below w.heap.size w w := Below.refl _ _
      go_wp2_with fail
      have bp : ∀ o0 o1, Below w.heap.size w ((w.alloc o0).alloc o1) := fun o0 o1 => ((Below.refl _ _).alloc (Nat.le_refl _) o0).alloc (by simp) o1
      have hbt : ∀ o0 o1, Below w.heap.size w ((w.alloc o0).alloc o1) := fun o0 o1 => hb.trans ((bp o0 o1).mono hb.size)
      refine Calls.mono (LF _) ?_
      rintro e w1 ⟨rfl, hc⟩
      have s1 : w.heap.size + 2 ≤ w1.heap.size := by have := hc.size; simp at this; omega
      have bq : Below w.heap.size w w1 := (bp _ _).trans (hc.mono (bp _ _).size)
      have cL0 : w1.cell? ⟨w.heap.size, 0, none⟩ = some (.int .i64 W) := cell_later hc (by simp [go_sem])
      have cL1 : w1.cell? ⟨w.heap.size, 1, none⟩ = some (.bool C) := cell_later hc (by simp [go_sem])
      have cL2 : w1.cell? ⟨w.heap.size, 2, none⟩ = some (.int .i64 S) := cell_later hc (by simp [go_sem])
      have zL : w.heap.size < w1.heap.size := by omega
      have cR0 : w1.cell? ⟨w.heap.size + 1, 0, none⟩ = some (.int .i64 0) := cell_later hc (by simp [go_sem])
      have fR0 : w1.frozen? ⟨w.heap.size + 1, 0, none⟩ = false := (hc.frozen (p := ⟨w.heap.size + 1, 0, none⟩) (by first | (simp; done) | (simp; omega))).trans (by simp [go_sem])
      have cR1 : w1.cell? ⟨w.heap.size + 1, 1, none⟩ = some (.int .i64 0) := cell_later hc (by simp [go_sem])
      have fR1 : w1.frozen? ⟨w.heap.size + 1, 1, none⟩ = false := (hc.frozen (p := ⟨w.heap.size + 1, 1, none⟩) (by first | (simp; done) | (simp; omega))).trans (by simp [go_sem])
      have zR : w.heap.size + 1 < w1.heap.size := by omega
      replace hb := hb.trans (bq.mono hb.size)
      clear hc bq bp hbt
      go_wp2_with fail
      refine Calls.mono (HW.out _ (ha.below hb)) ?_
      rintro e w2 ⟨rfl, hc⟩
      have s2 : w1.heap.size ≤ w2.heap.size := hc.size
      have bq := hc
      replace cL0 := cell_later bq cL0
      replace cL1 := cell_later bq cL1
      replace cL2 := cell_later bq cL2
      replace zL := Nat.lt_of_lt_of_le zL bq.size
      replace cR0 := cell_later bq cR0
      replace fR0 := (bq.frozen (p := ⟨w.heap.size + 1, 0, none⟩) zR).trans fR0
      replace cR1 := cell_later bq cR1
      replace fR1 := (bq.frozen (p := ⟨w.heap.size + 1, 1, none⟩) zR).trans fR1
      replace zR := Nat.lt_of_lt_of_le zR bq.size
      replace hb := hb.trans (bq.mono hb.size)
      clear hc bq
      go_wp2
      exact bodyPost_ret (v := .agg #[.int .i64 2, .int .i64 0]) (by simp [results, Try.results13, go_sem, cR0, cR1, zR]) rfl ⟨rfl, (((hb.setCell (by first | omega | (simp; omega) | simp) _).setCell (by first | omega | (simp; omega) | simp) _).alloc (by have := hb.size; simp; omega) _)⟩
  · have e1 : askF xs W C S = lyF W C S := by unfold askF; rw [if_pos hL]
    have e2 : rcVal xs W C S = 0 := by unfold rcVal; rw [if_neg (by omega)]
    rw [e1, e2]
    have LF := fun w' => implLayoutFault_any W S C w'
    generalize lyF W C S = F at *
    clear e1 e2
    go_enter Try.func13, Try.ntmps13
    have hb : Below w.heap.size w w := Below.refl _ _
    go_wp2_with fail
    have bp : ∀ o0 o1, Below w.heap.size w ((w.alloc o0).alloc o1) := fun o0 o1 => ((Below.refl _ _).alloc (Nat.le_refl _) o0).alloc (by simp) o1
    have hbt : ∀ o0 o1, Below w.heap.size w ((w.alloc o0).alloc o1) := fun o0 o1 => hb.trans ((bp o0 o1).mono hb.size)
    refine Calls.mono (LF _) ?_
    rintro e w1 ⟨rfl, hc⟩
    have s1 : w.heap.size + 2 ≤ w1.heap.size := by have := hc.size; simp at this; omega
    have bq : Below w.heap.size w w1 := (bp _ _).trans (hc.mono (bp _ _).size)
    have cL0 : w1.cell? ⟨w.heap.size, 0, none⟩ = some (.int .i64 W) := cell_later hc (by simp [go_sem])
    have cL1 : w1.cell? ⟨w.heap.size, 1, none⟩ = some (.bool C) := cell_later hc (by simp [go_sem])
    have cL2 : w1.cell? ⟨w.heap.size, 2, none⟩ = some (.int .i64 S) := cell_later hc (by simp [go_sem])
    have zL : w.heap.size < w1.heap.size := by omega
    have cR0 : w1.cell? ⟨w.heap.size + 1, 0, none⟩ = some (.int .i64 0) := cell_later hc (by simp [go_sem])
    have fR0 : w1.frozen? ⟨w.heap.size + 1, 0, none⟩ = false := (hc.frozen (p := ⟨w.heap.size + 1, 0, none⟩) (by first | (simp; done) | (simp; omega))).trans (by simp [go_sem])
    have cR1 : w1.cell? ⟨w.heap.size + 1, 1, none⟩ = some (.int .i64 0) := cell_later hc (by simp [go_sem])
    have fR1 : w1.frozen? ⟨w.heap.size + 1, 1, none⟩ = false := (hc.frozen (p := ⟨w.heap.size + 1, 1, none⟩) (by first | (simp; done) | (simp; omega))).trans (by simp [go_sem])
    have zR : w.heap.size + 1 < w1.heap.size := by omega
    replace hb := hb.trans (bq.mono hb.size)
    clear hc bq bp hbt
    go_wp2
    exact bodyPost_ret (v := .agg #[.int .i64 F, .int .i64 0]) (by simp [results, Try.results13, go_sem, cR0, cR1]) rfl ⟨rfl, ((hb.setCell (by first | omega | (simp; omega) | simp) _).setCell (by first | omega | (simp; omega) | simp) _)⟩
end Go.Proofs.Ythkgplpdoaebiaa
