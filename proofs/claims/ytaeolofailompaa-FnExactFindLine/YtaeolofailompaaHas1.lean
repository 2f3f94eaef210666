/-
  Chapter 9: a line that has a pattern, of the program.
-/
import Derived.Test.YtaeolofailompaaHasM
import Derived.Test.YtaeolofailompaaRun2a
import Derived.Test.YtaeolofailompaaProg2
import Derived.Test.YtaeolofailompaaMath2
import Derived.Deep.RegionHeld3
namespace Go.Proofs.Ytaeolofailompaa
open Go.RowKit
set_option linter.unusedVariables false
set_option linter.unusedSimpArgs false

/-- The program's set at a place, ahead of its closing. -/
def preI (is : List In) (text : List Int) : Nat → List Bool
  | 0 => List.replicate 80 false
  | k + 1 => stepI is (text.getD k 0) (placesTo (usI is text k) is.length)
theorem preI_len (is : List In) (text : List Int) (k : Nat) : (preI is text k).length = 80 := by
  cases k with
  | zero => simp [preI]
  | succ k => exact stepI_len _ _ _
theorem usI_pre (is : List In) (text : List Int) (k : Nat) : usI is text k = closeI is (decide (k = 0)) (decide (k = text.length)) (placesOf ((preI is text k).set 0 true)) := by
  cases k with
  | zero => rfl
  | succ k => rw [usI, preI, show decide (k + 1 = 0) = false by simp]
theorem preI_below {is : List In} {text : List Int} (hin : Inside is) (h1 : 1 ≤ is.length) (h80 : is.length ≤ 80) (k : Nat) : BelowN ((preI is text k).set 0 true) is.length := by
  cases k with
  | zero =>
    intro q hq
    rcases getD_set_true hq with rfl | h
    · omega
    · rw [preI, rep_false] at h; cases h
  | succ k => exact (usI_len (text := text) hin h1 h80 k).2.2 false _

theorem bytes_at9 {xs : List Int} {k : Nat} (h : Bytes xs) (hk : k < xs.length) : 0 ≤ xs.getD k 0 ∧ xs.getD k 0 < 256 := by
  have hm : xs.getD k 0 ∈ xs := by
    rw [List.getD_eq_getElem?_getD, List.getElem?_eq_getElem hk, Option.getD_some]
    exact List.getElem_mem hk
  have := h _ hm
  omega

set_option maxHeartbeats 6400000 in
set_option maxRecDepth 20000 in
theorem isDoneIn_any (a : Option Addr) (n ca : Nat) (is : List In) (x : Option Addr) (m cx : Nat) (xs : List Int) (hin : Inside is) (h1 : 1 ≤ n) (h2 : n ≤ 80) (hm : m ≤ 400) (hB : Bytes xs) (w : World) (ha : RdR inE 8 w a n is) (hx : Rd .u8 w x m xs) :
    Calls Try.prog 146 #[.slice a n ca, .slice x m cx] w fun r w' => r = .returned (.bool (hasV is xs)) ∧ Below w.heap.size w w' := by
  obtain ⟨R, hR⟩ : ∃ R, R = hasV is xs := ⟨_, rfl⟩
  rw [← hR]
  have hln := ha.1
  have hlx := hx.1
  have HYES : Hid (∀ k, k ≤ m → doneL is (placesTo (usI is xs k) n) = true → R = true) := hid (fun k hk h => by rw [hR]; exact usI_yes hin (by omega) (by omega) (i := k) (by omega) (by rw [hln]; exact h))
  have HNO : Hid ((∀ k, k ≤ m → doneL is (placesTo (usI is xs k) n) = false) → R = false) := hid (fun h => by rw [hR]; exact usI_no hin (by omega) (by omega) (fun k hk => by rw [hln]; exact h k (by omega)))
  have HBY : Hid _ := hid hB
  have HLN : Hid _ := hid hln
  have HLX : Hid _ := hid hlx
  obtain ⟨Z, hZ⟩ : ∃ Z, Z = boolsA (List.replicate 80 false) := ⟨_, rfl⟩
  have hzv := zero80
  rw [← hZ] at hzv
  have HZS : Hid (Z.size = 80) := by rw [hZ]; exact size_set80 (by simp)
  have HZ : Hid _ := hid hZ
  clear hR hB hln hlx hZ
  obtain ⟨B, hBB⟩ : ∃ B, B = w.heap.size := ⟨_, rfl⟩
  go_enter Try.func146, Try.ntmps146
  go_wp2
  go_loopw [7] (fun i wr => ∃ k : Nat, k ≤ m ∧ i = .int .i64 k ∧ Hid (Blk wr B (boolsA (preI is xs k)) 167) ∧ Below w.heap.size w wr ∧ Hid (∀ j, j < k → doneL is (placesTo (usI is xs j) n) = false)) (fun i _ => m + 1 - (intOf i).toNat)
  case atStart =>
    refine ⟨0, Nat.zero_le _, rfl, ?_, (Below.refl _ _).alloc (Nat.le_refl _) _, hid (fun j hj => absurd hj (Nat.not_lt_zero _))⟩
    rw [hBB, HZ.out]
    exact hid (Blk.new w _ _)
  case round =>
    obtain ⟨k, hk, rfl, HBk, hbw, HND⟩ := hrel
    simp only [← hBB]
    have hBw : B ≤ w.heap.size := by omega
    have hBw2 : w.heap.size ≤ B := by omega
    clear hBB
    have hpl := preI_len is xs k
    have hpb := preI_below (text := xs) hin (by have := HLN.out; omega) (by have := HLN.out; omega) k
    rw [HLN.out] at hpb
    have c0 := HBk.out.cell 0
    rw [boolsA_at _ 0 (by omega)] at c0
    have cf0 := HBk.out.frozen 0
    have hix : ∀ w', (Instr.indexAt 167 (.pointer (some ⟨B, 0, none⟩)) (.int .i64 0)).run Try.prog w' = .ok (.pointer (some ⟨B, 0, none⟩)) w' := fun w' => indexAt80 B 0 (by omega) w'
    have HB1 : Hid (Blk (wr.setCell ⟨B, 0, none⟩ (.bool true)) B (boolsA ((preI is xs k).set 0 true)) 167) := hid (HBk.out.mark 0 true)
    have HW1 : Hid (Below w.heap.size w (wr.setCell ⟨B, 0, none⟩ (.bool true))) := hid (hbw.setCell (by show w.heap.size ≤ B; omega) _)
    obtain ⟨B0, hB0⟩ : ∃ B, B = decide (k = 0) := ⟨_, rfl⟩
    obtain ⟨E0, hE0⟩ : ∃ E, E = decide (k = xs.length) := ⟨_, rfl⟩
    have hus := usI_pre is xs k
    rw [← hB0, ← hE0] at hus
    have hB1 : ((k : Int) == 0) = B0 := by rw [hB0, Bool.eq_iff_iff]; simp
    have hB2 : decide ((k : Int) = 0) = B0 := by rw [hB0, decide_eq_decide]; omega
    have hE1 : ((k : Int) == (m : Int)) = E0 := by rw [hE0, Bool.eq_iff_iff]; simp only [beq_iff_eq, decide_eq_true_eq]; have := HLX.out; omega
    have hE2 : decide ((k : Int) = (m : Int)) = E0 := by rw [hE0, decide_eq_decide]; have := HLX.out; omega
    have hul := (usI_len (text := xs) hin (by have := HLN.out; omega) (by have := HLN.out; omega) k).1
    have HC0 := hid (fun w' h' => closed_any a n ca is B0 E0 hin h2 ((preI is xs k).set 0 true) w' (by rw [List.length_set]; exact hpl) hpb h')
    rw [← hus] at HC0
    have HDN := hid (fun w' h' => isDone_any a n ca is h2 (usI is xs k) w' hul h')
    obtain ⟨D, hD⟩ : ∃ D, D = doneL is (placesTo (usI is xs k) n) := ⟨_, rfl⟩
    rw [← hD] at HDN
    have HD := hid hD
    obtain ⟨A1, hA1⟩ : ∃ q, q = boolsA ((preI is xs k).set 0 true) := ⟨_, rfl⟩
    have HS1 : Hid (A1.size = 80) := by rw [hA1]; exact size_set80 (by rw [List.length_set]; exact hpl)
    rw [← hA1] at HB1 HC0
    obtain ⟨A2, hA2⟩ : ∃ q, q = boolsA (usI is xs k) := ⟨_, rfl⟩
    have HS2 : Hid (A2.size = 80) := by rw [hA2]; exact size_set80 hul
    have HO2 : Hid (A2.all (·.oneCell') = true) := by rw [hA2]; exact boolsA_one _
    rw [← hA2] at HC0 HDN
    have HA2 := hid hA2
    have HUL := hid hul
    have HEK : Hid (E0 = true ↔ k = m) := hid (by rw [hE0, decide_eq_true_eq]; have := HLX.out; omega)
    clear hpl hpb hB0 hE0 hus hul hD hA1 hA2
    go_wp2_with (first | ((with_reducible show wpList _ _ _ (({ dst := _, op := .load 167 _, type := _, pos := _, after := _, guard := _ } : Oper) :: _) _ _); refine wpList_load_row rfl 167 _ rfl _ rfl 167 (A1) (0, 0) _ HB1.out under80 rfl (size80 HS1.out) ?_) | ((with_reducible show wpList _ _ _ (({ dst := _, op := .store 167 _ _, type := _, pos := _, after := _, guard := _ } : Oper) :: _) _ _); refine wpList_store_row rfl 167 _ _ rfl _ (A1) rfl rfl 167 (A1) HB1.out (size80 HS1.out) (HS1.out.trans HS1.out.symm) HO2.out ?_))
    refine (HC0.out _ (ha.below HW1.out)).mono ?_
    rintro r w3 ⟨rfl, hb3⟩
    have HB3 : Hid (Blk w3 B A1 167) := hid (HB1.out.below hb3)
    have HW3 := hid (HW1.out.trans (hb3.mono HW1.out.size))
    have HW4 : Hid (Below w.heap.size w (w3.setRow B A2)) := hid (below_setRow HW3.out (by omega) _)
    have HB4 : Hid (Blk (w3.setRow B A2) B A2 167) := hid (HB3.out.setRow A2)
    clear hb3
    clear c0 cf0 hix
    go_wp2_with (first | ((with_reducible show wpList _ _ _ (({ dst := _, op := .load 167 _, type := _, pos := _, after := _, guard := _ } : Oper) :: _) _ _); refine wpList_load_row rfl 167 _ rfl _ rfl 167 (A2) (0, 0) _ HB4.out under80 rfl (size80 HS2.out) ?_) | ((with_reducible show wpList _ _ _ (({ dst := _, op := .store 167 _ _, type := _, pos := _, after := _, guard := _ } : Oper) :: _) _ _); refine wpList_store_row rfl 167 _ _ rfl _ (A2) rfl rfl 167 (A1) HB3.out (size80 HS2.out) (HS1.out.trans HS2.out.symm) HO2.out ?_))
    refine (HDN.out _ (ha.below HW4.out)).mono ?_
    rintro r w5 ⟨rfl, hb5⟩
    have HB5 : Hid (Blk w5 B A2 167) := hid (HB4.out.below hb5)
    have HW5 := hid (HW4.out.trans (hb5.mono HW4.out.size))
    clear hb5
    cases D
    case true =>
      go_wp2
      go_ret
      exact ⟨ret_bool (HYES.out k hk HD.out.symm).symm, HW5.out⟩
    have HND2 : Hid (∀ j, j < k + 1 → doneL is (placesTo (usI is xs j) n) = false) := hid (fun j hj => by
      by_cases e : j = k
      · subst e; exact HD.out.symm
      · exact HND.out j (by omega))
    cases E0
    case true =>
      go_wp2
      go_ret
      exact ⟨ret_bool (HNO.out (fun j hj => HND2.out j (by have := HEK.out.1 (by simp); omega))).symm, HW5.out⟩
    have hkm : k < m := by
      by_cases e : k = m
      · have := HEK.out.2 e; cases this
      · omega
    have hkmi : (k : Int) < (m : Int) := by omega
    obtain ⟨bx, ox, rfl, hcx⟩ := (hx.below HW5.out).at hkm
    have ck := hcx k hkm
    have hdd := bytes_at9 HBY.out (show k < xs.length by have := HLX.out; omega)
    have HST := hid (fun w' h' => stepped_any a n ca is hin (xs.getD k 0) hdd.1 hdd.2 h2 (usI is xs k) w' HUL.out h')
    have hpre : preI is xs (k + 1) = stepI is (xs.getD k 0) (placesTo (usI is xs k) n) := by rw [preI, HLN.out]
    rw [← hpre, ← HA2.out] at HST
    obtain ⟨A6, hA6⟩ : ∃ q, q = boolsA (preI is xs (k + 1)) := ⟨_, rfl⟩
    have HS6 : Hid (A6.size = 80) := by rw [hA6]; exact size_set80 (preI_len _ _ _)
    have HO6 : Hid (A6.all (·.oneCell') = true) := by rw [hA6]; exact boolsA_one _
    rw [← hA6] at HST
    have HA6 := hid hA6
    generalize xs.getD k 0 = d at ck HST
    have hwr : IntKind.i64.wrap ((k : Int) + 1) = (k : Int) + 1 := by rw [IntKind.wrap_i64]; omega
    have hbxw : bx < w.heap.size := block_lt_of_cell ((hx.at hkm).choose_spec.choose_spec.2 k hkm |> fun h => by obtain ⟨b', o', e', h'⟩ := hx.at hkm; simp only [Option.some.injEq, Addr.mk.injEq] at e'; obtain ⟨rfl, rfl, -⟩ := e'; exact h' k hkm)
    clear hcx hdd hpre hA6
    go_wp2
    · refine wp_region_held_drew (S := fun w' => (∃ u, Blk w' B u 167) ∧ w'.cell? ⟨bx, ox + k, none⟩ = some (.int .u8 d)) (by kernel_rfl) (by exact ⟨⟨A2, HB5.out⟩, ck⟩) (fun hS => ?_)
      refine wpAnyH_take (i := 1) (v := (.slice a n ca)) rfl (by as_aux_lemma => kernel_rfl) (by as_aux_lemma => kernel_rfl) (by as_aux_lemma => kernel_rfl) (fun _ _ _ h => h) (Or.inl ⟨by kernel_rfl, ?_⟩) hS ?_
      · intro w hSw; (try dsimp only at hSw); go_simp
      (try simp only [Act.put, List.getElem_toArray, List.getElem_cons_zero, List.getElem_cons_succ, List.setIfInBounds_toArray, List.set_cons_zero, List.set_cons_succ])
      refine wpAnyH_take (i := 2) (v := (.slice (some ⟨bx, ox, none⟩) m cx)) rfl (by as_aux_lemma => kernel_rfl) (by as_aux_lemma => kernel_rfl) (by as_aux_lemma => kernel_rfl) (fun _ _ _ h => h) (Or.inl ⟨by kernel_rfl, ?_⟩) hS ?_
      · intro w hSw; (try dsimp only at hSw); go_simp
      (try simp only [Act.put, List.getElem_toArray, List.getElem_cons_zero, List.getElem_cons_succ, List.setIfInBounds_toArray, List.set_cons_zero, List.set_cons_succ])
      refine wpAnyH_take (i := 3) (v := (.int .i64 (k : Int))) rfl (by as_aux_lemma => kernel_rfl) (by as_aux_lemma => kernel_rfl) (by as_aux_lemma => kernel_rfl) (fun _ _ _ h => h) (Or.inl ⟨by kernel_rfl, ?_⟩) hS ?_
      · intro w hSw; (try dsimp only at hSw); go_simp
      (try simp only [Act.put, List.getElem_toArray, List.getElem_cons_zero, List.getElem_cons_succ, List.setIfInBounds_toArray, List.set_cons_zero, List.set_cons_succ])
      refine wpAnyH_take (i := 4) (v := (.pointer (some ⟨bx, ox + k, none⟩))) rfl (by as_aux_lemma => kernel_rfl) (by as_aux_lemma => kernel_rfl) (by as_aux_lemma => kernel_rfl) (fun _ _ _ h => h) (Or.inl ⟨by kernel_rfl, ?_⟩) hS ?_
      · intro w hSw; (try dsimp only at hSw); go_simp
      (try simp only [Act.put, List.getElem_toArray, List.getElem_cons_zero, List.getElem_cons_succ, List.setIfInBounds_toArray, List.set_cons_zero, List.set_cons_succ])
      refine wpAnyH_take (i := 5) (v := (.int .u8 d)) rfl (by as_aux_lemma => kernel_rfl) (by as_aux_lemma => kernel_rfl) (by as_aux_lemma => kernel_rfl) (fun _ _ _ h => h) (Or.inl ⟨by kernel_rfl, ?_⟩) hS ?_
      · intro w hSw; (try dsimp only at hSw); go_simp
      (try simp only [Act.put, List.getElem_toArray, List.getElem_cons_zero, List.getElem_cons_succ, List.setIfInBounds_toArray, List.set_cons_zero, List.set_cons_succ])
      refine wpAnyH_ready (rs := [0]) (by as_aux_lemma => kernel_rfl) (by simp) ?_
      refine AllReadyH.cons rfl (fun K hK => ?_) AllReadyH.nil
      refine wp_load_row 167 _ rfl B rfl 167 A2 (0, 0) _ (show Blk w5.drew B A2 167 from HB5.out) under80 rfl (size80 HS2.out) ?_
      refine hK.out _ _ hS (fun hS => ?_)
      clear hK K
      (try simp only [Act.put, List.getElem_toArray, List.getElem_cons_zero, List.getElem_cons_succ, List.setIfInBounds_toArray, List.set_cons_zero, List.set_cons_succ])
      refine wpAnyH_ready (rs := [6]) (by as_aux_lemma => kernel_rfl) (by simp) ?_
      refine AllReadyH.cons rfl (fun K hK => ?_) AllReadyH.nil
      go_simp
      refine (HST.out _ (ha.below HW5.out.drew)).mono ?_
      rintro r6 w6 ⟨rfl, hb6⟩
      have HB6 : Hid (Blk w6 B A2 167) := hid ((show Blk w5.drew B A2 167 from HB5.out).below hb6)
      refine hK.out _ _ ⟨⟨A2, HB6.out⟩, cell_later hb6 hS.2⟩ (fun hS5 => ?_)
      clear hK K hS
      have hS := hS5
      clear hS5
      have hbw6 := HW5.out.drew.trans (hb6.mono HW5.out.size)
      clear hb6
      (try simp only [Act.put, List.getElem_toArray, List.getElem_cons_zero, List.getElem_cons_succ, List.setIfInBounds_toArray, List.set_cons_zero, List.set_cons_succ])
      refine wpAnyH_ready (rs := [7]) (by as_aux_lemma => kernel_rfl) (by simp) ?_
      refine AllReadyH.cons rfl (fun K hK => ?_) AllReadyH.nil
      refine wp_store_row 167 _ _ rfl B A6 rfl rfl 167 A2 HB6.out (size80 HS6.out) (HS2.out.trans HS6.out.symm) HO6.out ?_
      have ck6 : (w6.setRow B A6).cell? ⟨bx, ox + k, none⟩ = some (.int .u8 d) := (World.cell?_of_block (setRow_other w6 B bx A6 (by omega))).trans hS.2
      refine hK.out _ _ ⟨⟨A6, HB6.out.setRow A6⟩, ck6⟩ (fun hS7 => ?_)
      clear hK K hS
      have hS := hS7
      clear hS7
      (try simp only [Act.put, List.getElem_toArray, List.getElem_cons_zero, List.getElem_cons_succ, List.setIfInBounds_toArray, List.set_cons_zero, List.set_cons_succ])
      refine wpAnyH_done (by kernel_rfl) ?_ _
      have hb7 : Below w.heap.size w (w6.setRow B A6) := below_setRow hbw6 (by omega) _
      have HB7 : Hid (Blk (w6.setRow B A6) B (boolsA (preI is xs (k + 1))) 167) := by rw [← HA6.out]; exact hid (HB6.out.setRow A6)
      clear hS hbw6 ck ck6
      go_wp2
      go_roundw
      case rel => exact ⟨k + 1, by omega, by go_num, HB7, (by first | exact hb7 | exact hb7.mono (by omega)), HND2⟩
      case measure => simp [intOf]; omega

set_option maxHeartbeats 1600000 in
theorem implLineHas_any (a : Option Addr) (n ca : Nat) (is : List In) (x : Option Addr) (m cx : Nat) (xs : List Int) (hB : Bytes xs) (w : World) (ha : RdR inE 8 w a n is) (hx : Rd .u8 w x m xs) (hs : inSum is ≤ 1048576) (h1 : n ≤ 1048576) (h2 : m ≤ 1048576) :
    Calls Try.prog 62 #[.slice a n ca, .slice x m cx] w fun r w' => r = .returned (.bool (lineHas is xs)) ∧ Below w.heap.size w w' := by
  have HP := hid (fun w' h' => implProgFault_any a n ca is w' h' hs h1)
  have hlx := hx.1
  obtain ⟨R, hR⟩ : ∃ R, R = lineHas is xs := ⟨_, rfl⟩
  rw [← hR]
  unfold lineHas at hR
  by_cases hp : progFault is = 0
  case neg =>
    have hr : R = false := by rw [hR]; simp [hp]
    subst hr
    generalize progFault is = P at *
    have hp' : (P == 0) = false := by simpa using hp
    have hp'' : decide (P = 0) = false := by simpa using hp
    clear hR hlx hp
    go_enter Try.func62, Try.ntmps62
    go_wp2_with fail
    refine Calls.mono (HP.out _ ha) ?_
    rintro r w1 ⟨rfl, hb1⟩
    go_wp2
    go_ret
    exact ⟨rfl, hb1⟩
  have hpo := progFault_ok hp
  have hin := inside_of hp
  rw [hp] at HP
  by_cases h4 : m ≤ 400
  case neg =>
    have hr : R = false := by rw [hR]; simp; intro _ h; omega
    subst hr
    have h4' : ¬ (m : Int) ≤ 400 := by omega
    clear hR hlx hp hpo hin
    go_enter Try.func62, Try.ntmps62
    go_wp2_with fail
    refine Calls.mono (HP.out _ ha) ?_
    rintro r w1 ⟨rfl, hb1⟩
    go_wp2
    go_ret
    exact ⟨rfl, hb1⟩
  have hr : R = hasV is xs := by rw [hR, hp]; simp; intro _; omega
  have HD := hid (fun w' h' k' => isDoneIn_any a n ca is x m cx xs hin (by have := ha.1; omega) (by have := ha.1; omega) h4 hB w' h' k')
  rw [← hr] at HD
  have h4' : (m : Int) ≤ 400 := by omega
  clear hR hlx hp hpo hin hr hB
  go_enter Try.func62, Try.ntmps62
  go_wp2_with fail
  refine Calls.mono (HP.out _ ha) ?_
  rintro r w1 ⟨rfl, hb1⟩
  go_wp2_with fail
  refine Calls.mono (HD.out _ (ha.below hb1) (hx.below hb1)) ?_
  rintro r w2 ⟨rfl, hb2⟩
  have hb := hb1.trans (hb2.mono hb1.size)
  clear hb1 hb2
  go_wp2
  go_ret
  exact ⟨rfl, hb⟩
end Go.Proofs.Ytaeolofailompaa
