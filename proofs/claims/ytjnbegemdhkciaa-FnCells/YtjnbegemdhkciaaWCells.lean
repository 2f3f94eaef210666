/-
  The walk of FnCells.
-/
import Derived.Test.YtjnbegemdhkciaaDraw4
import Derived.Test.YtjnbegemdhkciaaMathF
import Derived.Test.YtjnbegemdhkciaaCells3
import Derived.Test.YtjnbegemdhkciaaText
import Derived.Deep.RegionWith
import Derived.Deep.RegionHeld3
namespace Go.Proofs.Ytjnbegemdhkciaa.fnCells
open Go.RowKit
set_option linter.unusedVariables false
set_option linter.unusedSimpArgs false

theorem fldC0 (x y : Value) (w : World) : (Instr.field 37 (.agg #[x, y]) 0).run Try.prog w = .ok x w := by kernel_rfl
theorem fldI0 (x y : Value) (w : World) : (Instr.field 40 (.agg #[x, y]) 0).run Try.prog w = .ok x w := by kernel_rfl
theorem fldI1 (x y : Value) (w : World) : (Instr.field 40 (.agg #[x, y]) 1).run Try.prog w = .ok y w := by kernel_rfl
theorem fldT0 (x y : Value) (w : World) : (Instr.field 46 (.agg #[x, y]) 0).run Try.prog w = .ok x w := by kernel_rfl
theorem fldT1 (x y : Value) (w : World) : (Instr.field 46 (.agg #[x, y]) 1).run Try.prog w = .ok y w := by kernel_rfl

set_option maxRecDepth 10000 in
set_option maxHeartbeats 3200000 in
theorem walk (a : Option Addr) (n ca : Nat) (xs : List Int) (w : World) (ha : Rd .u8 w a n xs) (hB : Bytes xs) (hm : n ≤ maxLen) :
    Calls Try.prog 4 #[.slice a n ca] w fun e w' => e = .returned (.bool true) ∧ Below w.heap.size w w' := by
  unfold maxLen at hm
  by_cases hn : n ≤ 1048576
  · go_enter Try.func4, Try.ntmps4
    go_wp2_with (go_at_call 11; go_in)
    refine (DrawCellsOf_any a n ca xs _ ha hB hn).mono ?_
    rintro e w1 ⟨v1, ys, rfl, ho1, hyl, hyb, hb1⟩
    obtain ⟨ay, cy, hv1, hr1, hc1, hm1⟩ := ho1.rdc
    subst hv1
    have C := implCellsOf_any ay ys.length cy ys _ hr1 hyb (by omega) hc1 hm1
    have SC := fun w' h => specCellsOf_any ay ys.length cy ys w' h hyb (by omega)
    have IW := fun w' h => implWidthOf_any ay ys.length cy ys w' h hyb (by omega) hc1 hm1
    unfold widthVal at IW
    clear hc1 hm1 hr1
    by_cases hlen : ys.length ≤ 400
    · have e1 : cellsCode ys = 0 := by unfold cellsCode; rw [if_neg (by omega)]
      have e2 : cellsRes ys = cellsAll ys := by unfold cellsRes; rw [if_neg (by omega)]
      have hwk := cellsAll_walk hyb
      have hfl := cellsAll_fault hyb hlen
      have hcl := cellsAll_len hyb
      rw [e1, e2] at C IW
      clear e1 e2 SC
      generalize cellsAll ys = cs at *
      have HC : Hid _ := C
      have HIW : Hid _ := IW
      have HWK : Hid _ := hwk
      have HFL : Hid _ := hfl
      clear C IW hwk hfl
      go_wp2_with fail
      refine Calls.mono HC.out ?_
      rintro e w2 ⟨v2, rfl, ho2, hb2⟩
      obtain ⟨ac, cc, hv2, _⟩ := ho2.rd cellE_len
      subst hv2
      have hy2 := ho1.below hb2
      have hb02 := hb1.trans (hb2.mono hb1.size)
      clear HC hb1 hb2 ho1
      have z02 := hb02.size
      obtain ⟨m, hmm⟩ : ∃ m, m = cs.length := ⟨_, rfl⟩
      rw [← hmm] at ho2 ⊢
      have hm16 : m ≤ 1600 := by omega
      have HMM : Hid _ := hmm
      clear hmm hcl
      go_wp2
      go_loopw [5, 6, 7] (fun A L K wr => ∃ (k : Nat) (p l : Int), k ≤ m ∧ A = .int .i64 p ∧ L = .int .i64 l ∧ K = .int .i64 k ∧ 0 ≤ p ∧ p ≤ ys.length ∧ 0 ≤ l ∧ l ≤ ys.length ∧ walkOk ys.length p l (cs.drop k) ∧ Below (w2.heap.size + 1) (w2.alloc (.cells #[.int .i64 0, .slice ac m cc] 37)) wr) (fun _ _ K _ => m - (intOf K).toNat)
      case atStart => exact ⟨0, 0, 0, by omega, rfl, rfl, rfl, by omega, by omega, by omega, by omega, HWK.out, Below.refl _ _⟩
      case round =>
        obtain ⟨k, p, l, hk, rfl, rfl, rfl, p0, p1, l0, l1, hwk, hb⟩ := hrel
        have HW : Hid _ := hwk
        clear hwk
        have c0 : wr.cell? ⟨w2.heap.size, 0, none⟩ = some (.int .i64 0) := (hb.cell (p := ⟨w2.heap.size, 0, none⟩) (by simp)).trans (by simp)
        have c1 : wr.cell? ⟨w2.heap.size, 1, none⟩ = some (.slice ac m cc) := (hb.cell (p := ⟨w2.heap.size, 1, none⟩) (by simp)).trans (by simp)
        have z2 : w2.heap.size < wr.heap.size := by have := hb.size; simp at this; omega
        have b2r : Below w2.heap.size w2 wr := ((Below.refl _ _).alloc (Nat.le_refl _) _).trans (hb.mono (Nat.le_succ _))
        by_cases hlt : k < m
        · have hlt' : (k : Int) < (m : Int) := by omega
          obtain ⟨bb, off, c, hac, hx, hc⟩ := (OwnR.read cellE_len (ho2.below b2r)).at hlt
          subst hac
          have h3 := three hc
          have hok := walkOk_at HW.out hx
          clear hx hc
          obtain ⟨x, y, z⟩ := c
          obtain ⟨k0, k1, k2⟩ := h3
          simp only at k0 k1 k2 hok
          obtain ⟨y0, yy, z1, yz, hnext⟩ := hok
          have q1 : ¬ z < 1 := by omega
          have q2 : ¬ (ys.length : Int) < y + z := by omega
          have HN : Hid _ := hnext
          clear hnext
          by_cases hyp : y = p
          · subst hyp
            have hnx := HN.out.1 rfl
            have HX : Hid _ := hnx
            clear hnx HN HW yy
            go_wp2
            go_roundw
            case rel => exact ⟨k + 1, y + z, y, by omega, by go_num, rfl, by go_num, by omega, by omega, by omega, by omega, HX.out, hb.alloc (by have := hb.size; simpa using this) _⟩
            case measure => simp [intOf]; omega
          · obtain rfl : y = l := by omega
            have hnx := HN.out.2 hyp
            have HX : Hid _ := hnx
            have hyp' : (y == p) = false := by simpa using hyp
            clear hnx HN HW yy
            go_wp2
            go_roundw
            case rel => exact ⟨k + 1, p, y, by omega, rfl, rfl, by go_num, by omega, by omega, by omega, by omega, HX.out, hb.alloc (by have := hb.size; simpa using this) _⟩
            case measure => simp [intOf]; omega
        · have hpe := walkOk_end HW.out (by rw [← HMM.out]; omega)
          subst hpe
          have hb0r : Below w.heap.size w wr := hb02.trans (b2r.mono z02)
          have ho3 := ho2.below b2r
          have hy3 := hy2.below b2r
          clear HW hb b2r l0 l1 p0 p1 hb02 ho2 hy2
          go_wp2_with fail
          refine (DrawCellsText_any a n ca xs _ (ha.below hb0r) hB hn).mono ?_
          rintro e w3 ⟨v3, ds, rfl, hod, hdl, hb3⟩
          obtain ⟨ad, cd, hvd, _⟩ := hod.rd cellE_len
          subst hvd
          have ho4 := ho3.below hb3
          have hy4 := hy3.below hb3
          have c30 := cell_later hb3 c0
          have c31 := cell_later hb3 c1
          have hb03 := hb0r.trans (hb3.mono hb0r.size)
          have z23 : w2.heap.size < w3.heap.size := by have := hb3.size; omega
          clear hb3 ho3 hy3 c0 c1 hb0r
          have IT := implCellsText_any ad ds.length cd ds _ (OwnR.read cellE_len hod) (by unfold maxLen; omega)
          have ST := fun w' h => specCellsText_any ad ds.length cd ds w' h (by unfold maxLen; omega)
          have CF := fun w' h => implCellsFault_any ac m cc cs w' h (by unfold maxLen; omega)
          rw [HFL.out] at CF
          unfold textVal at IT ST
          generalize cellsFault ds = tc at IT ST
          generalize (if tc = 0 then strOf (text ds) else ⟨#[]⟩) = ts at IT ST
          have HIT : Hid _ := IT
          have HST : Hid _ := ST
          have HCF : Hid _ := CF
          clear IT ST CF
          go_wp2_with fail
          refine Calls.mono HIT.out ?_
          rintro e w4 ⟨rfl, hb4⟩
          have ho5 := ho4.below hb4
          have hy5 := hy4.below hb4
          have hd5 := hod.below hb4
          have c40 := cell_later hb4 c30
          have c41 := cell_later hb4 c31
          have hb04 := hb03.trans (hb4.mono hb03.size)
          have z24 : w2.heap.size < w4.heap.size := by have := hb4.size; omega
          clear hb4 ho4 hy4 hod c30 c31 hb03 HIT
          have hwid := HIW.out
          rw [← HMM.out] at hwid
          have HW2 : Hid _ := hwid
          clear hwid HIW
          have b45 : Below w4.heap.size w4 (w4.alloc (.cells #[.int .i64 tc, .string ts] 46)).drew := ((Below.refl _ _).alloc (Nat.le_refl _) _).drew
          have z2a : w2.heap.size ≠ w4.heap.size := by omega
          have fI := fldI1
          have fT0 := fldT0
          have fT1 := fldT1
          go_wp2_with fail
          refine wp_region_held_drew (S := fun w' => w'.cell? ⟨w2.heap.size, 1, none⟩ = some (.slice ac m cc) ∧ w'.cell? ⟨w4.heap.size, 0, none⟩ = some (.int .i64 tc) ∧ w'.cell? ⟨w4.heap.size, 1, none⟩ = some (.string ts)) (by kernel_rfl) ⟨cell_later b45 c41, by simp [go_sem], by simp [go_sem]⟩ (fun hS => ?_)
          refine wpAnyH_take (i := 0) (v := (.int .i64 (ys.length : Int))) rfl (by kernel_rfl) (by kernel_rfl) (by kernel_rfl) (fun _ _ _ h => h) (Or.inl ⟨by rfl, ?_⟩) hS ?_
          · intro w hSw; (try dsimp only at hSw); go_simp
          simp only [Act.put, List.getElem_toArray, List.getElem_cons_zero, List.getElem_cons_succ, List.setIfInBounds_toArray, List.set_cons_zero, List.set_cons_succ]
          refine wpAnyH_take (i := 1) (v := (.slice ay ys.length cy)) rfl (by kernel_rfl) (by kernel_rfl) (by kernel_rfl) (fun _ _ _ h => h) (Or.inl ⟨by rfl, ?_⟩) hS ?_
          · intro w hSw; (try dsimp only at hSw); go_simp
          simp only [Act.put, List.getElem_toArray, List.getElem_cons_zero, List.getElem_cons_succ, List.setIfInBounds_toArray, List.set_cons_zero, List.set_cons_succ]
          refine wpAnyH_take (i := 2) (v := (.int .i64 (ys.length : Int))) rfl (by kernel_rfl) (by kernel_rfl) (by kernel_rfl) (fun _ _ _ h => h) (Or.inl ⟨by rfl, ?_⟩) hS ?_
          · intro w hSw; (try dsimp only at hSw); go_simp
          simp only [Act.put, List.getElem_toArray, List.getElem_cons_zero, List.getElem_cons_succ, List.setIfInBounds_toArray, List.set_cons_zero, List.set_cons_succ]
          refine wpAnyH_take (i := 3) (v := (.bool true)) rfl (by kernel_rfl) (by kernel_rfl) (by kernel_rfl) (fun _ _ _ h => h) (Or.inl ⟨by rfl, ?_⟩) hS ?_
          · intro w hSw; (try dsimp only at hSw); go_simp
          simp only [Act.put, List.getElem_toArray, List.getElem_cons_zero, List.getElem_cons_succ, List.setIfInBounds_toArray, List.set_cons_zero, List.set_cons_succ]
          refine wpAnyH_take (i := 4) (v := (.bool true)) rfl (by kernel_rfl) (by kernel_rfl) (by kernel_rfl) (fun _ _ _ h => h) (Or.inl ⟨by rfl, ?_⟩) hS ?_
          · intro w hSw; (try dsimp only at hSw); go_simp
          simp only [Act.put, List.getElem_toArray, List.getElem_cons_zero, List.getElem_cons_succ, List.setIfInBounds_toArray, List.set_cons_zero, List.set_cons_succ]
          refine wpAnyH_take (i := 5) (v := (.slice ay ys.length cy)) rfl (by kernel_rfl) (by kernel_rfl) (by kernel_rfl) (fun _ _ _ h => h) (Or.inl ⟨by rfl, ?_⟩) hS ?_
          · intro w hSw; (try dsimp only at hSw); go_simp
          simp only [Act.put, List.getElem_toArray, List.getElem_cons_zero, List.getElem_cons_succ, List.setIfInBounds_toArray, List.set_cons_zero, List.set_cons_succ]
          refine wpAnyH_take (i := 8) (v := (.pointer (some ⟨w2.heap.size, 1, none⟩))) rfl (by kernel_rfl) (by kernel_rfl) (by kernel_rfl) (fun _ _ _ h => h) (Or.inl ⟨by rfl, ?_⟩) hS ?_
          · intro w hSw; (try dsimp only at hSw); go_simp
          simp only [Act.put, List.getElem_toArray, List.getElem_cons_zero, List.getElem_cons_succ, List.setIfInBounds_toArray, List.set_cons_zero, List.set_cons_succ]
          refine wpAnyH_take (i := 9) (v := (.slice ac m cc)) rfl (by kernel_rfl) (by kernel_rfl) (by kernel_rfl) (fun _ _ _ h => h) (Or.inl ⟨by rfl, ?_⟩) hS ?_
          · intro w hSw; (try dsimp only at hSw); go_simp
          simp only [Act.put, List.getElem_toArray, List.getElem_cons_zero, List.getElem_cons_succ, List.setIfInBounds_toArray, List.set_cons_zero, List.set_cons_succ]
          refine wpAnyH_take (i := 10) (v := (.int .i64 (m : Int))) rfl (by kernel_rfl) (by kernel_rfl) (by kernel_rfl) (fun _ _ _ h => h) (Or.inl ⟨by rfl, ?_⟩) hS ?_
          · intro w hSw; (try dsimp only at hSw); go_simp
          simp only [Act.put, List.getElem_toArray, List.getElem_cons_zero, List.getElem_cons_succ, List.setIfInBounds_toArray, List.set_cons_zero, List.set_cons_succ]
          refine wpAnyH_ready (rs := [6]) (by kernel_rfl) (by simp) ?_
          refine AllReadyH.cons rfl (fun K hK => ?_) AllReadyH.nil
          go_simp
          refine Calls.mono (HW2.out _ (Own.read (hy5.below b45))) ?_
          rintro e w5 ⟨rfl, hb5⟩
          refine hK.out _ _ ⟨cell_later hb5 hS.1, cell_later hb5 hS.2.1, cell_later hb5 hS.2.2⟩ (fun hS => ?_)
          clear hK K
          have b46 := b45.trans (hb5.mono b45.size)
          refine wpAnyH_take (i := 7) (v := (.int .i64 (m : Int))) rfl (by kernel_rfl) (by kernel_rfl) (by kernel_rfl) (fun _ _ _ h => h) (Or.inl ⟨by rfl, ?_⟩) hS ?_
          · intro w hSw; (try dsimp only at hSw); go_simp
          simp only [Act.put, List.getElem_toArray, List.getElem_cons_zero, List.getElem_cons_succ, List.setIfInBounds_toArray, List.set_cons_zero, List.set_cons_succ]
          refine wpAnyH_take (i := 11) (v := (.bool true)) rfl (by kernel_rfl) (by kernel_rfl) (by kernel_rfl) (fun _ _ _ h => h) (Or.inl ⟨by rfl, ?_⟩) hS ?_
          · intro w hSw; (try dsimp only at hSw); go_simp
          simp only [Act.put, List.getElem_toArray, List.getElem_cons_zero, List.getElem_cons_succ, List.setIfInBounds_toArray, List.set_cons_zero, List.set_cons_succ]
          refine wpAnyH_take (i := 12) (v := (.bool true)) rfl (by kernel_rfl) (by kernel_rfl) (by kernel_rfl) (fun _ _ _ h => h) (Or.inl ⟨by rfl, ?_⟩) hS ?_
          · intro w hSw; (try dsimp only at hSw); go_simp
          simp only [Act.put, List.getElem_toArray, List.getElem_cons_zero, List.getElem_cons_succ, List.setIfInBounds_toArray, List.set_cons_zero, List.set_cons_succ]
          refine wpAnyH_take (i := 13) (v := (.bool true)) rfl (by kernel_rfl) (by kernel_rfl) (by kernel_rfl) (fun _ _ _ h => h) (Or.inl ⟨by rfl, ?_⟩) hS ?_
          · intro w hSw; (try dsimp only at hSw); go_simp
          simp only [Act.put, List.getElem_toArray, List.getElem_cons_zero, List.getElem_cons_succ, List.setIfInBounds_toArray, List.set_cons_zero, List.set_cons_succ]
          refine wpAnyH_take (i := 14) (v := (.pointer (some ⟨w2.heap.size, 1, none⟩))) rfl (by kernel_rfl) (by kernel_rfl) (by kernel_rfl) (fun _ _ _ h => h) (Or.inl ⟨by rfl, ?_⟩) hS ?_
          · intro w hSw; (try dsimp only at hSw); go_simp
          simp only [Act.put, List.getElem_toArray, List.getElem_cons_zero, List.getElem_cons_succ, List.setIfInBounds_toArray, List.set_cons_zero, List.set_cons_succ]
          refine wpAnyH_take (i := 15) (v := (.slice ac m cc)) rfl (by kernel_rfl) (by kernel_rfl) (by kernel_rfl) (fun _ _ _ h => h) (Or.inl ⟨by rfl, ?_⟩) hS ?_
          · intro w hSw; (try dsimp only at hSw); go_simp
          simp only [Act.put, List.getElem_toArray, List.getElem_cons_zero, List.getElem_cons_succ, List.setIfInBounds_toArray, List.set_cons_zero, List.set_cons_succ]
          refine wpAnyH_ready (rs := [16]) (by kernel_rfl) (by simp) ?_
          refine AllReadyH.cons rfl (fun K hK => ?_) AllReadyH.nil
          go_simp
          refine Calls.mono (HCF.out _ (OwnR.read cellE_len (ho5.below b46))) ?_
          rintro e w6 ⟨rfl, hb6⟩
          refine hK.out _ _ ⟨cell_later hb6 hS.1, cell_later hb6 hS.2.1, cell_later hb6 hS.2.2⟩ (fun hS => ?_)
          clear hK K
          have b47 := b46.trans (hb6.mono b46.size)
          refine wpAnyH_take (i := 17) (v := (.bool true)) rfl (by kernel_rfl) (by kernel_rfl) (by kernel_rfl) (fun _ _ _ h => h) (Or.inl ⟨by rfl, ?_⟩) hS ?_
          · intro w hSw; (try dsimp only at hSw); go_simp
          simp only [Act.put, List.getElem_toArray, List.getElem_cons_zero, List.getElem_cons_succ, List.setIfInBounds_toArray, List.set_cons_zero, List.set_cons_succ]
          refine wpAnyH_take (i := 18) (v := (.bool true)) rfl (by kernel_rfl) (by kernel_rfl) (by kernel_rfl) (fun _ _ _ h => h) (Or.inl ⟨by rfl, ?_⟩) hS ?_
          · intro w hSw; (try dsimp only at hSw); go_simp
          simp only [Act.put, List.getElem_toArray, List.getElem_cons_zero, List.getElem_cons_succ, List.setIfInBounds_toArray, List.set_cons_zero, List.set_cons_succ]
          refine wpAnyH_take (i := 19) (v := (.bool true)) rfl (by kernel_rfl) (by kernel_rfl) (by kernel_rfl) (fun _ _ _ h => h) (Or.inl ⟨by rfl, ?_⟩) hS ?_
          · intro w hSw; (try dsimp only at hSw); go_simp
          simp only [Act.put, List.getElem_toArray, List.getElem_cons_zero, List.getElem_cons_succ, List.setIfInBounds_toArray, List.set_cons_zero, List.set_cons_succ]
          refine wpAnyH_take (i := 20) (v := (.pointer (some ⟨w4.heap.size, 0, none⟩))) rfl (by kernel_rfl) (by kernel_rfl) (by kernel_rfl) (fun _ _ _ h => h) (Or.inl ⟨by rfl, ?_⟩) hS ?_
          · intro w hSw; (try dsimp only at hSw); go_simp
          simp only [Act.put, List.getElem_toArray, List.getElem_cons_zero, List.getElem_cons_succ, List.setIfInBounds_toArray, List.set_cons_zero, List.set_cons_succ]
          refine wpAnyH_take (i := 21) (v := (.int .i64 tc)) rfl (by kernel_rfl) (by kernel_rfl) (by kernel_rfl) (fun _ _ _ h => h) (Or.inl ⟨by rfl, ?_⟩) hS ?_
          · intro w hSw; (try dsimp only at hSw); go_simp
          simp only [Act.put, List.getElem_toArray, List.getElem_cons_zero, List.getElem_cons_succ, List.setIfInBounds_toArray, List.set_cons_zero, List.set_cons_succ]
          refine wpAnyH_take (i := 22) (v := (.slice ad ds.length cd)) rfl (by kernel_rfl) (by kernel_rfl) (by kernel_rfl) (fun _ _ _ h => h) (Or.inl ⟨by rfl, ?_⟩) hS ?_
          · intro w hSw; (try dsimp only at hSw); go_simp
          simp only [Act.put, List.getElem_toArray, List.getElem_cons_zero, List.getElem_cons_succ, List.setIfInBounds_toArray, List.set_cons_zero, List.set_cons_succ]
          refine wpAnyH_ready (rs := [23]) (by kernel_rfl) (by simp) ?_
          refine AllReadyH.cons rfl (fun K hK => ?_) AllReadyH.nil
          go_simp
          refine Calls.mono (HST.out _ (OwnR.read cellE_len (hd5.below b47))) ?_
          rintro e w7 ⟨rfl, hb7⟩
          refine hK.out _ _ ⟨cell_later hb7 hS.1, cell_later hb7 hS.2.1, cell_later hb7 hS.2.2⟩ (fun hS => ?_)
          clear hK K
          have b48 := b47.trans (hb7.mono b47.size)
          refine wpAnyH_take (i := 24) (v := (.int .i64 tc)) rfl (by kernel_rfl) (by kernel_rfl) (by kernel_rfl) (fun _ _ _ h => h) (Or.inl ⟨by rfl, ?_⟩) hS ?_
          · intro w hSw; (try dsimp only at hSw); go_simp
          simp only [Act.put, List.getElem_toArray, List.getElem_cons_zero, List.getElem_cons_succ, List.setIfInBounds_toArray, List.set_cons_zero, List.set_cons_succ]
          refine wpAnyH_take (i := 25) (v := (.bool true)) rfl (by kernel_rfl) (by kernel_rfl) (by kernel_rfl) (fun _ _ _ h => h) (Or.inl ⟨by rfl, ?_⟩) hS ?_
          · intro w hSw; (try dsimp only at hSw); go_simp
          simp only [Act.put, List.getElem_toArray, List.getElem_cons_zero, List.getElem_cons_succ, List.setIfInBounds_toArray, List.set_cons_zero, List.set_cons_succ]
          refine wpAnyH_take (i := 26) (v := (.bool true)) rfl (by kernel_rfl) (by kernel_rfl) (by kernel_rfl) (fun _ _ _ h => h) (Or.inl ⟨by rfl, ?_⟩) hS ?_
          · intro w hSw; (try dsimp only at hSw); go_simp
          simp only [Act.put, List.getElem_toArray, List.getElem_cons_zero, List.getElem_cons_succ, List.setIfInBounds_toArray, List.set_cons_zero, List.set_cons_succ]
          refine wpAnyH_take (i := 27) (v := (.bool true)) rfl (by kernel_rfl) (by kernel_rfl) (by kernel_rfl) (fun _ _ _ h => h) (Or.inl ⟨by rfl, ?_⟩) hS ?_
          · intro w hSw; (try dsimp only at hSw); go_simp
          simp only [Act.put, List.getElem_toArray, List.getElem_cons_zero, List.getElem_cons_succ, List.setIfInBounds_toArray, List.set_cons_zero, List.set_cons_succ]
          refine wpAnyH_take (i := 28) (v := (.pointer (some ⟨w4.heap.size, 1, none⟩))) rfl (by kernel_rfl) (by kernel_rfl) (by kernel_rfl) (fun _ _ _ h => h) (Or.inl ⟨by rfl, ?_⟩) hS ?_
          · intro w hSw; (try dsimp only at hSw); go_simp
          simp only [Act.put, List.getElem_toArray, List.getElem_cons_zero, List.getElem_cons_succ, List.setIfInBounds_toArray, List.set_cons_zero, List.set_cons_succ]
          refine wpAnyH_take (i := 29) (v := (.string ts)) rfl (by kernel_rfl) (by kernel_rfl) (by kernel_rfl) (fun _ _ _ h => h) (Or.inl ⟨by rfl, ?_⟩) hS ?_
          · intro w hSw; (try dsimp only at hSw); go_simp
          simp only [Act.put, List.getElem_toArray, List.getElem_cons_zero, List.getElem_cons_succ, List.setIfInBounds_toArray, List.set_cons_zero, List.set_cons_succ]
          refine wpAnyH_take (i := 30) (v := (.slice ad ds.length cd)) rfl (by kernel_rfl) (by kernel_rfl) (by kernel_rfl) (fun _ _ _ h => h) (Or.inl ⟨by rfl, ?_⟩) hS ?_
          · intro w hSw; (try dsimp only at hSw); go_simp
          simp only [Act.put, List.getElem_toArray, List.getElem_cons_zero, List.getElem_cons_succ, List.setIfInBounds_toArray, List.set_cons_zero, List.set_cons_succ]
          refine wpAnyH_ready (rs := [31]) (by kernel_rfl) (by simp) ?_
          refine AllReadyH.cons rfl (fun K hK => ?_) AllReadyH.nil
          go_simp
          refine Calls.mono (HST.out _ (OwnR.read cellE_len (hd5.below b48))) ?_
          rintro e w8 ⟨rfl, hb8⟩
          refine hK.out _ _ ⟨cell_later hb8 hS.1, cell_later hb8 hS.2.1, cell_later hb8 hS.2.2⟩ (fun hS => ?_)
          clear hK K
          have b49 := b48.trans (hb8.mono b48.size)
          refine wpAnyH_take (i := 32) (v := (.string ts)) rfl (by kernel_rfl) (by kernel_rfl) (by kernel_rfl) (fun _ _ _ h => h) (Or.inl ⟨by rfl, ?_⟩) hS ?_
          · intro w hSw; (try dsimp only at hSw); go_simp
          simp only [Act.put, List.getElem_toArray, List.getElem_cons_zero, List.getElem_cons_succ, List.setIfInBounds_toArray, List.set_cons_zero, List.set_cons_succ]
          refine wpAnyH_take (i := 33) (v := (.bool true)) rfl (by kernel_rfl) (by kernel_rfl) (by kernel_rfl) (fun _ _ _ h => h) (Or.inl ⟨by rfl, ?_⟩) hS ?_
          · intro w hSw; (try dsimp only at hSw); go_simp
          simp only [Act.put, List.getElem_toArray, List.getElem_cons_zero, List.getElem_cons_succ, List.setIfInBounds_toArray, List.set_cons_zero, List.set_cons_succ]
          refine wpAnyH_take (i := 34) (v := (.bool true)) rfl (by kernel_rfl) (by kernel_rfl) (by kernel_rfl) (fun _ _ _ h => h) (Or.inl ⟨by rfl, ?_⟩) hS ?_
          · intro w hSw; (try dsimp only at hSw); go_simp
          simp only [Act.put, List.getElem_toArray, List.getElem_cons_zero, List.getElem_cons_succ, List.setIfInBounds_toArray, List.set_cons_zero, List.set_cons_succ]
          refine wpAnyH_take (i := 35) (v := (.bool true)) rfl (by kernel_rfl) (by kernel_rfl) (by kernel_rfl) (fun _ _ _ h => h) (Or.inl ⟨by rfl, ?_⟩) hS ?_
          · intro w hSw; (try dsimp only at hSw); go_simp
          simp only [Act.put, List.getElem_toArray, List.getElem_cons_zero, List.getElem_cons_succ, List.setIfInBounds_toArray, List.set_cons_zero, List.set_cons_succ]
          refine wpAnyH_done (by kernel_rfl) ?_ _
          have hb09 : Below w.heap.size w w8 := hb04.trans (b49.mono hb04.size)
          clear hS hb5 hb6 hb7 hb8 b45 b46 b47 b48 b49 fI fT0 fT1 HST HCF HW2 ho5 hy5 hd5 c40 c41
          go_wp2
          go_ret
          exact ⟨rfl, hb09⟩
    · have e1 : cellsCode ys = 2 := by unfold cellsCode; rw [if_pos (by omega)]
      have e2 : cellsRes ys = [] := by unfold cellsRes; rw [if_pos (by omega)]
      rw [e1, e2] at C IW
      have SC2 : ∀ w', Rd .u8 w' ay ys.length ys → Calls Try.prog 21 #[.slice ay ys.length cy] w' fun e w'' => ∃ v, e = .returned (.agg #[.int .i64 2, v]) ∧ Below w'.heap.size w' w'' := by
        intro w' h
        have := SC w' h
        rw [e1, e2] at this
        exact this.mono (fun e w'' ⟨v, h1, _, h3⟩ => ⟨v, h1, h3⟩)
      clear e1 e2 SC
      have HC : Hid _ := C
      have HIW : Hid _ := IW
      have HSC : Hid _ := SC2
      clear C IW SC2
      go_wp2_with fail
      refine Calls.mono HC.out ?_
      rintro e w2 ⟨v2, rfl, ho2, hb2⟩
      obtain ⟨ac, cc, hv2, _⟩ := ho2.rd cellE_len
      subst hv2
      have hy2 := ho1.below hb2
      have hb02 := hb1.trans (hb2.mono hb1.size)
      clear HC hb1 hb2 ho1 ho2
      have b23 : ∀ o, Below w2.heap.size w2 (w2.alloc o).drew := fun o => ((Below.refl _ _).alloc (Nat.le_refl _) _).drew
      have fC := fldC0
      have fI := fldI0
      go_wp2_with fail
      refine wp_region_held_drew (S := fun w' => w'.cell? ⟨w2.heap.size, 0, none⟩ = some (.int .i64 2)) (by kernel_rfl) (by simp [go_sem]) (fun hS => ?_)
      refine wpAnyH_take (i := 0) (v := (.slice ay ys.length cy)) rfl (by kernel_rfl) (by kernel_rfl) (by kernel_rfl) (fun _ _ _ h => h) (Or.inl ⟨by rfl, ?_⟩) hS ?_
      · intro w hSw; (try dsimp only at hSw); go_simp
      simp only [Act.put, List.getElem_toArray, List.getElem_cons_zero, List.getElem_cons_succ, List.setIfInBounds_toArray, List.set_cons_zero, List.set_cons_succ]
      refine wpAnyH_take (i := 3) (v := (.pointer (some ⟨w2.heap.size, 0, none⟩))) rfl (by kernel_rfl) (by kernel_rfl) (by kernel_rfl) (fun _ _ _ h => h) (Or.inl ⟨by rfl, ?_⟩) hS ?_
      · intro w hSw; (try dsimp only at hSw); go_simp
      simp only [Act.put, List.getElem_toArray, List.getElem_cons_zero, List.getElem_cons_succ, List.setIfInBounds_toArray, List.set_cons_zero, List.set_cons_succ]
      refine wpAnyH_take (i := 4) (v := (.int .i64 2)) rfl (by kernel_rfl) (by kernel_rfl) (by kernel_rfl) (fun _ _ _ h => h) (Or.inl ⟨by rfl, ?_⟩) hS ?_
      · intro w hSw; (try dsimp only at hSw); go_simp
      simp only [Act.put, List.getElem_toArray, List.getElem_cons_zero, List.getElem_cons_succ, List.setIfInBounds_toArray, List.set_cons_zero, List.set_cons_succ]
      refine wpAnyH_ready (rs := [1]) (by kernel_rfl) (by simp) ?_
      refine AllReadyH.cons rfl (fun K hK => ?_) AllReadyH.nil
      go_simp
      refine Calls.mono (HSC.out _ (Own.read (hy2.below (b23 _)))) ?_
      rintro e w3 ⟨v3, rfl, hb3⟩
      refine hK.out _ _ (cell_later hb3 hS) (fun hS => ?_)
      clear hK K
      have b24 := (b23 _).trans (hb3.mono (b23 _).size)
      refine wpAnyH_take (i := 2) (v := (.int .i64 2)) rfl (by kernel_rfl) (by kernel_rfl) (by kernel_rfl) (fun _ _ _ h => h) (Or.inl ⟨by rfl, ?_⟩) hS ?_
      · intro w hSw; (try dsimp only at hSw); go_simp
      simp only [Act.put, List.getElem_toArray, List.getElem_cons_zero, List.getElem_cons_succ, List.setIfInBounds_toArray, List.set_cons_zero, List.set_cons_succ]
      refine wpAnyH_take (i := 5) (v := (.bool true)) rfl (by kernel_rfl) (by kernel_rfl) (by kernel_rfl) (fun _ _ _ h => h) (Or.inl ⟨by rfl, ?_⟩) hS ?_
      · intro w hSw; (try dsimp only at hSw); go_simp
      simp only [Act.put, List.getElem_toArray, List.getElem_cons_zero, List.getElem_cons_succ, List.setIfInBounds_toArray, List.set_cons_zero, List.set_cons_succ]
      refine wpAnyH_take (i := 6) (v := (.bool true)) rfl (by kernel_rfl) (by kernel_rfl) (by kernel_rfl) (fun _ _ _ h => h) (Or.inl ⟨by rfl, ?_⟩) hS ?_
      · intro w hSw; (try dsimp only at hSw); go_simp
      simp only [Act.put, List.getElem_toArray, List.getElem_cons_zero, List.getElem_cons_succ, List.setIfInBounds_toArray, List.set_cons_zero, List.set_cons_succ]
      refine wpAnyH_take (i := 7) (v := (.slice ay ys.length cy)) rfl (by kernel_rfl) (by kernel_rfl) (by kernel_rfl) (fun _ _ _ h => h) (Or.inl ⟨by rfl, ?_⟩) hS ?_
      · intro w hSw; (try dsimp only at hSw); go_simp
      simp only [Act.put, List.getElem_toArray, List.getElem_cons_zero, List.getElem_cons_succ, List.setIfInBounds_toArray, List.set_cons_zero, List.set_cons_succ]
      refine wpAnyH_take (i := 10) (v := (.pointer (some ⟨w2.heap.size, 0, none⟩))) rfl (by kernel_rfl) (by kernel_rfl) (by kernel_rfl) (fun _ _ _ h => h) (Or.inl ⟨by rfl, ?_⟩) hS ?_
      · intro w hSw; (try dsimp only at hSw); go_simp
      simp only [Act.put, List.getElem_toArray, List.getElem_cons_zero, List.getElem_cons_succ, List.setIfInBounds_toArray, List.set_cons_zero, List.set_cons_succ]
      refine wpAnyH_take (i := 11) (v := (.int .i64 2)) rfl (by kernel_rfl) (by kernel_rfl) (by kernel_rfl) (fun _ _ _ h => h) (Or.inl ⟨by rfl, ?_⟩) hS ?_
      · intro w hSw; (try dsimp only at hSw); go_simp
      simp only [Act.put, List.getElem_toArray, List.getElem_cons_zero, List.getElem_cons_succ, List.setIfInBounds_toArray, List.set_cons_zero, List.set_cons_succ]
      refine wpAnyH_ready (rs := [8]) (by kernel_rfl) (by simp) ?_
      refine AllReadyH.cons rfl (fun K hK => ?_) AllReadyH.nil
      go_simp
      refine Calls.mono (HIW.out _ (Own.read (hy2.below b24))) ?_
      rintro e w4 ⟨rfl, hb4⟩
      refine hK.out _ _ (cell_later hb4 hS) (fun hS => ?_)
      clear hK K
      have b25 := b24.trans (hb4.mono b24.size)
      refine wpAnyH_take (i := 9) (v := (.int .i64 2)) rfl (by kernel_rfl) (by kernel_rfl) (by kernel_rfl) (fun _ _ _ h => h) (Or.inl ⟨by rfl, ?_⟩) hS ?_
      · intro w hSw; (try dsimp only at hSw); go_simp
      simp only [Act.put, List.getElem_toArray, List.getElem_cons_zero, List.getElem_cons_succ, List.setIfInBounds_toArray, List.set_cons_zero, List.set_cons_succ]
      refine wpAnyH_take (i := 12) (v := (.bool true)) rfl (by kernel_rfl) (by kernel_rfl) (by kernel_rfl) (fun _ _ _ h => h) (Or.inl ⟨by rfl, ?_⟩) hS ?_
      · intro w hSw; (try dsimp only at hSw); go_simp
      simp only [Act.put, List.getElem_toArray, List.getElem_cons_zero, List.getElem_cons_succ, List.setIfInBounds_toArray, List.set_cons_zero, List.set_cons_succ]
      refine wpAnyH_take (i := 13) (v := (.bool true)) rfl (by kernel_rfl) (by kernel_rfl) (by kernel_rfl) (fun _ _ _ h => h) (Or.inl ⟨by rfl, ?_⟩) hS ?_
      · intro w hSw; (try dsimp only at hSw); go_simp
      simp only [Act.put, List.getElem_toArray, List.getElem_cons_zero, List.getElem_cons_succ, List.setIfInBounds_toArray, List.set_cons_zero, List.set_cons_succ]
      refine wpAnyH_take (i := 14) (v := (.bool true)) rfl (by kernel_rfl) (by kernel_rfl) (by kernel_rfl) (fun _ _ _ h => h) (Or.inl ⟨by rfl, ?_⟩) hS ?_
      · intro w hSw; (try dsimp only at hSw); go_simp
      simp only [Act.put, List.getElem_toArray, List.getElem_cons_zero, List.getElem_cons_succ, List.setIfInBounds_toArray, List.set_cons_zero, List.set_cons_succ]
      refine wpAnyH_done (by kernel_rfl) ?_ _
      have hb09 : Below w.heap.size w w4 := hb02.trans (b25.mono hb02.size)
      clear hS hb3 hb4 b23 b24 b25 fC fI HSC HIW hy2
      go_wp2
      go_ret
      exact ⟨rfl, hb09⟩
  · go_enter Try.func4, Try.ntmps4
    go_wp2
    go_ret
    exact ⟨rfl, Below.refl _ _⟩
end Go.Proofs.Ytjnbegemdhkciaa.fnCells
