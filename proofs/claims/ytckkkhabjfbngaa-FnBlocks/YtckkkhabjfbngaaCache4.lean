/-
  CacheTrue, of the specification and of the program.
-/
import Derived.Test.YtckkkhabjfbngaaTrueM
import Derived.Deep.RegionWith
import Derived.Deep.RegionHeld3
namespace Go.Proofs.Ytckkkhabjfbngaa
open Go.RowKit
set_option linter.unusedVariables false
set_option linter.unusedSimpArgs false

theorem asked_bad {u z : Int} {bs : List Bk} {n : Nat} (h : cacheFault u z bs ≠ 0) : asked u z bs n = cacheFault u z bs := by
  unfold asked; rw [if_pos h]

theorem asked_good {u z : Int} {bs : List Bk} {n : Nat} (h : cacheFault u z bs = 0) : asked u z bs n = fFault n := by
  unfold asked; rw [if_neg (by simpa using h)]

set_option maxHeartbeats 800000 in
theorem l3Asked_any (b fb : Nat) (u z : Int) (a : Option Addr) (n ca : Nat) (bs : List Bk) (p : Option Addr) (m cp : Nat) (w : World) (c0 : w.cell? ⟨b, 0, none⟩ = some (.int .i64 u)) (c1 : w.cell? ⟨b, 1, none⟩ = some (.int .i64 z)) (c2 : w.cell? ⟨b, 2, none⟩ = some (.slice a n ca)) (cf : w.cell? ⟨fb, 0, none⟩ = some (.slice p m cp)) (ha : RdB w a n bs) (h1 : (n : Int) + byB bs ≤ 1073741824) (hm : m ≤ 1073741824) :
    Calls Try.prog 53 #[.pointer (some ⟨b, 0, none⟩), .pointer (some ⟨fb, 0, none⟩)] w fun e w' => e = .returned (.int .i64 (asked u z bs m)) ∧ Below w.heap.size w w' := by
  go_enter Try.func53, Try.ntmps53
  go_wp2_with fail
  refine (l3Fault_any b u z a n ca bs _ c0 c1 c2 ha h1).mono ?_
  rintro e w1 ⟨rfl, hb1⟩
  by_cases hf : cacheFault u z bs = 0
  · rw [hf]
    have cf1 := cell_later hb1 cf
    go_wp2_with fail
    refine (l2Fault_any fb p m cp _ cf1 hm).mono ?_
    rintro e w2 ⟨rfl, rfl⟩
    go_wp2
    go_ret
    exact ⟨ret_int (asked_good hf).symm, hb1⟩
  · have e1 := asked_bad (n := m) hf
    generalize cacheFault u z bs = cd at *
    go_wp2
    go_ret
    exact ⟨ret_int e1.symm, hb1⟩

set_option maxHeartbeats 800000 in
theorem readFault_any (u z : Int) (a : Option Addr) (n ca : Nat) (bs : List Bk) (p : Option Addr) (m cp : Nat) (w : World) (ha : RdB w a n bs) (h1 : (n : Int) + byB bs ≤ 1073741824) (hca : n ≤ ca) (hm : m ≤ 1073741824) :
    Calls Try.prog 47 #[.agg #[.int .i64 u, .int .i64 z, .slice a n ca], .agg #[.slice p m cp]] w fun e w' => e = .returned (.int .i64 (asked u z bs m)) ∧ Below w.heap.size w w' := by
  have B2 : ∀ o1 o2, Below w.heap.size w ((w.alloc o1).alloc o2) := fun o1 o2 => ((Below.refl _ _).alloc (Nat.le_refl _) o1).alloc (by simp) o2
  go_enter Try.func47, Try.ntmps47
  go_wp2_with fail
  refine (implCacheFault_any u z a n ca bs _ (ha.below (B2 _ _)) h1 hca).mono ?_
  rintro e w1 ⟨rfl, hb1⟩
  have hb01 := (B2 _ _).trans (hb1.mono (by simp; omega))
  have d0 : w1.cell? ⟨w.heap.size + 1, 0, none⟩ = some (.slice p m cp) := cell_later hb1 (by simp [go_sem])
  by_cases hf : cacheFault u z bs = 0
  · rw [hf]
    go_wp2_with fail
    refine (implFileFault_any p m cp _ hm).mono ?_
    rintro e w2 ⟨rfl, hb2⟩
    go_wp2
    go_ret
    exact ⟨ret_int (asked_good hf).symm, hb01.trans (hb2.mono hb01.size)⟩
  · have e1 := asked_bad (n := m) hf
    generalize cacheFault u z bs = cd at *
    go_wp2
    go_ret
    exact ⟨ret_int e1.symm, hb01⟩

theorem bytesEqual_any (a b : Option Addr) (n m ca cb : Nat) (xs ys : List Int) (w : World) (ha : Rd .u8 w a n xs) (hb : Rd .u8 w b m ys) (hx : Bytes xs) (hy : Bytes ys) :
    Calls Try.prog 57 #[.slice a n ca, .slice b m cb] w fun e w' => e = .returned (.bool (decide (xs = ys))) ∧ w' = w := by
  have h1 := conv_str (P := Try.prog) (S := 22) (D := 9) (cap := ca) ha Try.underlying22 Try.underlying5 Try.underlying9
  have h2 := conv_str (P := Try.prog) (S := 22) (D := 9) (cap := cb) hb Try.underlying22 Try.underlying5 Try.underlying9
  have h3 := strOf_same hx hy
  generalize strOf xs = s at *
  generalize strOf ys = t at *
  go_enter Try.func57, Try.ntmps57
  go_wp2
  go_ret
  refine ⟨ret_bool ?_, rfl⟩
  by_cases e : s.toList = t.toList
  · have := h3.1 e
    simp [e, this]
  · have : ¬ xs = ys := fun q => e (h3.2 q)
    simp [e, this]


set_option maxRecDepth 20000 in
set_option maxHeartbeats 3200000 in
theorem l3True_any (b fb U : Nat) (a : Option Addr) (n ca : Nat) (bs : List Bk) (p : Option Addr) (m cp : Nat) (xs : List Int) (w : World) (c0 : w.cell? ⟨b, 0, none⟩ = some (.int .i64 U)) (c2 : w.cell? ⟨b, 2, none⟩ = some (.slice a n ca)) (cf : w.cell? ⟨fb, 0, none⟩ = some (.slice p m cp)) (ha : RdB w a n bs) (hp : Rd .u8 w p m xs) (hB : ∀ b ∈ bs, Bytes b.2) (hx : Bytes xs) (hnum : ∀ b ∈ bs, 0 ≤ b.1 ∧ b.1 ≤ 400) (hU : U ≤ 64) (h1 : n ≤ 1073741824) (hm : m ≤ 1073741824) (hmc : m ≤ cp) (hcm : cp ≤ maxLen) :
    Calls Try.prog 78 #[.pointer (some ⟨b, 0, none⟩), .pointer (some ⟨fb, 0, none⟩)] w fun e w' => e = .returned (.bool (trueB xs U bs)) ∧ Below w.heap.size w w' := by
  have hlen := ha.len
  have HCM : Hid _ := hcm
  clear hcm
  obtain ⟨R, hR⟩ : ∃ R : Bool, R = trueB xs U bs := ⟨_, rfl⟩
  rw [← hR]
  go_enter Try.func78, Try.ntmps78
  go_wp2
  go_loopw [5] (fun i wr => ∃ k : Nat, k ≤ n ∧ i = .int .i64 k ∧ trueB xs U (bs.take k) = true ∧ Below w.heap.size w wr) (fun i _ => n - (intOf i).toNat)
  case atStart => exact ⟨0, Nat.zero_le _, rfl, by simp [trueB], Below.refl _ _⟩
  case round =>
    obtain ⟨k, hk, rfl, htr, hbw⟩ := hrel
    have cf1 := cell_later hbw cf
    have k0 := cell_later hbw c0
    have k2 := cell_later hbw c2
    by_cases hlt : k < n
    · obtain ⟨b1, o1, num', a1, c1, xs1, rfl, hx1, hc0, hc1, hr1, -⟩ := (ha.below hbw).at hlt
      have hmem : (num', xs1) ∈ bs := List.mem_of_getElem? hx1
      have hn1 := hnum _ hmem
      obtain ⟨num, rfl⟩ := Int.eq_ofNat_of_zero_le hn1.1
      have hn2 : num ≤ 400 := by have := hn1.2; simp only at this; omega
      have hmul : num * U ≤ 25600 := Nat.mul_le_mul hn2 hU
      have w1 : IntKind.i64.wrap ((num : Int) * (U : Int)) = ((num * U : Nat) : Int) := by
        rw [IntKind.wrap_i64] <;> rw [← Int.natCast_mul] <;> omega
      have hs := trueB_succ (xs := xs) (U := U) hx1
      have hno := fun h => trueB_no (xs := xs) (U := U) hx1 h
      simp only [Int.toNat_natCast] at hs hno
      have HB1 : Hid (Bytes xs1) := hB _ hmem
      have HS : Hid _ := hs
      have HN : Hid _ := hno
      clear hs hno hn1 hmem hx1
      have hlt' : (k : Int) < (n : Int) := by omega
      go_wp2
      refine wp_region_held_drew (S := fun w' => w'.cell? ⟨b1, o1 + k * 2, none⟩ = some (.int .i64 (num : Int)) ∧ w'.cell? ⟨b1, o1 + k * 2 + 1, none⟩ = some (.slice a1 xs1.length c1) ∧ w'.cell? ⟨b, 0, none⟩ = some (.int .i64 (U : Int)) ∧ Rd .u8 w' a1 xs1.length xs1) (by kernel_rfl) (by exact ⟨hc0, hc1, k0, hr1⟩) (fun hS => ?_)
      ·
        refine wpAnyH_take (i := 0) (v := (.pointer (some ⟨b1, o1 + k * 2, none⟩))) rfl (by as_aux_lemma => kernel_rfl) (by as_aux_lemma => kernel_rfl) (by as_aux_lemma => kernel_rfl) (fun _ _ _ h => h) (Or.inl ⟨by kernel_rfl, ?_⟩) hS ?_
        · intro w hSw; (try dsimp only at hSw); go_simp
        simp only [Act.put, List.getElem_toArray, List.getElem_cons_zero, List.getElem_cons_succ, List.setIfInBounds_toArray, List.set_cons_zero, List.set_cons_succ]
        refine wpAnyH_take (i := 1) (v := (.pointer (some ⟨b1, o1 + k * 2, none⟩))) rfl (by as_aux_lemma => kernel_rfl) (by as_aux_lemma => kernel_rfl) (by as_aux_lemma => kernel_rfl) (fun _ _ _ h => h) (Or.inl ⟨by kernel_rfl, ?_⟩) hS ?_
        · intro w hSw; (try dsimp only at hSw); go_simp
        simp only [Act.put, List.getElem_toArray, List.getElem_cons_zero, List.getElem_cons_succ, List.setIfInBounds_toArray, List.set_cons_zero, List.set_cons_succ]
        refine wpAnyH_take (i := 2) (v := (.pointer (some ⟨b1, o1 + k * 2 + 1, none⟩))) rfl (by as_aux_lemma => kernel_rfl) (by as_aux_lemma => kernel_rfl) (by as_aux_lemma => kernel_rfl) (fun _ _ _ h => h) (Or.inl ⟨by kernel_rfl, ?_⟩) hS ?_
        · intro w hSw; (try dsimp only at hSw); go_simp
        simp only [Act.put, List.getElem_toArray, List.getElem_cons_zero, List.getElem_cons_succ, List.setIfInBounds_toArray, List.set_cons_zero, List.set_cons_succ]
        refine wpAnyH_take (i := 3) (v := (.slice a1 xs1.length c1)) rfl (by as_aux_lemma => kernel_rfl) (by as_aux_lemma => kernel_rfl) (by as_aux_lemma => kernel_rfl) (fun _ _ _ h => h) (Or.inl ⟨by kernel_rfl, ?_⟩) hS ?_
        · intro w hSw; (try dsimp only at hSw); go_simp
        simp only [Act.put, List.getElem_toArray, List.getElem_cons_zero, List.getElem_cons_succ, List.setIfInBounds_toArray, List.set_cons_zero, List.set_cons_succ]
        refine wpAnyH_take (i := 4) (v := (.string (strOf xs1))) rfl (by as_aux_lemma => kernel_rfl) (by as_aux_lemma => kernel_rfl) (by as_aux_lemma => kernel_rfl) (fun _ _ _ h => h) (Or.inl ⟨by kernel_rfl, ?_⟩) hS ?_
        · intro w hSw; (try dsimp only at hSw); have hcv := conv_str (P := Try.prog) (S := 22) (D := 9) (cap := c1) hSw.2.2.2 Try.underlying22 Try.underlying5 Try.underlying9; go_simp
        simp only [Act.put, List.getElem_toArray, List.getElem_cons_zero, List.getElem_cons_succ, List.setIfInBounds_toArray, List.set_cons_zero, List.set_cons_succ]
        refine wpAnyH_take (i := 5) (v := (.pointer (some ⟨fb, 0, none⟩))) rfl (by as_aux_lemma => kernel_rfl) (by as_aux_lemma => kernel_rfl) (by as_aux_lemma => kernel_rfl) (fun _ _ _ h => h) (Or.inl ⟨by kernel_rfl, ?_⟩) hS ?_
        · intro w hSw; (try dsimp only at hSw); go_simp
        simp only [Act.put, List.getElem_toArray, List.getElem_cons_zero, List.getElem_cons_succ, List.setIfInBounds_toArray, List.set_cons_zero, List.set_cons_succ]
        refine wpAnyH_take (i := 6) (v := (.pointer (some ⟨b1, o1 + k * 2, none⟩))) rfl (by as_aux_lemma => kernel_rfl) (by as_aux_lemma => kernel_rfl) (by as_aux_lemma => kernel_rfl) (fun _ _ _ h => h) (Or.inl ⟨by kernel_rfl, ?_⟩) hS ?_
        · intro w hSw; (try dsimp only at hSw); go_simp
        simp only [Act.put, List.getElem_toArray, List.getElem_cons_zero, List.getElem_cons_succ, List.setIfInBounds_toArray, List.set_cons_zero, List.set_cons_succ]
        refine wpAnyH_take (i := 7) (v := (.pointer (some ⟨b1, o1 + k * 2, none⟩))) rfl (by as_aux_lemma => kernel_rfl) (by as_aux_lemma => kernel_rfl) (by as_aux_lemma => kernel_rfl) (fun _ _ _ h => h) (Or.inl ⟨by kernel_rfl, ?_⟩) hS ?_
        · intro w hSw; (try dsimp only at hSw); go_simp
        simp only [Act.put, List.getElem_toArray, List.getElem_cons_zero, List.getElem_cons_succ, List.setIfInBounds_toArray, List.set_cons_zero, List.set_cons_succ]
        refine wpAnyH_take (i := 8) (v := (.pointer (some ⟨b1, o1 + k * 2, none⟩))) rfl (by as_aux_lemma => kernel_rfl) (by as_aux_lemma => kernel_rfl) (by as_aux_lemma => kernel_rfl) (fun _ _ _ h => h) (Or.inl ⟨by kernel_rfl, ?_⟩) hS ?_
        · intro w hSw; (try dsimp only at hSw); go_simp
        simp only [Act.put, List.getElem_toArray, List.getElem_cons_zero, List.getElem_cons_succ, List.setIfInBounds_toArray, List.set_cons_zero, List.set_cons_succ]
        refine wpAnyH_take (i := 9) (v := (.int .i64 (num : Int))) rfl (by as_aux_lemma => kernel_rfl) (by as_aux_lemma => kernel_rfl) (by as_aux_lemma => kernel_rfl) (fun _ _ _ h => h) (Or.inl ⟨by kernel_rfl, ?_⟩) hS ?_
        · intro w hSw; (try dsimp only at hSw); go_simp
        simp only [Act.put, List.getElem_toArray, List.getElem_cons_zero, List.getElem_cons_succ, List.setIfInBounds_toArray, List.set_cons_zero, List.set_cons_succ]
        refine wpAnyH_take (i := 10) (v := (.pointer (some ⟨b, 0, none⟩))) rfl (by as_aux_lemma => kernel_rfl) (by as_aux_lemma => kernel_rfl) (by as_aux_lemma => kernel_rfl) (fun _ _ _ h => h) (Or.inl ⟨by kernel_rfl, ?_⟩) hS ?_
        · intro w hSw; (try dsimp only at hSw); go_simp
        simp only [Act.put, List.getElem_toArray, List.getElem_cons_zero, List.getElem_cons_succ, List.setIfInBounds_toArray, List.set_cons_zero, List.set_cons_succ]
        refine wpAnyH_take (i := 11) (v := (.pointer (some ⟨b, 0, none⟩))) rfl (by as_aux_lemma => kernel_rfl) (by as_aux_lemma => kernel_rfl) (by as_aux_lemma => kernel_rfl) (fun _ _ _ h => h) (Or.inl ⟨by kernel_rfl, ?_⟩) hS ?_
        · intro w hSw; (try dsimp only at hSw); go_simp
        simp only [Act.put, List.getElem_toArray, List.getElem_cons_zero, List.getElem_cons_succ, List.setIfInBounds_toArray, List.set_cons_zero, List.set_cons_succ]
        refine wpAnyH_take (i := 12) (v := (.pointer (some ⟨b, 0, none⟩))) rfl (by as_aux_lemma => kernel_rfl) (by as_aux_lemma => kernel_rfl) (by as_aux_lemma => kernel_rfl) (fun _ _ _ h => h) (Or.inl ⟨by kernel_rfl, ?_⟩) hS ?_
        · intro w hSw; (try dsimp only at hSw); go_simp
        simp only [Act.put, List.getElem_toArray, List.getElem_cons_zero, List.getElem_cons_succ, List.setIfInBounds_toArray, List.set_cons_zero, List.set_cons_succ]
        refine wpAnyH_take (i := 13) (v := (.int .i64 (U : Int))) rfl (by as_aux_lemma => kernel_rfl) (by as_aux_lemma => kernel_rfl) (by as_aux_lemma => kernel_rfl) (fun _ _ _ h => h) (Or.inl ⟨by kernel_rfl, ?_⟩) hS ?_
        · intro w hSw; (try dsimp only at hSw); go_simp
        simp only [Act.put, List.getElem_toArray, List.getElem_cons_zero, List.getElem_cons_succ, List.setIfInBounds_toArray, List.set_cons_zero, List.set_cons_succ]
        refine wpAnyH_take (i := 14) (v := (.int .i64 ((num * U : Nat) : Int))) rfl (by as_aux_lemma => kernel_rfl) (by as_aux_lemma => kernel_rfl) (by as_aux_lemma => kernel_rfl) (fun _ _ _ h => h) (Or.inl ⟨by kernel_rfl, ?_⟩) hS ?_
        · intro w hSw; (try dsimp only at hSw); go_simp
        simp only [Act.put, List.getElem_toArray, List.getElem_cons_zero, List.getElem_cons_succ, List.setIfInBounds_toArray, List.set_cons_zero, List.set_cons_succ]
        refine wpAnyH_take (i := 15) (v := (.pointer (some ⟨b, 0, none⟩))) rfl (by as_aux_lemma => kernel_rfl) (by as_aux_lemma => kernel_rfl) (by as_aux_lemma => kernel_rfl) (fun _ _ _ h => h) (Or.inl ⟨by kernel_rfl, ?_⟩) hS ?_
        · intro w hSw; (try dsimp only at hSw); go_simp
        simp only [Act.put, List.getElem_toArray, List.getElem_cons_zero, List.getElem_cons_succ, List.setIfInBounds_toArray, List.set_cons_zero, List.set_cons_succ]
        refine wpAnyH_take (i := 16) (v := (.pointer (some ⟨b, 0, none⟩))) rfl (by as_aux_lemma => kernel_rfl) (by as_aux_lemma => kernel_rfl) (by as_aux_lemma => kernel_rfl) (fun _ _ _ h => h) (Or.inl ⟨by kernel_rfl, ?_⟩) hS ?_
        · intro w hSw; (try dsimp only at hSw); go_simp
        simp only [Act.put, List.getElem_toArray, List.getElem_cons_zero, List.getElem_cons_succ, List.setIfInBounds_toArray, List.set_cons_zero, List.set_cons_succ]
        refine wpAnyH_take (i := 17) (v := (.pointer (some ⟨b, 0, none⟩))) rfl (by as_aux_lemma => kernel_rfl) (by as_aux_lemma => kernel_rfl) (by as_aux_lemma => kernel_rfl) (fun _ _ _ h => h) (Or.inl ⟨by kernel_rfl, ?_⟩) hS ?_
        · intro w hSw; (try dsimp only at hSw); go_simp
        simp only [Act.put, List.getElem_toArray, List.getElem_cons_zero, List.getElem_cons_succ, List.setIfInBounds_toArray, List.set_cons_zero, List.set_cons_succ]
        refine wpAnyH_take (i := 18) (v := (.int .i64 (U : Int))) rfl (by as_aux_lemma => kernel_rfl) (by as_aux_lemma => kernel_rfl) (by as_aux_lemma => kernel_rfl) (fun _ _ _ h => h) (Or.inl ⟨by kernel_rfl, ?_⟩) hS ?_
        · intro w hSw; (try dsimp only at hSw); go_simp
        simp only [Act.put, List.getElem_toArray, List.getElem_cons_zero, List.getElem_cons_succ, List.setIfInBounds_toArray, List.set_cons_zero, List.set_cons_succ]
        refine wpAnyH_ready (rs := [19]) (by as_aux_lemma => kernel_rfl) (by simp) ?_
        refine AllReadyH.cons rfl (fun K hK => ?_) AllReadyH.nil
        go_simp
        refine (l2Part_any fb p m cp (num * U) U 400 xs wr.drew cf1 (hp.below hbw.drew) hm hmc HCM.out (by omega) (by omega)).mono ?_
        rintro e w2 ⟨v2, rfl, hr2, hb2⟩
        rw [Nat.min_eq_left (show U ≤ 400 by omega)] at hr2
        have hyB := bytes_blk hx num U
        have hyE : blkAt xs num U = (xs.drop (num * U)).take U := rfl
        generalize (xs.drop (num * U)).take U = ys at hr2 hyE ⊢
        generalize ys.length = L at hr2 ⊢
        obtain ⟨a2, c2, rfl, -⟩ := hr2.shape
        refine hK.out _ _ ⟨cell_later hb2 hS.1, cell_later hb2 hS.2.1, cell_later hb2 hS.2.2.1, hS.2.2.2.below hb2⟩ (fun hS => ?_)
        clear hK K
        have hcv := conv_str (P := Try.prog) (S := 22) (D := 9) (cap := c2) hr2.read Try.underlying22 Try.underlying5 Try.underlying9
        refine wpAnyH_ready (rs := [20]) (by as_aux_lemma => kernel_rfl) (by simp) ?_
        refine AllReadyH.cons rfl (fun K hK => ?_) AllReadyH.nil
        go_simp
        refine hK.out _ _ hS (fun hS => ?_)
        clear hK K
        by_cases heq : xs1 = blkAt xs num U
        · have e0 : (strOf xs1).toList = (strOf ys).toList := by rw [heq, hyE]
          refine wpAnyH_take (i := 21) (v := (.bool false)) rfl (by as_aux_lemma => kernel_rfl) (by as_aux_lemma => kernel_rfl) (by as_aux_lemma => kernel_rfl) (fun _ _ _ h => h) (Or.inl ⟨by kernel_rfl, ?_⟩) hS ?_
          · intro w hSw; (try dsimp only at hSw); go_simp
          simp only [Act.put, List.getElem_toArray, List.getElem_cons_zero, List.getElem_cons_succ, List.setIfInBounds_toArray, List.set_cons_zero, List.set_cons_succ]
          refine wpAnyH_done (by kernel_rfl) ?_ _
          clear hS
          have htr2 : trueB xs U (bs.take (k + 1)) = true := by rw [HS.out, htr]; simp [heq]
          go_wp2
          go_roundw
          case rel => exact ⟨k + 1, by omega, by go_num, htr2, hbw.drew.trans (hb2.mono hbw.size)⟩
          case measure => simp [intOf]; omega
        · have e0 : ¬ (strOf xs1).toList = (strOf ys).toList := fun h => heq ((strOf_same HB1.out hyB).1 (by rw [hyE]; exact h))
          refine wpAnyH_take (i := 21) (v := (.bool true)) rfl (by as_aux_lemma => kernel_rfl) (by as_aux_lemma => kernel_rfl) (by as_aux_lemma => kernel_rfl) (fun _ _ _ h => h) (Or.inl ⟨by kernel_rfl, ?_⟩) hS ?_
          · intro w hSw; (try dsimp only at hSw); go_simp
          simp only [Act.put, List.getElem_toArray, List.getElem_cons_zero, List.getElem_cons_succ, List.setIfInBounds_toArray, List.set_cons_zero, List.set_cons_succ]
          refine wpAnyH_done (by kernel_rfl) ?_ _
          clear hS
          go_wp2
          go_ret
          exact ⟨ret_bool (by rw [hR, HN.out heq]), hbw.drew.trans (hb2.mono hbw.size)⟩
    · obtain rfl : k = n := by omega
      rw [List.take_of_length_le (by omega)] at htr
      go_wp2
      go_ret
      exact ⟨ret_bool (by rw [hR, htr]), hbw⟩
end Go.Proofs.Ytckkkhabjfbngaa
