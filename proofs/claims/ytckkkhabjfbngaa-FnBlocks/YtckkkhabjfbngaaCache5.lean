/-
  CacheTrue, of the specification and of the program: the calls.
-/
import Derived.Test.YtckkkhabjfbngaaCache4
namespace Go.Proofs.Ytckkkhabjfbngaa
open Go.RowKit
set_option linter.unusedVariables false
set_option linter.unusedSimpArgs false

set_option maxHeartbeats 800000 in
theorem specCacheTrue_any (u z : Int) (a : Option Addr) (n ca : Nat) (bs : List Bk) (p : Option Addr) (m cp : Nat) (xs : List Int) (w : World) (ha : RdB w a n bs) (hp : Rd .u8 w p m xs) (hB : ∀ b ∈ bs, Bytes b.2) (hx : Bytes xs) (h1 : (n : Int) + byB bs ≤ 1073741824) (hm : m ≤ 1073741824) (hmc : m ≤ cp) (hcm : cp ≤ maxLen) :
    Calls Try.prog 42 #[.agg #[.int .i64 u, .int .i64 z, .slice a n ca], .agg #[.slice p m cp]] w fun e w' => e = .returned (.bool (cacheTrue u z bs xs)) ∧ Below w.heap.size w w' := by
  have hlen := hp.1
  have B2 : ∀ o1 o2, Below w.heap.size w ((w.alloc o1).alloc o2) := fun o1 o2 => ((Below.refl _ _).alloc (Nat.le_refl _) o1).alloc (by simp) o2
  have HCM : Hid _ := hcm
  clear hcm
  have hct : cacheTrue u z bs xs = (decide (asked u z bs m = 0) && trueB xs u.toNat bs) := by rw [cacheTrue, hlen]
  generalize cacheTrue u z bs xs = CT at *
  go_enter Try.func42, Try.ntmps42
  go_wp2_with fail
  refine (l3Asked_any w.heap.size (w.heap.size + 1) u z a n ca bs p m cp _ (by simp [go_sem]) (by simp [go_sem]) (by simp [go_sem]) (by simp [go_sem]) (ha.below (B2 _ _)) h1 hm).mono ?_
  rintro e w1 ⟨rfl, hb1⟩
  have hb01 := (B2 _ _).trans (hb1.mono (by simp; omega))
  by_cases h0 : asked u z bs m = 0
  · rw [h0] at hct ⊢
    have hok : OkC u z bs := okC_of (by
      by_cases q : cacheFault u z bs = 0
      · exact q
      · rw [asked_bad q] at h0; exact h0)
    obtain ⟨U, rfl⟩ := Int.eq_ofNat_of_zero_le (show 0 ≤ u by have := hok.u1; omega)
    have hU : U ≤ 64 := by have := hok.u2; omega
    have d0 : w1.cell? ⟨w.heap.size, 0, none⟩ = some (.int .i64 U) := cell_later hb1 (by simp [go_sem])
    have d2 : w1.cell? ⟨w.heap.size, 2, none⟩ = some (.slice a n ca) := cell_later hb1 (by simp [go_sem])
    have df : w1.cell? ⟨w.heap.size + 1, 0, none⟩ = some (.slice p m cp) := cell_later hb1 (by simp [go_sem])
    have hnum : ∀ b ∈ bs, 0 ≤ b.1 ∧ b.1 ≤ 400 := fun b hb => ⟨(hok.each b hb).1, (hok.each b hb).2.1⟩
    simp only [Int.toNat_natCast] at hct
    go_wp2_with fail
    refine (l3True_any w.heap.size (w.heap.size + 1) U a n ca bs p m cp xs _ d0 d2 df (ha.below hb01) (hp.below hb01) hB hx hnum hU (by omega) hm hmc HCM.out).mono ?_
    rintro e w2 ⟨rfl, hb2⟩
    generalize trueB xs U bs = tb at *
    go_wp2
    go_ret
    exact ⟨ret_bool (by rw [hct]; simp), hb01.trans (hb2.mono hb01.size)⟩
  · have hct' : CT = false := by rw [hct]; simp [h0]
    generalize asked u z bs m = cd at *
    go_wp2
    go_ret
    exact ⟨ret_bool hct'.symm, hb01⟩

set_option maxRecDepth 20000 in
set_option maxHeartbeats 3200000 in
theorem implCacheTrue_any (u z : Int) (a : Option Addr) (n ca : Nat) (bs : List Bk) (p : Option Addr) (m cp : Nat) (xs : List Int) (w : World) (ha : RdB w a n bs) (hp : Rd .u8 w p m xs) (hB : ∀ b ∈ bs, Bytes b.2) (hx : Bytes xs) (h1 : (n : Int) + byB bs ≤ 1073741824) (hm : m ≤ 1073741824) (hca : n ≤ ca) (hmc : m ≤ cp) (hcm : cp ≤ maxLen) :
    Calls Try.prog 15 #[.agg #[.int .i64 u, .int .i64 z, .slice a n ca], .agg #[.slice p m cp]] w fun e w' => e = .returned (.bool (cacheTrue u z bs xs)) ∧ Below w.heap.size w w' := by
  have hlen := hp.1
  have hbl := ha.len
  have B2 : ∀ o1 o2, Below w.heap.size w ((w.alloc o1).alloc o2) := fun o1 o2 => ((Below.refl _ _).alloc (Nat.le_refl _) o1).alloc (by simp) o2
  have HCM : Hid _ := hcm
  clear hcm
  have hct : cacheTrue u z bs xs = (decide (asked u z bs m = 0) && trueB xs u.toNat bs) := by rw [cacheTrue, hlen]
  generalize cacheTrue u z bs xs = CT at *
  go_enter Try.func15, Try.ntmps15
  go_wp2_with fail
  refine (readFault_any u z a n ca bs p m cp _ (ha.below (B2 _ _)) h1 hca hm).mono ?_
  rintro e w1 ⟨rfl, hb1⟩
  have hb01 := (B2 _ _).trans (hb1.mono (by simp; omega))
  by_cases h0 : asked u z bs m = 0
  · have hm4 : m ≤ 400 := by
      by_cases q : cacheFault u z bs = 0
      · rw [asked_good q] at h0
        unfold fFault at h0
        by_cases q2 : 400 < m
        · rw [if_pos q2] at h0; omega
        · omega
      · rw [asked_bad q] at h0; exact absurd h0 q
    have hok : OkC u z bs := okC_of (by
      by_cases q : cacheFault u z bs = 0
      · exact q
      · rw [asked_bad q] at h0; exact h0)
    rw [h0] at hct ⊢
    obtain ⟨U, rfl⟩ := Int.eq_ofNat_of_zero_le (show 0 ≤ u by have := hok.u1; omega)
    have hU : U ≤ 64 := by have := hok.u2; omega
    have d0 : w1.cell? ⟨w.heap.size, 0, none⟩ = some (.int .i64 U) := cell_later hb1 (by simp [go_sem])
    have d2 : w1.cell? ⟨w.heap.size, 2, none⟩ = some (.slice a n ca) := cell_later hb1 (by simp [go_sem])
    have df : w1.cell? ⟨w.heap.size + 1, 0, none⟩ = some (.slice p m cp) := cell_later hb1 (by simp [go_sem])
    have hnum : ∀ b ∈ bs, 0 ≤ b.1 ∧ b.1 ≤ 400 := fun b hb => ⟨(hok.each b hb).1, (hok.each b hb).2.1⟩
    have hs1 : w.heap.size + 1 < w1.heap.size := by have := hb1.size; simp at this; omega
    simp only [Int.toNat_natCast, decide_true, Bool.true_and] at hct
    have HN : Hid _ := hnum
    clear hnum
    go_wp2
    go_loopw [15] (fun i wr => ∃ k : Nat, k ≤ n ∧ i = .int .i64 k ∧ trueB xs U (bs.take k) = true ∧ wr.cell? ⟨w.heap.size, 0, none⟩ = some (.int .i64 U) ∧ wr.cell? ⟨w.heap.size + 1, 0, none⟩ = some (.slice p m cp) ∧ w.heap.size + 1 < wr.heap.size ∧ Below w.heap.size w wr) (fun i _ => n - (intOf i).toNat)
    case atStart => exact ⟨0, Nat.zero_le _, rfl, by simp [trueB], d0, df, hs1, hb01⟩
    case round =>
      obtain ⟨k, hk, rfl, htr, k0, kf, hsr, hbw⟩ := hrel
      by_cases hlt : k < n
      · obtain ⟨b1, o1, num', a1, c1, xs1, rfl, hx1, hc0, hc1, hr1, -⟩ := (ha.below hbw).at hlt
        have hmem : (num', xs1) ∈ bs := List.mem_of_getElem? hx1
        have hn1 := HN.out _ hmem
        obtain ⟨num, rfl⟩ := Int.eq_ofNat_of_zero_le hn1.1
        have hn2 : num ≤ 400 := by have := hn1.2; simp only at this; omega
        have hs := trueB_succ (xs := xs) (U := U) hx1
        have hno := fun h => trueB_no (xs := xs) (U := U) hx1 h
        simp only [Int.toNat_natCast] at hs hno
        have HB1 : Hid (Bytes xs1) := hB _ hmem
        have HS : Hid _ := hs
        have HNo : Hid _ := hno
        clear hs hno hn1 hmem hx1
        have hlt' : (k : Int) < (n : Int) := by omega
        have kk0 : ∀ o, (wr.alloc o).cell? ⟨w.heap.size, 0, none⟩ = some (.int .i64 U) := fun o => cell_later ((Below.refl _ _).alloc (Nat.le_refl _) o) k0
        have Bw : ∀ o1 o2, Below wr.heap.size wr ((wr.alloc o1).alloc o2) := fun o1 o2 => ((Below.refl _ _).alloc (Nat.le_refl _) o1).alloc (by simp) o2
        have kkf : ∀ o1 o2, ((wr.alloc o1).alloc o2).cell? ⟨w.heap.size + 1, 0, none⟩ = some (.slice p m cp) := fun o1 o2 => cell_later (Bw o1 o2) kf
        have hbq : ∀ o1 o2, Below w.heap.size w ((wr.alloc o1).alloc o2) := fun o1 o2 => hbw.trans ((Bw o1 o2).mono hbw.size)
        go_wp2
        refine wp_region_held_drew (S := fun w' => w'.cell? ⟨wr.heap.size, 1, none⟩ = some (.slice a1 xs1.length c1) ∧ w'.cell? ⟨wr.heap.size + 1, 0, none⟩ = some (.int .i64 (U : Int)) ∧ w'.cell? ⟨wr.heap.size + 1, 1, none⟩ = some (.int .i64 (num : Int)) ∧ w'.cell? ⟨w.heap.size + 1, 0, none⟩ = some (.slice p m cp)) (by kernel_rfl) (by exact ⟨by simp [go_sem], by simp [go_sem], by simp [go_sem], kkf _ _⟩) (fun hS => ?_)
        refine wpAnyH_take (i := 0) (v := (.pointer (some ⟨wr.heap.size, 1, none⟩))) rfl (by as_aux_lemma => kernel_rfl) (by as_aux_lemma => kernel_rfl) (by as_aux_lemma => kernel_rfl) (fun _ _ _ h => h) (Or.inl ⟨by kernel_rfl, ?_⟩) hS ?_
        · intro w hSw; (try dsimp only at hSw); go_simp
        simp only [Act.put, List.getElem_toArray, List.getElem_cons_zero, List.getElem_cons_succ, List.setIfInBounds_toArray, List.set_cons_zero, List.set_cons_succ]
        refine wpAnyH_take (i := 1) (v := (.slice a1 xs1.length c1)) rfl (by as_aux_lemma => kernel_rfl) (by as_aux_lemma => kernel_rfl) (by as_aux_lemma => kernel_rfl) (fun _ _ _ h => h) (Or.inl ⟨by kernel_rfl, ?_⟩) hS ?_
        · intro w hSw; (try dsimp only at hSw); go_simp
        simp only [Act.put, List.getElem_toArray, List.getElem_cons_zero, List.getElem_cons_succ, List.setIfInBounds_toArray, List.set_cons_zero, List.set_cons_succ]
        refine wpAnyH_take (i := 2) (v := (.agg #[.int .i64 (U : Int), .int .i64 (num : Int)])) rfl (by as_aux_lemma => kernel_rfl) (by as_aux_lemma => kernel_rfl) (by as_aux_lemma => kernel_rfl) (fun _ _ _ h => h) (Or.inl ⟨by kernel_rfl, ?_⟩) hS ?_
        · intro w hSw; (try dsimp only at hSw); go_simp
        simp only [Act.put, List.getElem_toArray, List.getElem_cons_zero, List.getElem_cons_succ, List.setIfInBounds_toArray, List.set_cons_zero, List.set_cons_succ]
        refine wpAnyH_take (i := 3) (v := (.agg #[.slice p m cp])) rfl (by as_aux_lemma => kernel_rfl) (by as_aux_lemma => kernel_rfl) (by as_aux_lemma => kernel_rfl) (fun _ _ _ h => h) (Or.inl ⟨by kernel_rfl, ?_⟩) hS ?_
        · intro w hSw; (try dsimp only at hSw); go_simp
        simp only [Act.put, List.getElem_toArray, List.getElem_cons_zero, List.getElem_cons_succ, List.setIfInBounds_toArray, List.set_cons_zero, List.set_cons_succ]
        refine wpAnyH_ready (rs := [4]) (by as_aux_lemma => kernel_rfl) (by simp) ?_
        refine AllReadyH.cons rfl (fun K hK => ?_) AllReadyH.nil
        go_simp
        refine (readFrom_any p m cp num U 400 xs _ (hp.below (hbq _ _).drew) hm4 hmc HCM.out hU (by omega) (by omega) (by omega)).mono ?_
        rintro e w2 ⟨v2, rfl, hr2, hb2⟩
        refine hK.out _ _ ⟨cell_later hb2 hS.1, cell_later hb2 hS.2.1, cell_later hb2 hS.2.2.1, cell_later hb2 hS.2.2.2⟩ (fun hS => ?_)
        clear hK K
        have hb02 := (hbq _ _).drew.trans (hb2.mono (hbq _ _).size)
        have hyB := bytes_blk hx num U
        obtain ⟨ys, hyE⟩ : ∃ ys, ys = blkAt xs num U := ⟨_, rfl⟩
        rw [← hyE] at hr2 hyB
        generalize ys.length = L at hr2
        obtain ⟨a2, c2, rfl, -⟩ := hr2.shape
        refine wpAnyH_ready (rs := [5]) (by as_aux_lemma => kernel_rfl) (by simp) ?_
        refine AllReadyH.cons rfl (fun K hK => ?_) AllReadyH.nil
        go_simp
        refine (bytesEqual_any a1 a2 xs1.length L c1 c2 xs1 ys _ (hr1.below ((Bw _ _).drew.trans (hb2.mono (Bw _ _).size))) hr2.read HB1.out hyB).mono ?_
        rintro e w3 ⟨rfl, rfl⟩
        refine hK.out _ _ hS (fun hS => ?_)
        clear hK K
        have z2 : w.heap.size + 1 < w3.heap.size := by have := hb02.size; have := hb2.size; simp at this; omega
        have e0 : w3.cell? ⟨w.heap.size, 0, none⟩ = some (.int .i64 (U : Int)) := cell_later hb2 (cell_later (Bw _ _).drew k0)
        have ef := hS.2.2.2
        by_cases heq : xs1 = ys
        · have eD : decide (xs1 = ys) = true := by simp [heq]
          rw [eD]
          refine wpAnyH_take (i := 6) (v := (.bool false)) rfl (by as_aux_lemma => kernel_rfl) (by as_aux_lemma => kernel_rfl) (by as_aux_lemma => kernel_rfl) (fun _ _ _ h => h) (Or.inl ⟨by kernel_rfl, ?_⟩) hS ?_
          · intro w hSw; (try dsimp only at hSw); go_simp
          simp only [Act.put, List.getElem_toArray, List.getElem_cons_zero, List.getElem_cons_succ, List.setIfInBounds_toArray, List.set_cons_zero, List.set_cons_succ]
          refine wpAnyH_done (by kernel_rfl) ?_ _
          clear hS
          have htr2 : trueB xs U (bs.take (k + 1)) = true := by rw [HS.out, htr]; simp [heq, hyE]
          go_wp2
          go_roundw
          case rel => exact ⟨k + 1, by omega, by go_num, htr2, e0, ef, z2, hb02⟩
          case measure => simp [intOf]; omega
        · have eD : decide (xs1 = ys) = false := by simp [heq]
          rw [eD]
          refine wpAnyH_take (i := 6) (v := (.bool true)) rfl (by as_aux_lemma => kernel_rfl) (by as_aux_lemma => kernel_rfl) (by as_aux_lemma => kernel_rfl) (fun _ _ _ h => h) (Or.inl ⟨by kernel_rfl, ?_⟩) hS ?_
          · intro w hSw; (try dsimp only at hSw); go_simp
          simp only [Act.put, List.getElem_toArray, List.getElem_cons_zero, List.getElem_cons_succ, List.setIfInBounds_toArray, List.set_cons_zero, List.set_cons_succ]
          refine wpAnyH_done (by kernel_rfl) ?_ _
          clear hS
          go_wp2
          go_ret
          exact ⟨ret_bool (by rw [hct, HNo.out (fun h => heq (by rw [hyE]; exact h))]), hb02⟩
      · obtain rfl : k = n := by omega
        rw [List.take_of_length_le (by omega)] at htr
        go_wp2
        go_ret
        exact ⟨ret_bool (by rw [hct, htr]), hbw⟩
  · have hct' : CT = false := by rw [hct]; simp [h0]
    generalize asked u z bs m = cd at *
    go_wp2
    go_ret
    exact ⟨ret_bool hct'.symm, hb01⟩
end Go.Proofs.Ytckkkhabjfbngaa
