/-
  Contracts of the specification's LinesIn and LineBytes.
-/
import Derived.Test.YtjhlmhehojjgfaaLines1
import Derived.Deep.RegionWith
import Derived.Deep.RegionHeld3
namespace Go.Proofs.Ytjhlmhehojjgfaa
open Go.RowKit
set_option linter.unusedVariables false
set_option linter.unusedSimpArgs false

set_option maxRecDepth 10000 in
set_option maxHeartbeats 3200000 in
theorem l2Line_any (b : Nat) (a : Option Addr) (n ca f z : Nat) (xs : List Int) (w : World) (hc : w.cell? ⟨b, 0, none⟩ = some (.slice a n ca)) (ha : Rd .u8 w a n xs) (h1 : n ≤ 1073741824) (hca : n ≤ ca) (hcm : ca ≤ maxLen) (hfz : f + z ≤ n) :
    Calls Try.prog 61 #[.pointer (some ⟨b, 0, none⟩), .agg #[.int .i64 (f : Int), .int .i64 (z : Int)]] w fun e w' => ∃ v, e = .returned v ∧ RowI .u8 5 w' w.heap.size w'.heap.size v z ((xs.drop f).take z) ∧ Below w.heap.size w w' := by
  have hlen := ha.1
  unfold maxLen at hcm
  have hbw : b < w.heap.size := World.block_lt_of_cell? _ _ hc
  have hbw' : ¬ b = w.heap.size := by omega
  have hbd : Below w.heap.size w (w.alloc (.cells #[.int .i64 (f : Int), .int .i64 (z : Int)] 49)).drew := ((Below.refl _ _).alloc (Nat.le_refl _) _).drew
  have hr : ∀ bb, (0 < z → ∀ g off, a = some ⟨g, off, none⟩ → bb = some ⟨g, off + f, none⟩) → Rd .u8 (w.alloc (.cells #[.int .i64 (f : Int), .int .i64 (z : Int)] 49)).drew bb z ((xs.drop f).take z) := fun bb h => (ha.below hbd).cut f z hfz bb h
  have hfca : f + z ≤ ca := by omega
  have hf0 : f ≤ ca := by omega
  have hfb : f ≤ 1073741824 := by omega
  have hzb : z ≤ 1073741824 := by omega
  have hw1 : IntKind.i64.wrap ((f : Int) + (z : Int)) = (f : Int) + (z : Int) := by rw [IntKind.wrap_i64]; omega
  have hw2 : (0 : Int) ≤ (f : Int) + (z : Int) := by omega
  have hw3 : (f : Int) + (z : Int) ≤ (ca : Int) := by omega
  have hw4 : ((f : Int) + (z : Int)).toNat = f + z := by omega
  by_cases hcf : ca = f
  · have hz0 : z = 0 := by omega
    subst hz0
    subst hcf
    clear hr
    simp only [Int.natCast_zero, Int.add_zero] at *
    go_enter Try.func61, Try.ntmps61
    go_wp2_with fail
    refine wp_region_held_drew (S := fun w' => w'.cell? ⟨b, 0, none⟩ = some (.slice a n ca) ∧ w'.cell? ⟨w.heap.size, 0, none⟩ = some (.int .i64 (ca : Int)) ∧ w'.cell? ⟨w.heap.size, 1, none⟩ = some (.int .i64 0)) (by kernel_rfl) ⟨by simp [go_sem, hc, hbw], by simp [go_sem], by simp [go_sem]⟩ (fun hS => ?_)
    refine wpAnyH_take (i := 0) (v := (.pointer (some ⟨b, 0, none⟩))) rfl (by kernel_rfl) (by kernel_rfl) (by kernel_rfl) (fun _ _ _ h => h) (Or.inl ⟨by rfl, ?_⟩) hS ?_
    · intro w hSw; (try dsimp only at hSw); go_simp
    simp only [Act.put, List.getElem_toArray, List.getElem_cons_zero, List.getElem_cons_succ, List.setIfInBounds_toArray, List.set_cons_zero, List.set_cons_succ]
    refine wpAnyH_take (i := 1) (v := (.pointer (some ⟨b, 0, none⟩))) rfl (by kernel_rfl) (by kernel_rfl) (by kernel_rfl) (fun _ _ _ h => h) (Or.inl ⟨by rfl, ?_⟩) hS ?_
    · intro w hSw; (try dsimp only at hSw); go_simp
    simp only [Act.put, List.getElem_toArray, List.getElem_cons_zero, List.getElem_cons_succ, List.setIfInBounds_toArray, List.set_cons_zero, List.set_cons_succ]
    refine wpAnyH_take (i := 2) (v := (.pointer (some ⟨b, 0, none⟩))) rfl (by kernel_rfl) (by kernel_rfl) (by kernel_rfl) (fun _ _ _ h => h) (Or.inl ⟨by rfl, ?_⟩) hS ?_
    · intro w hSw; (try dsimp only at hSw); go_simp
    simp only [Act.put, List.getElem_toArray, List.getElem_cons_zero, List.getElem_cons_succ, List.setIfInBounds_toArray, List.set_cons_zero, List.set_cons_succ]
    refine wpAnyH_take (i := 3) (v := (.slice a n ca)) rfl (by kernel_rfl) (by kernel_rfl) (by kernel_rfl) (fun _ _ _ h => h) (Or.inl ⟨by rfl, ?_⟩) hS ?_
    · intro w hSw; (try dsimp only at hSw); go_simp
    simp only [Act.put, List.getElem_toArray, List.getElem_cons_zero, List.getElem_cons_succ, List.setIfInBounds_toArray, List.set_cons_zero, List.set_cons_succ]
    refine wpAnyH_take (i := 4) (v := (.pointer (some ⟨w.heap.size, 0, none⟩))) rfl (by kernel_rfl) (by kernel_rfl) (by kernel_rfl) (fun _ _ _ h => h) (Or.inl ⟨by rfl, ?_⟩) hS ?_
    · intro w hSw; (try dsimp only at hSw); go_simp
    simp only [Act.put, List.getElem_toArray, List.getElem_cons_zero, List.getElem_cons_succ, List.setIfInBounds_toArray, List.set_cons_zero, List.set_cons_succ]
    refine wpAnyH_take (i := 5) (v := (.int .i64 (ca : Int))) rfl (by kernel_rfl) (by kernel_rfl) (by kernel_rfl) (fun _ _ _ h => h) (Or.inl ⟨by rfl, ?_⟩) hS ?_
    · intro w hSw; (try dsimp only at hSw); go_simp
    simp only [Act.put, List.getElem_toArray, List.getElem_cons_zero, List.getElem_cons_succ, List.setIfInBounds_toArray, List.set_cons_zero, List.set_cons_succ]
    refine wpAnyH_take (i := 6) (v := (.pointer (some ⟨w.heap.size, 0, none⟩))) rfl (by kernel_rfl) (by kernel_rfl) (by kernel_rfl) (fun _ _ _ h => h) (Or.inl ⟨by rfl, ?_⟩) hS ?_
    · intro w hSw; (try dsimp only at hSw); go_simp
    simp only [Act.put, List.getElem_toArray, List.getElem_cons_zero, List.getElem_cons_succ, List.setIfInBounds_toArray, List.set_cons_zero, List.set_cons_succ]
    refine wpAnyH_take (i := 7) (v := (.int .i64 (ca : Int))) rfl (by kernel_rfl) (by kernel_rfl) (by kernel_rfl) (fun _ _ _ h => h) (Or.inl ⟨by rfl, ?_⟩) hS ?_
    · intro w hSw; (try dsimp only at hSw); go_simp
    simp only [Act.put, List.getElem_toArray, List.getElem_cons_zero, List.getElem_cons_succ, List.setIfInBounds_toArray, List.set_cons_zero, List.set_cons_succ]
    refine wpAnyH_take (i := 8) (v := (.pointer (some ⟨w.heap.size, 1, none⟩))) rfl (by kernel_rfl) (by kernel_rfl) (by kernel_rfl) (fun _ _ _ h => h) (Or.inl ⟨by rfl, ?_⟩) hS ?_
    · intro w hSw; (try dsimp only at hSw); go_simp
    simp only [Act.put, List.getElem_toArray, List.getElem_cons_zero, List.getElem_cons_succ, List.setIfInBounds_toArray, List.set_cons_zero, List.set_cons_succ]
    refine wpAnyH_take (i := 9) (v := (.int .i64 0)) rfl (by kernel_rfl) (by kernel_rfl) (by kernel_rfl) (fun _ _ _ h => h) (Or.inl ⟨by rfl, ?_⟩) hS ?_
    · intro w hSw; (try dsimp only at hSw); go_simp
    simp only [Act.put, List.getElem_toArray, List.getElem_cons_zero, List.getElem_cons_succ, List.setIfInBounds_toArray, List.set_cons_zero, List.set_cons_succ]
    refine wpAnyH_take (i := 10) (v := (.int .i64 (ca : Int))) rfl (by kernel_rfl) (by kernel_rfl) (by kernel_rfl) (fun _ _ _ h => h) (Or.inl ⟨by rfl, ?_⟩) hS ?_
    · intro w hSw; (try dsimp only at hSw); go_simp
    simp only [Act.put, List.getElem_toArray, List.getElem_cons_zero, List.getElem_cons_succ, List.setIfInBounds_toArray, List.set_cons_zero, List.set_cons_succ]
    refine wpAnyH_take (i := 11) (v := (.slice a 0 0)) rfl (by kernel_rfl) (by kernel_rfl) (by kernel_rfl) (fun _ _ _ h => h) (Or.inl ⟨by rfl, ?_⟩) hS ?_
    · intro w hSw; (try dsimp only at hSw); go_simp
    simp only [Act.put, List.getElem_toArray, List.getElem_cons_zero, List.getElem_cons_succ, List.setIfInBounds_toArray, List.set_cons_zero, List.set_cons_succ]
    refine wpAnyH_ready (rs := [12]) (by kernel_rfl) (by simp) ?_
    refine AllReadyH.cons rfl (fun K hK => ?_) AllReadyH.nil
    go_simp
    refine Calls.mono (l1Copy_any _ 0 _ _ _ (show Rd .u8 _ a 0 ((xs.drop ca).take 0) from ⟨by simp, .inl rfl⟩) (by omega)) ?_
    rintro e w2 ⟨v2, rfl, ho2, hb2⟩
    obtain ⟨av, cv, rfl, _⟩ := ho2.shape
    refine hK.out _ _ ⟨cell_later hb2 hS.1, cell_later hb2 hS.2.1, cell_later hb2 hS.2.2⟩ (fun hS => ?_)
    clear hK K
    refine wpAnyH_take (i := 13) (v := (.slice av 0 cv)) rfl (by kernel_rfl) (by kernel_rfl) (by kernel_rfl) (fun _ _ _ h => h) (Or.inl ⟨by rfl, ?_⟩) hS ?_
    · intro w hSw; (try dsimp only at hSw); go_simp
    simp only [Act.put, List.getElem_toArray, List.getElem_cons_zero, List.getElem_cons_succ, List.setIfInBounds_toArray, List.set_cons_zero, List.set_cons_succ]
    refine wpAnyH_done (by kernel_rfl) ?_ _
    clear hS
    go_wp2
    go_ret
    exact ⟨_, rfl, RowI.mono ho2 (by simp) (Nat.le_refl _), hbd.trans (hb2.mono hbd.size)⟩
  · have hcf' : ¬ f = ca := fun h => hcf h.symm
    go_enter Try.func61, Try.ntmps61
    go_wp2_with fail
    refine wp_region_held_drew (S := fun w' => w'.cell? ⟨b, 0, none⟩ = some (.slice a n ca) ∧ w'.cell? ⟨w.heap.size, 0, none⟩ = some (.int .i64 (f : Int)) ∧ w'.cell? ⟨w.heap.size, 1, none⟩ = some (.int .i64 (z : Int))) (by kernel_rfl) ⟨by simp [go_sem, hc, hbw], by simp [go_sem], by simp [go_sem]⟩ (fun hS => ?_)
    refine wpAnyH_take (i := 0) (v := (.pointer (some ⟨b, 0, none⟩))) rfl (by kernel_rfl) (by kernel_rfl) (by kernel_rfl) (fun _ _ _ h => h) (Or.inl ⟨by rfl, ?_⟩) hS ?_
    · intro w hSw; (try dsimp only at hSw); go_simp
    simp only [Act.put, List.getElem_toArray, List.getElem_cons_zero, List.getElem_cons_succ, List.setIfInBounds_toArray, List.set_cons_zero, List.set_cons_succ]
    refine wpAnyH_take (i := 1) (v := (.pointer (some ⟨b, 0, none⟩))) rfl (by kernel_rfl) (by kernel_rfl) (by kernel_rfl) (fun _ _ _ h => h) (Or.inl ⟨by rfl, ?_⟩) hS ?_
    · intro w hSw; (try dsimp only at hSw); go_simp
    simp only [Act.put, List.getElem_toArray, List.getElem_cons_zero, List.getElem_cons_succ, List.setIfInBounds_toArray, List.set_cons_zero, List.set_cons_succ]
    refine wpAnyH_take (i := 2) (v := (.pointer (some ⟨b, 0, none⟩))) rfl (by kernel_rfl) (by kernel_rfl) (by kernel_rfl) (fun _ _ _ h => h) (Or.inl ⟨by rfl, ?_⟩) hS ?_
    · intro w hSw; (try dsimp only at hSw); go_simp
    simp only [Act.put, List.getElem_toArray, List.getElem_cons_zero, List.getElem_cons_succ, List.setIfInBounds_toArray, List.set_cons_zero, List.set_cons_succ]
    refine wpAnyH_take (i := 3) (v := (.slice a n ca)) rfl (by kernel_rfl) (by kernel_rfl) (by kernel_rfl) (fun _ _ _ h => h) (Or.inl ⟨by rfl, ?_⟩) hS ?_
    · intro w hSw; (try dsimp only at hSw); go_simp
    simp only [Act.put, List.getElem_toArray, List.getElem_cons_zero, List.getElem_cons_succ, List.setIfInBounds_toArray, List.set_cons_zero, List.set_cons_succ]
    refine wpAnyH_take (i := 4) (v := (.pointer (some ⟨w.heap.size, 0, none⟩))) rfl (by kernel_rfl) (by kernel_rfl) (by kernel_rfl) (fun _ _ _ h => h) (Or.inl ⟨by rfl, ?_⟩) hS ?_
    · intro w hSw; (try dsimp only at hSw); go_simp
    simp only [Act.put, List.getElem_toArray, List.getElem_cons_zero, List.getElem_cons_succ, List.setIfInBounds_toArray, List.set_cons_zero, List.set_cons_succ]
    refine wpAnyH_take (i := 5) (v := (.int .i64 (f : Int))) rfl (by kernel_rfl) (by kernel_rfl) (by kernel_rfl) (fun _ _ _ h => h) (Or.inl ⟨by rfl, ?_⟩) hS ?_
    · intro w hSw; (try dsimp only at hSw); go_simp
    simp only [Act.put, List.getElem_toArray, List.getElem_cons_zero, List.getElem_cons_succ, List.setIfInBounds_toArray, List.set_cons_zero, List.set_cons_succ]
    refine wpAnyH_take (i := 6) (v := (.pointer (some ⟨w.heap.size, 0, none⟩))) rfl (by kernel_rfl) (by kernel_rfl) (by kernel_rfl) (fun _ _ _ h => h) (Or.inl ⟨by rfl, ?_⟩) hS ?_
    · intro w hSw; (try dsimp only at hSw); go_simp
    simp only [Act.put, List.getElem_toArray, List.getElem_cons_zero, List.getElem_cons_succ, List.setIfInBounds_toArray, List.set_cons_zero, List.set_cons_succ]
    refine wpAnyH_take (i := 7) (v := (.int .i64 (f : Int))) rfl (by kernel_rfl) (by kernel_rfl) (by kernel_rfl) (fun _ _ _ h => h) (Or.inl ⟨by rfl, ?_⟩) hS ?_
    · intro w hSw; (try dsimp only at hSw); go_simp
    simp only [Act.put, List.getElem_toArray, List.getElem_cons_zero, List.getElem_cons_succ, List.setIfInBounds_toArray, List.set_cons_zero, List.set_cons_succ]
    refine wpAnyH_take (i := 8) (v := (.pointer (some ⟨w.heap.size, 1, none⟩))) rfl (by kernel_rfl) (by kernel_rfl) (by kernel_rfl) (fun _ _ _ h => h) (Or.inl ⟨by rfl, ?_⟩) hS ?_
    · intro w hSw; (try dsimp only at hSw); go_simp
    simp only [Act.put, List.getElem_toArray, List.getElem_cons_zero, List.getElem_cons_succ, List.setIfInBounds_toArray, List.set_cons_zero, List.set_cons_succ]
    refine wpAnyH_take (i := 9) (v := (.int .i64 (z : Int))) rfl (by kernel_rfl) (by kernel_rfl) (by kernel_rfl) (fun _ _ _ h => h) (Or.inl ⟨by rfl, ?_⟩) hS ?_
    · intro w hSw; (try dsimp only at hSw); go_simp
    simp only [Act.put, List.getElem_toArray, List.getElem_cons_zero, List.getElem_cons_succ, List.setIfInBounds_toArray, List.set_cons_zero, List.set_cons_succ]
    refine wpAnyH_take (i := 10) (v := (.int .i64 ((f : Int) + (z : Int)))) rfl (by kernel_rfl) (by kernel_rfl) (by kernel_rfl) (fun _ _ _ h => h) (Or.inl ⟨by rfl, ?_⟩) hS ?_
    · intro w hSw; (try dsimp only at hSw); go_simp
    simp only [Act.put, List.getElem_toArray, List.getElem_cons_zero, List.getElem_cons_succ, List.setIfInBounds_toArray, List.set_cons_zero, List.set_cons_succ]
    refine wpAnyH_take (i := 11) (v := (.slice (Option.map (fun x => x.add f) a) z (ca - f))) rfl (by kernel_rfl) (by kernel_rfl) (by kernel_rfl) (fun _ _ _ h => h) (Or.inl ⟨by rfl, ?_⟩) hS ?_
    · intro w hSw; (try dsimp only at hSw); go_simp
    simp only [Act.put, List.getElem_toArray, List.getElem_cons_zero, List.getElem_cons_succ, List.setIfInBounds_toArray, List.set_cons_zero, List.set_cons_succ]
    refine wpAnyH_ready (rs := [12]) (by kernel_rfl) (by simp) ?_
    refine AllReadyH.cons rfl (fun K hK => ?_) AllReadyH.nil
    go_simp
    refine Calls.mono (l1Copy_any _ z _ _ _ (hr _ (fun _ g off h => by subst h; simp [Addr.add_lit])) (by omega)) ?_
    rintro e w2 ⟨v2, rfl, ho2, hb2⟩
    obtain ⟨av, cv, rfl, _⟩ := ho2.shape
    refine hK.out _ _ ⟨cell_later hb2 hS.1, cell_later hb2 hS.2.1, cell_later hb2 hS.2.2⟩ (fun hS => ?_)
    clear hK K
    refine wpAnyH_take (i := 13) (v := (.slice av z cv)) rfl (by kernel_rfl) (by kernel_rfl) (by kernel_rfl) (fun _ _ _ h => h) (Or.inl ⟨by rfl, ?_⟩) hS ?_
    · intro w hSw; (try dsimp only at hSw); go_simp
    simp only [Act.put, List.getElem_toArray, List.getElem_cons_zero, List.getElem_cons_succ, List.setIfInBounds_toArray, List.set_cons_zero, List.set_cons_succ]
    refine wpAnyH_done (by kernel_rfl) ?_ _
    clear hS
    go_wp2
    go_ret
    exact ⟨_, rfl, RowI.mono ho2 (by simp) (Nat.le_refl _), hbd.trans (hb2.mono hbd.size)⟩

set_option maxHeartbeats 1600000 in
theorem specLinesIn_any (a : Option Addr) (n ca : Nat) (xs : List Int) (w : World) (ha : Rd .u8 w a n xs) (h1 : n ≤ 1073741824) :
    Calls Try.prog 27 #[.agg #[.slice a n ca]] w fun e w' => ∃ v, e = .returned (.agg #[.int .i64 (linCode xs), v]) ∧ RowS lineE 2 49 w' w.heap.size w'.heap.size v (linRes xs).length (linRes xs) ∧ Below w.heap.size w w' := by
  have hlen := ha.1
  have hbt := below_two w
  by_cases hf : 400 < n
  · have e0 : linCode xs = 2 := by unfold linCode; rw [if_pos (by omega)]
    have e2 : linRes xs = [] := by unfold linRes; rw [if_pos (by omega)]
    have e3 : fFault n = 2 := by unfold fFault; rw [if_pos hf]
    rw [e0, e2]
    clear e0 e2 hlen
    go_enter Try.func27, Try.ntmps27
    go_wp2_with fail
    refine (l2Fault_any w.heap.size a n ca _ (by simp [go_sem]) h1).mono ?_
    rw [e3]
    rintro e w1 ⟨rfl, rfl⟩
    clear e3
    go_wp2
    exact bodyPost_ret (v := .agg #[.int .i64 2, .slice none 0 0]) (by simp [results, Try.results27, go_sem]) rfl ⟨_, rfl, RowS.nil _ _ _ _ _ _, hbt _ _⟩
  · have e0 : linCode xs = 0 := by unfold linCode; rw [if_neg (by omega)]
    have e2 : linRes xs = lns xs := by unfold linRes; rw [if_neg (by omega)]
    have e3 : fFault n = 0 := by unfold fFault; rw [if_neg hf]
    rw [e0, e2]
    have P := fun w' hc h => l2Lines_any w.heap.size a n ca xs w' hc h h1
    generalize lns xs = ls at *
    generalize ls.length = m at *
    have HP : Hid _ := P
    clear e0 e2 hlen P
    go_enter Try.func27, Try.ntmps27
    go_wp2_with fail
    refine (l2Fault_any w.heap.size a n ca _ (by simp [go_sem]) h1).mono ?_
    rw [e3]
    rintro e w1 ⟨rfl, rfl⟩
    clear e3
    go_wp2_with fail
    refine Calls.mono (HP.out _ (by simp [go_sem]) (ha.below (hbt _ _))) ?_
    rintro e w1 ⟨v1, rfl, ho1, hb1⟩
    have d0 : w1.cell? ⟨w.heap.size + 1, 0, none⟩ = some (.int .i64 0) := cell_later hb1 (by simp [go_sem])
    have df0 : w1.frozen? ⟨w.heap.size + 1, 0, none⟩ = false := (hb1.frozen (p := ⟨w.heap.size + 1, 0, none⟩) (by simp)).trans (by simp [go_sem])
    have d1 : w1.cell? ⟨w.heap.size + 1, 1, none⟩ = some (.slice none 0 0) := cell_later hb1 (by simp [go_sem])
    have df1 : w1.frozen? ⟨w.heap.size + 1, 1, none⟩ = false := (hb1.frozen (p := ⟨w.heap.size + 1, 1, none⟩) (by simp)).trans (by simp [go_sem])
    obtain ⟨av, cv, rfl, _⟩ := ho1.shape lineE_len
    have hb01 := (hbt _ _).trans (hb1.mono (by simp; omega))
    clear hb1
    go_wp2
    exact bodyPost_ret (v := .agg #[.int .i64 0, .slice av m cv]) (by simp [results, Try.results27, go_sem, d0, d1]) rfl ⟨_, rfl, RowS.mono (RowS.of ((ho1.1.setBelow (by simp) _).setBelow (by simp) _)) (by first | omega | (simp; omega)) (Nat.le_refl _), (hb01.setCell (by simp) _).setCell (by simp) _⟩

set_option maxHeartbeats 3200000 in
theorem specLineBytes_any (a : Option Addr) (n ca : Nat) (I : Int) (xs : List Int) (w : World) (ha : Rd .u8 w a n xs) (h1 : n ≤ 1073741824) (hca : n ≤ ca) (hcm : ca ≤ maxLen) :
    Calls Try.prog 30 #[.agg #[.slice a n ca], .int .i64 I] w fun e w' => ∃ v, e = .returned (.agg #[.int .i64 (lbCode xs I), v]) ∧ RowI .u8 5 w' w.heap.size w'.heap.size v (lbRes xs I).length (lbRes xs I) ∧ Below w.heap.size w w' := by
  have hlen := ha.1
  have hbt := below_two w
  by_cases hf : 400 < n
  · have e0 : lbCode xs I = 2 := by unfold lbCode; rw [if_pos (by omega)]
    have e2 : lbRes xs I = [] := by unfold lbRes; rw [if_neg (by omega)]
    have e3 : fFault n = 2 := by unfold fFault; rw [if_pos hf]
    rw [e0, e2]
    clear e0 e2 hlen hcm
    go_enter Try.func30, Try.ntmps30
    go_wp2_with fail
    refine (l2Fault_any w.heap.size a n ca _ (by simp [go_sem]) h1).mono ?_
    rw [e3]
    rintro e w1 ⟨rfl, rfl⟩
    clear e3
    go_wp2
    exact bodyPost_ret (v := .agg #[.int .i64 2, .slice none 0 0]) (by simp [results, Try.results30, go_sem]) rfl ⟨_, rfl, RowI.nil _ _ _ _ _, hbt _ _⟩
  · have e3 : fFault n = 0 := by unfold fFault; rw [if_neg hf]
    have P := fun w' hc h => l2Lines_any w.heap.size a n ca xs w' hc h h1
    have hll := lns_len xs
    have hlin := lns_in xs
    by_cases hI : 0 ≤ I ∧ I ≤ ((lns xs).length : Int) - 1
    · obtain ⟨i, rfl⟩ : ∃ i : Nat, I = (i : Int) := ⟨I.toNat, by omega⟩
      have e0 : lbCode xs i = 0 := by unfold lbCode; rw [if_neg (by omega), if_neg (by omega)]
      have hil : i < (lns xs).length := by omega
      obtain ⟨l, hl⟩ : ∃ l, (lns xs)[i]? = some l := ⟨_, List.getElem?_eq_getElem hil⟩
      have e2 : lbRes xs i = cutOf xs l := by unfold lbRes; rw [if_pos e0, Int.toNat_natCast, List.getD_eq_getElem?_getD, hl]; rfl
      have hin := hlin l (List.mem_of_getElem? hl)
      obtain ⟨l1, l2⟩ := l
      obtain ⟨f, rfl⟩ : ∃ f : Nat, l1 = (f : Int) := ⟨l1.toNat, by omega⟩
      obtain ⟨z, rfl⟩ : ∃ z : Nat, l2 = (z : Int) := ⟨l2.toNat, by omega⟩
      have hfz : f + z ≤ n := by simp at hin; omega
      have e4 : cutOf xs ((f : Int), (z : Int)) = (xs.drop f).take z := by simp [cutOf]
      have e5 : ((xs.drop f).take z).length = z := by simp; omega
      have q1 : decide ((0 : Int) ≤ (i : Int) ∧ (i : Int) ≤ ((lns xs).length : Int) - 1) = true := by simpa using hI
      have Q := fun w' hc h => l2Line_any w.heap.size a n ca f z xs w' hc h h1 hca hcm hfz
      rw [e0, e2, e4, e5]
      have hm4 : (lns xs).length ≤ 400 := by omega
      generalize lns xs = ls at *
      generalize hml : ls.length = m at *
      have HP : Hid _ := P
      have HQ : Hid _ := Q
      have HL : Hid _ := hl
      clear e0 e2 e4 e5 hlen P Q hlin hin hl hcm hI hll hml
      go_enter Try.func30, Try.ntmps30
      go_wp2_with fail
      refine (l2Fault_any w.heap.size a n ca _ (by simp [go_sem]) h1).mono ?_
      rw [e3]
      rintro e w1 ⟨rfl, rfl⟩
      clear e3
      go_wp2_with fail
      refine Calls.mono (HP.out _ (by simp [go_sem]) (ha.below (hbt _ _))) ?_
      rintro e w1 ⟨v1, rfl, ho1, hb1⟩
      have d0 : w1.cell? ⟨w.heap.size + 1, 0, none⟩ = some (.int .i64 0) := cell_later hb1 (by simp [go_sem])
      have df0 : w1.frozen? ⟨w.heap.size + 1, 0, none⟩ = false := (hb1.frozen (p := ⟨w.heap.size + 1, 0, none⟩) (by simp)).trans (by simp [go_sem])
      have d1 : w1.cell? ⟨w.heap.size + 1, 1, none⟩ = some (.slice none 0 0) := cell_later hb1 (by simp [go_sem])
      have df1 : w1.frozen? ⟨w.heap.size + 1, 1, none⟩ = false := (hb1.frozen (p := ⟨w.heap.size + 1, 1, none⟩) (by simp)).trans (by simp [go_sem])
      have c0 : w1.cell? ⟨w.heap.size, 0, none⟩ = some (.slice a n ca) := cell_later hb1 (by simp [go_sem])
      have z1 : w.heap.size + 1 < w1.heap.size := by have := hb1.size; simp at this; omega
      have hb01 := (hbt _ _).trans (hb1.mono (by simp; omega))
      obtain ⟨av, cv, rfl, _⟩ := ho1.shape lineE_len
      obtain ⟨bb, off, l, hav, hx, hcc⟩ := (ho1.read lineE_len).at hil
      subst hav
      rw [HL.out] at hx
      obtain rfl := Option.some.inj hx
      have hcc0 := hcc 0 _ rfl
      have hcc1 := hcc 1 _ rfl
      rw [Nat.add_zero] at hcc0
      simp only at hcc0 hcc1
      clear hb1 hx hcc
      go_wp2_with fail
      refine (l1In_any i 0 _ _).mono ?_
      rw [q1]
      rintro e w2 ⟨rfl, rfl⟩
      clear q1
      have hil' : (i : Int) < (m : Int) := by omega
      go_wp2_with fail
      refine Calls.mono (HQ.out _ c0 (ha.below hb01)) ?_
      rintro e w2 ⟨v2, rfl, ho2, hb2⟩
      obtain ⟨aw, cw, rfl, _⟩ := ho2.shape
      have g0 := cell_later hb2 d0
      have g1 := cell_later hb2 d1
      have k0 := (hb2.frozen (p := ⟨w.heap.size + 1, 0, none⟩) z1).trans df0
      have k1 := (hb2.frozen (p := ⟨w.heap.size + 1, 1, none⟩) z1).trans df1
      have hb02 := hb01.trans (hb2.mono hb01.size)
      clear d0 d1 df0 df1 c0 hb2
      go_wp2
      exact bodyPost_ret (v := .agg #[.int .i64 0, .slice aw z cw]) (by simp [results, Try.results30, go_sem, g0, g1]) rfl ⟨_, rfl, RowI.mono (RowI.of ((ho2.1.setBelow (by simp; omega) _).setBelow (by simp; omega) _)) (by omega) (Nat.le_refl _), (hb02.setCell (by simp) _).setCell (by simp) _⟩
    · have e0 : lbCode xs I = 3 := by unfold lbCode; rw [if_neg (by omega), if_pos (by omega)]
      have e2 : lbRes xs I = [] := by unfold lbRes; rw [if_neg (by omega)]
      have q1 : decide ((0 : Int) ≤ I ∧ I ≤ ((lns xs).length : Int) - 1) = false := by simpa using hI
      rw [e0, e2]
      have hm4 : (lns xs).length ≤ 400 := by omega
      generalize lns xs = ls at *
      generalize hml : ls.length = m at *
      have HP : Hid _ := P
      clear e0 e2 hlen P hlin hcm hI hll hml
      go_enter Try.func30, Try.ntmps30
      go_wp2_with fail
      refine (l2Fault_any w.heap.size a n ca _ (by simp [go_sem]) h1).mono ?_
      rw [e3]
      rintro e w1 ⟨rfl, rfl⟩
      clear e3
      go_wp2_with fail
      refine Calls.mono (HP.out _ (by simp [go_sem]) (ha.below (hbt _ _))) ?_
      rintro e w1 ⟨v1, rfl, ho1, hb1⟩
      have d0 : w1.cell? ⟨w.heap.size + 1, 0, none⟩ = some (.int .i64 0) := cell_later hb1 (by simp [go_sem])
      have df0 : w1.frozen? ⟨w.heap.size + 1, 0, none⟩ = false := (hb1.frozen (p := ⟨w.heap.size + 1, 0, none⟩) (by simp)).trans (by simp [go_sem])
      have d1 : w1.cell? ⟨w.heap.size + 1, 1, none⟩ = some (.slice none 0 0) := cell_later hb1 (by simp [go_sem])
      have df1 : w1.frozen? ⟨w.heap.size + 1, 1, none⟩ = false := (hb1.frozen (p := ⟨w.heap.size + 1, 1, none⟩) (by simp)).trans (by simp [go_sem])
      have hb01 := (hbt _ _).trans (hb1.mono (by simp; omega))
      obtain ⟨av, cv, rfl, _⟩ := ho1.shape lineE_len
      clear hb1
      go_wp2_with fail
      refine (l1In_any I 0 _ _).mono ?_
      rw [q1]
      rintro e w2 ⟨rfl, rfl⟩
      clear q1
      go_wp2
      exact bodyPost_ret (v := .agg #[.int .i64 3, .slice none 0 0]) (by simp [results, Try.results30, go_sem, d0, d1]) rfl ⟨_, rfl, RowI.nil _ _ _ _ _, (hb01.setCell (by simp) _).setCell (by simp) _⟩
end Go.Proofs.Ytjhlmhehojjgfaa
