/-
  The digits of a number: the specification's.
-/
import Derived.Test.YtjgmkcmlkffjlaaDoorRows
import Derived.Test.YtjgmkcmlkffjlaaDoorText0
import Derived.Test.YtjgmkcmlkffjlaaDoorBox
import Derived.Lib.ItoaNum
import Derived.Deep.RegionWith
import Derived.Deep.RegionHeld3
namespace Go.Proofs.YtjgmkcmlkffjlaaDoor
open Go.RowKit
set_option linter.unusedVariables false
set_option linter.unusedSimpArgs false

/-- a number's digits, as a string -/
def digB (n : Nat) : ByteArray := ⟨(Lib.decDigits n).toArray⟩
theorem strOf_one (c : Int) : strOf [c] = ⟨#[UInt8.ofNat c.toNat]⟩ := rfl
theorem digB_lt {n : Nat} (h : n < 10) : digB n = strOf [48 + (n : Int)] := by
  unfold digB
  rw [Lib.decDigits, dif_pos h, strOf_one, show (48 + (n : Int)).toNat = 48 + n by omega]
theorem digB_ge {n : Nat} (h : ¬ n < 10) : digB n = digB (n / 10) ++ strOf [48 + ((n % 10 : Nat) : Int)] := by
  unfold digB
  conv => lhs; rw [Lib.decDigits, dif_neg h]
  rw [strOf_one, show (48 + ((n % 10 : Nat) : Int)).toNat = 48 + n % 10 by omega]
  apply ByteArray.ext
  simp
theorem digB_size : ∀ n : Nat, (digB n).size ≤ n + 1 := by
  intro n
  induction n using Nat.strongRecOn with
  | ind n ih =>
    by_cases h : n < 10
    · rw [digB_lt h]
      have : (strOf [48 + (n : Int)]).size = 1 := rfl
      omega
    · rw [digB_ge h]
      have h1 := ih (n / 10) (by omega)
      have h2 : (digB (n / 10) ++ strOf [48 + ((n % 10 : Nat) : Int)]).size = (digB (n / 10)).size + 1 := by
        rw [ByteArray.size_append]; rfl
      omega

theorem rd_one {B : Nat} {c : Int} {w : World} (h : w.cell? ⟨B, 0, none⟩ = some (.int .u8 c)) : Rd .u8 w (some ⟨B, 0, none⟩) 1 [c] := by
  refine ⟨rfl, .inr ⟨B, 0, rfl, fun j hj => ?_⟩⟩
  have hj0 : j = 0 := by omega
  subst hj0
  exact h

set_option maxRecDepth 10000 in
set_option maxHeartbeats 3200000 in
theorem l1Digits_any : ∀ (n : Nat) (w : World), n ≤ 1000000 →
    Calls Tryd.prog 28 #[.int .i64 n] w fun e w' => e = .returned (.string (digB n)) ∧ Below w.heap.size w w' := by
  intro n
  induction n using Nat.strongRecOn with
  | ind n ih =>
  intro w hn
  by_cases h : n < 10
  · rw [digB_lt h]
    obtain ⟨c, hc⟩ : ∃ c : Int, 48 + (n : Int) = c := ⟨_, rfl⟩
    have hcr : 48 ≤ c ∧ c ≤ 57 := by omega
    have hwr : IntKind.u8.wrap c = c := by rw [IntKind.wrap_u8]; omega
    have hcv : ∀ w' : World, (convert 22 9 (.slice (some ⟨w'.heap.size, 0, none⟩) 1 1)).run Tryd.prog (w'.alloc (.cells #[.int .u8 c] 5)) = .ok (.string (strOf [c])) (w'.alloc (.cells #[.int .u8 c] 5)) := fun w' => conv_str (P := Tryd.prog) (S := 22) (D := 9) (cap := 1) (rd_one (by simp [go_sem])) Tryd.underlying22 Tryd.underlying5 Tryd.underlying9
    have hlt : (n : Int) < 10 := by omega
    have hsum : IntKind.i64.wrap (48 + (n : Int)) = c := by rw [← hc, IntKind.wrap_i64]; omega
    have hn0 : ¬ (n : Int) < 0 := by omega
    have hsum2 : 48 + (n : Int) = c := hc
    rw [hc]
    generalize strOf [c] = T at hcv ⊢
    clear hc
    go_enter Tryd.func28, Tryd.ntmps28
    go_wp2
    go_ret
    exact ⟨rfl, (Below.refl _ _).alloc (Nat.le_refl _) _⟩
  · rw [digB_ge h]
    have IHt := fun w' => ih (n / 10) (by omega) w' (by omega)
    have hA := digB_size (n / 10)
    obtain ⟨c, hc⟩ : ∃ c : Int, 48 + ((n % 10 : Nat) : Int) = c := ⟨_, rfl⟩
    have hcr : 48 ≤ c ∧ c ≤ 57 := by omega
    have hwr : IntKind.u8.wrap c = c := by rw [IntKind.wrap_u8]; omega
    have hq : (n : Int) / 10 = ((n / 10 : Nat) : Int) := by omega
    have hm : (n : Int) % 10 = c - 48 := by omega
    have hcv : ∀ (B : Nat) (w' : World), w'.cell? ⟨B, 0, none⟩ = some (.int .u8 c) → (convert 22 9 (.slice (some ⟨B, 0, none⟩) 1 1)).run Tryd.prog w' = .ok (.string (strOf [c])) w' := fun B w' hx => conv_str (P := Tryd.prog) (S := 22) (D := 9) (cap := 1) (rd_one hx) Tryd.underlying22 Tryd.underlying5 Tryd.underlying9
    have hHCV : Hid _ := hcv
    have hTs : (strOf [c]).size = 1 := rfl
    rw [hc]
    generalize strOf [c] = T at hHCV hTs ⊢
    generalize digB (n / 10) = A at *
    generalize n / 10 = m at *
    have IH : Hid _ := IHt
    have hA2 : A.size ≤ 1000000 := by omega
    have hlt : ¬ (n : Int) < 10 := by omega
    clear IHt ih hc hcv hA h
    go_enter Tryd.func28, Tryd.ntmps28
    go_wp2
    have bd : Below w.heap.size w w.drew := (Below.refl _ _).drew
    refine wp_region_held_drew (S := fun w' => Below w.heap.size w w') (by kernel_rfl) bd (fun hS => ?_)
    obtain ⟨D1, hD⟩ : ∃ D, w.drew = D := ⟨_, rfl⟩
    rw [hD] at hS bd ⊢
    clear hD bd
    refine wpAnyH_take (i := 0) (v := (.int .i64 n)) rfl (by as_aux_lemma => kernel_rfl) (by as_aux_lemma => kernel_rfl) (by as_aux_lemma => kernel_rfl) (fun _ _ _ h => h) (Or.inl ⟨by kernel_rfl, ?_⟩) hS ?_
    · intro w hSw; (try dsimp only at hSw); go_simp
    (try simp only [Act.put, List.getElem_toArray, List.getElem_cons_zero, List.getElem_cons_succ, List.setIfInBounds_toArray, List.set_cons_zero, List.set_cons_succ])
    refine wpAnyH_take (i := 1) (v := (.int .i64 m)) rfl (by as_aux_lemma => kernel_rfl) (by as_aux_lemma => kernel_rfl) (by as_aux_lemma => kernel_rfl) (fun _ _ _ h => h) (Or.inl ⟨by kernel_rfl, ?_⟩) hS ?_
    · intro w hSw; (try dsimp only at hSw); go_simp; all_goals (first | omega | (rw [IntKind.wrap_i64]; omega) | (rw [Int.tmod_eq_emod_of_nonneg (by omega)]; omega))
    (try simp only [Act.put, List.getElem_toArray, List.getElem_cons_zero, List.getElem_cons_succ, List.setIfInBounds_toArray, List.set_cons_zero, List.set_cons_succ])
    refine wpAnyH_take (i := 3) (v := (.int .i64 n)) rfl (by as_aux_lemma => kernel_rfl) (by as_aux_lemma => kernel_rfl) (by as_aux_lemma => kernel_rfl) (fun _ _ _ h => h) (Or.inl ⟨by kernel_rfl, ?_⟩) hS ?_
    · intro w hSw; (try dsimp only at hSw); go_simp
    (try simp only [Act.put, List.getElem_toArray, List.getElem_cons_zero, List.getElem_cons_succ, List.setIfInBounds_toArray, List.set_cons_zero, List.set_cons_succ])
    refine wpAnyH_take (i := 4) (v := (.int .i64 (c - 48))) rfl (by as_aux_lemma => kernel_rfl) (by as_aux_lemma => kernel_rfl) (by as_aux_lemma => kernel_rfl) (fun _ _ _ h => h) (Or.inl ⟨by kernel_rfl, ?_⟩) hS ?_
    · intro w hSw; (try dsimp only at hSw); go_simp; all_goals (first | omega | (rw [IntKind.wrap_i64]; omega) | (rw [Int.tmod_eq_emod_of_nonneg (by omega)]; omega))
    (try simp only [Act.put, List.getElem_toArray, List.getElem_cons_zero, List.getElem_cons_succ, List.setIfInBounds_toArray, List.set_cons_zero, List.set_cons_succ])
    refine wpAnyH_take (i := 5) (v := (.int .i64 c)) rfl (by as_aux_lemma => kernel_rfl) (by as_aux_lemma => kernel_rfl) (by as_aux_lemma => kernel_rfl) (fun _ _ _ h => h) (Or.inl ⟨by kernel_rfl, ?_⟩) hS ?_
    · intro w hSw; (try dsimp only at hSw); go_simp; all_goals (first | omega | (rw [IntKind.wrap_i64]; omega) | (rw [Int.tmod_eq_emod_of_nonneg (by omega)]; omega))
    (try simp only [Act.put, List.getElem_toArray, List.getElem_cons_zero, List.getElem_cons_succ, List.setIfInBounds_toArray, List.set_cons_zero, List.set_cons_succ])
    refine wpAnyH_take (i := 6) (v := (.int .u8 c)) rfl (by as_aux_lemma => kernel_rfl) (by as_aux_lemma => kernel_rfl) (by as_aux_lemma => kernel_rfl) (fun _ _ _ h => h) (Or.inl ⟨by kernel_rfl, ?_⟩) hS ?_
    · intro w hSw; (try dsimp only at hSw); go_simp
    (try simp only [Act.put, List.getElem_toArray, List.getElem_cons_zero, List.getElem_cons_succ, List.setIfInBounds_toArray, List.set_cons_zero, List.set_cons_succ])
    refine wpAnyH_ready (rs := [2, 7]) (by as_aux_lemma => kernel_rfl) (by simp) ?_
    refine AllReadyH.cons rfl (fun K hK => ?_) (AllReadyH.cons rfl (fun K hK => ?_) AllReadyH.nil)
    · skip
      go_simp
      refine Calls.mono (IH.out _) ?_
      rintro e w2 ⟨rfl, hc⟩
      refine hK.out _ _ (hS.trans (hc.mono hS.size)) (fun hS => ?_)
      clear hK K
      (try simp only [Act.put, List.getElem_toArray, List.getElem_cons_zero, List.getElem_cons_succ, List.setIfInBounds_toArray, List.set_cons_zero, List.set_cons_succ])
      clear hc
      refine wpAnyH_ready (rs := [7]) (by as_aux_lemma => kernel_rfl) (by simp) ?_
      refine AllReadyH.cons rfl (fun K hK => ?_) AllReadyH.nil
      go_simp
      refine hK.out _ _ (hS.alloc hS.size _) (fun hS => ?_)
      clear hK K
      (try simp only [Act.put, List.getElem_toArray, List.getElem_cons_zero, List.getElem_cons_succ, List.setIfInBounds_toArray, List.set_cons_zero, List.set_cons_succ])
      refine wpAnyH_ready (rs := [8]) (by as_aux_lemma => kernel_rfl) (by simp) ?_
      refine AllReadyH.cons rfl (fun K hK => ?_) AllReadyH.nil
      have hx := hHCV.out w2.heap.size (w2.alloc (.cells #[.int .u8 c] 5)) (by simp [go_sem])
      go_simp
      refine hK.out _ _ (hS) (fun hS => ?_)
      clear hK K
      (try simp only [Act.put, List.getElem_toArray, List.getElem_cons_zero, List.getElem_cons_succ, List.setIfInBounds_toArray, List.set_cons_zero, List.set_cons_succ])
      refine wpAnyH_take (i := 9) (v := (.string (A ++ T))) rfl (by as_aux_lemma => kernel_rfl) (by as_aux_lemma => kernel_rfl) (by as_aux_lemma => kernel_rfl) (fun _ _ _ h => h) (Or.inl ⟨by kernel_rfl, ?_⟩) hS ?_
      · intro w hSw; (try dsimp only at hSw); go_simp; all_goals (first | omega | (rw [IntKind.wrap_i64]; omega) | (rw [Int.tmod_eq_emod_of_nonneg (by omega)]; omega))
      (try simp only [Act.put, List.getElem_toArray, List.getElem_cons_zero, List.getElem_cons_succ, List.setIfInBounds_toArray, List.set_cons_zero, List.set_cons_succ])
      refine wpAnyH_take (i := 10) (v := (.string (A ++ T))) rfl (by as_aux_lemma => kernel_rfl) (by as_aux_lemma => kernel_rfl) (by as_aux_lemma => kernel_rfl) (fun _ _ _ h => h) (Or.inl ⟨by kernel_rfl, ?_⟩) hS ?_
      · intro w hSw; (try dsimp only at hSw); go_simp
      (try simp only [Act.put, List.getElem_toArray, List.getElem_cons_zero, List.getElem_cons_succ, List.setIfInBounds_toArray, List.set_cons_zero, List.set_cons_succ])
      refine wpAnyH_done (by kernel_rfl) ?_ _
      have hSf := hS
      clear hS
      go_wp2
      go_ret
      exact ⟨rfl, hSf⟩
    · skip
      go_simp
      refine hK.out _ _ (hS.alloc hS.size _) (fun hS => ?_)
      clear hK K
      (try simp only [Act.put, List.getElem_toArray, List.getElem_cons_zero, List.getElem_cons_succ, List.setIfInBounds_toArray, List.set_cons_zero, List.set_cons_succ])
      refine wpAnyH_ready (rs := [2, 8]) (by as_aux_lemma => kernel_rfl) (by simp) ?_
      refine AllReadyH.cons rfl (fun K hK => ?_) (AllReadyH.cons rfl (fun K hK => ?_) AllReadyH.nil)
      · skip
        go_simp
        refine Calls.mono (IH.out _) ?_
        rintro e w2 ⟨rfl, hc⟩
        have hcl : w2.cell? ⟨D1.heap.size, 0, none⟩ = some (.int .u8 c) := cell_later hc (by simp [go_sem])
        refine hK.out _ _ (hS.trans (hc.mono hS.size)) (fun hS => ?_)
        clear hK K
        (try simp only [Act.put, List.getElem_toArray, List.getElem_cons_zero, List.getElem_cons_succ, List.setIfInBounds_toArray, List.set_cons_zero, List.set_cons_succ])
        refine wpAnyH_ready (rs := [8]) (by as_aux_lemma => kernel_rfl) (by simp) ?_
        refine AllReadyH.cons rfl (fun K hK => ?_) AllReadyH.nil
        have hx := hHCV.out D1.heap.size w2 hcl
        go_simp
        refine hK.out _ _ (hS) (fun hS => ?_)
        clear hK K
        (try simp only [Act.put, List.getElem_toArray, List.getElem_cons_zero, List.getElem_cons_succ, List.setIfInBounds_toArray, List.set_cons_zero, List.set_cons_succ])
        refine wpAnyH_take (i := 9) (v := (.string (A ++ T))) rfl (by as_aux_lemma => kernel_rfl) (by as_aux_lemma => kernel_rfl) (by as_aux_lemma => kernel_rfl) (fun _ _ _ h => h) (Or.inl ⟨by kernel_rfl, ?_⟩) hS ?_
        · intro w hSw; (try dsimp only at hSw); go_simp; all_goals (first | omega | (rw [IntKind.wrap_i64]; omega) | (rw [Int.tmod_eq_emod_of_nonneg (by omega)]; omega))
        (try simp only [Act.put, List.getElem_toArray, List.getElem_cons_zero, List.getElem_cons_succ, List.setIfInBounds_toArray, List.set_cons_zero, List.set_cons_succ])
        refine wpAnyH_take (i := 10) (v := (.string (A ++ T))) rfl (by as_aux_lemma => kernel_rfl) (by as_aux_lemma => kernel_rfl) (by as_aux_lemma => kernel_rfl) (fun _ _ _ h => h) (Or.inl ⟨by kernel_rfl, ?_⟩) hS ?_
        · intro w hSw; (try dsimp only at hSw); go_simp
        (try simp only [Act.put, List.getElem_toArray, List.getElem_cons_zero, List.getElem_cons_succ, List.setIfInBounds_toArray, List.set_cons_zero, List.set_cons_succ])
        refine wpAnyH_done (by kernel_rfl) ?_ _
        have hSf := hS
        clear hS
        go_wp2
        go_ret
        exact ⟨rfl, hSf⟩
      · skip
        have hx := hHCV.out D1.heap.size (D1.alloc (.cells #[.int .u8 c] 5)) (by simp [go_sem])
        go_simp
        refine hK.out _ _ (hS) (fun hS => ?_)
        clear hK K
        (try simp only [Act.put, List.getElem_toArray, List.getElem_cons_zero, List.getElem_cons_succ, List.setIfInBounds_toArray, List.set_cons_zero, List.set_cons_succ])
        refine wpAnyH_ready (rs := [2]) (by as_aux_lemma => kernel_rfl) (by simp) ?_
        refine AllReadyH.cons rfl (fun K hK => ?_) AllReadyH.nil
        go_simp
        refine Calls.mono (IH.out _) ?_
        rintro e w2 ⟨rfl, hc⟩
        refine hK.out _ _ (hS.trans (hc.mono hS.size)) (fun hS => ?_)
        clear hK K
        (try simp only [Act.put, List.getElem_toArray, List.getElem_cons_zero, List.getElem_cons_succ, List.setIfInBounds_toArray, List.set_cons_zero, List.set_cons_succ])
        refine wpAnyH_take (i := 9) (v := (.string (A ++ T))) rfl (by as_aux_lemma => kernel_rfl) (by as_aux_lemma => kernel_rfl) (by as_aux_lemma => kernel_rfl) (fun _ _ _ h => h) (Or.inl ⟨by kernel_rfl, ?_⟩) hS ?_
        · intro w hSw; (try dsimp only at hSw); go_simp; all_goals (first | omega | (rw [IntKind.wrap_i64]; omega) | (rw [Int.tmod_eq_emod_of_nonneg (by omega)]; omega))
        (try simp only [Act.put, List.getElem_toArray, List.getElem_cons_zero, List.getElem_cons_succ, List.setIfInBounds_toArray, List.set_cons_zero, List.set_cons_succ])
        refine wpAnyH_take (i := 10) (v := (.string (A ++ T))) rfl (by as_aux_lemma => kernel_rfl) (by as_aux_lemma => kernel_rfl) (by as_aux_lemma => kernel_rfl) (fun _ _ _ h => h) (Or.inl ⟨by kernel_rfl, ?_⟩) hS ?_
        · intro w hSw; (try dsimp only at hSw); go_simp
        (try simp only [Act.put, List.getElem_toArray, List.getElem_cons_zero, List.getElem_cons_succ, List.setIfInBounds_toArray, List.set_cons_zero, List.set_cons_succ])
        refine wpAnyH_done (by kernel_rfl) ?_ _
        have hSf := hS
        clear hS
        go_wp2
        go_ret
        exact ⟨rfl, hSf⟩
end Go.Proofs.YtjgmkcmlkffjlaaDoor
