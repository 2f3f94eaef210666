/-
  A character is read back from its bytes, and its bytes are those that were read: plain mathematics.
-/
import Derived.Test.YtocophekfbhfbaaMath2
namespace Go.Proofs.Ytocophekfbhfbaa

theorem more_in {xs : List Int} {i : Nat} (h : 0 ≤ more xs i) : i < xs.length := by
  unfold more at h
  split at h
  · rename_i h1; exact h1.1
  · omega
theorem dec_in {xs : List Int} {i : Nat} (hi : i < xs.length) : (i : Int) + (dec xs i).2 ≤ xs.length := by
  unfold dec dec3
  split
  · simp; omega
  · split
    · rename_i h1 h2
      have := more_in h2.2.2
      simp; omega
    · split
      · rename_i h1 h2 h3
        have := more_in h3.2.2.2.1
        simp; omega
      · simp; omega
theorem dec_isCh {xs : List Int} {i : Nat} (hB : Bytes xs) (h : ¬ (dec xs i).2 = 0) : isCh (dec xs i).1 = true := by
  have hb := hB.at i
  have m1 := more_bd (xs := xs) (i + 1)
  unfold dec at h ⊢
  generalize xs.getD i 0 = z at *
  split at h
  · rename_i h1; rw [if_pos h1]; simp [isCh]; omega
  · rename_i h1
    rw [if_neg h1]
    split at h
    · rename_i h2; rw [if_pos h2]; simp [isCh]; omega
    · rename_i h2
      rw [if_neg h2]
      unfold dec3 at h ⊢
      split at h
      · rename_i h3; rw [if_pos h3]; exact h3.2.2.2.2.2
      · simp at h

theorem getD_append_left (xs ys : List Int) (i : Nat) (h : i < xs.length) : (xs ++ ys).getD i 0 = xs.getD i 0 := by
  simp [List.getD_eq_getElem?_getD, List.getElem?_append_left h]

theorem more_val {xs : List Int} {i : Nat} (h : i < xs.length) (h1 : 128 ≤ xs.getD i 0) (h2 : xs.getD i 0 ≤ 191) : more xs i = xs.getD i 0 - 128 := by
  unfold more; rw [if_pos ⟨h, h1, h2⟩]

/-- What was written is read. -/
theorem dec_enc (c : Int) (h : isCh c = true) (ys : List Int) : dec (enc c ++ ys) 0 = (c, ((enc c).length : Int)) := by
  have hc := isCh_yes h
  by_cases h1 : c < 128
  · have e : enc c = [c] := by unfold enc; rw [if_pos h1]
    rw [e]
    unfold dec
    simp [h1]
  · by_cases h2 : c < 2048
    · have e : enc c = [192 + c / 64, 128 + c % 64] := by unfold enc; rw [if_neg h1, if_pos h2]
      rw [e]
      have m1 : more ([192 + c / 64, 128 + c % 64] ++ ys) 1 = c % 64 := by
        rw [more_val (by simp) (by simp; omega) (by simp; omega)]
        simp; omega
      unfold dec
      rw [show (0 + 1 : Nat) = 1 from rfl, m1]
      simp only [List.cons_append, List.nil_append, List.getD_cons_zero]
      rw [if_neg (by omega), if_pos (by omega)]
      simp; omega
    · have e : enc c = [224 + c / 4096, 128 + c / 64 % 64, 128 + c % 64] := by unfold enc; rw [if_neg h1, if_neg h2]
      rw [e]
      have m1 : more ([224 + c / 4096, 128 + c / 64 % 64, 128 + c % 64] ++ ys) 1 = c / 64 % 64 := by
        rw [more_val (by simp) (by simp; omega) (by simp; omega)]
        simp; omega
      have m2 : more ([224 + c / 4096, 128 + c / 64 % 64, 128 + c % 64] ++ ys) 2 = c % 64 := by
        rw [more_val (by simp) (by simp; omega) (by simp; omega)]
        simp; omega
      unfold dec
      rw [show (0 + 1 : Nat) = 1 from rfl, show (0 + 2 : Nat) = 2 from rfl, m1, m2]
      simp only [List.cons_append, List.nil_append, List.getD_cons_zero]
      rw [if_neg (by omega), if_neg (by omega)]
      have ev : (224 + c / 4096 - 224) * 4096 + c / 64 % 64 * 64 + c % 64 = c := by omega
      unfold dec3
      rw [ev, if_pos ⟨by omega, by omega, by omega, by omega, by omega, h⟩]
      simp

/-- What was read is written. -/
theorem enc_dec {xs : List Int} (hB : Bytes xs) {i : Nat} (hi : i < xs.length) (h : ¬ (dec xs i).2 = 0) : enc (dec xs i).1 = (xs.drop i).take (dec xs i).2.toNat := by
  have hb := hB.at i
  have g : ∀ j, i + j < xs.length → (xs.drop i)[j]? = some (xs.getD (i + j) 0) := fun j hj => by simp [List.getD_eq_getElem?_getD, hj]
  have g0 := g 0 (by omega)
  rw [Nat.add_zero] at g0
  have mm : ∀ j, 0 ≤ more xs j → j < xs.length ∧ xs.getD j 0 = 128 + more xs j ∧ more xs j ≤ 63 := by
    intro j hj
    unfold more at hj ⊢
    split at hj
    · rename_i h1; rw [if_pos h1]; omega
    · omega
  have hd : dec xs i = if xs.getD i 0 < 128 then (xs.getD i 0, 1) else if 194 ≤ xs.getD i 0 ∧ xs.getD i 0 < 224 ∧ 0 ≤ more xs (i + 1) then ((xs.getD i 0 - 192) * 64 + more xs (i + 1), 2) else dec3 (xs.getD i 0) (more xs (i + 1)) (more xs (i + 2)) := rfl
  by_cases h1 : xs.getD i 0 < 128
  · rw [if_pos h1] at hd
    rw [hd]
    have e : enc (xs.getD i 0) = [xs.getD i 0] := by unfold enc; rw [if_pos h1]
    rw [e]
    apply List.ext_getElem?
    intro j
    by_cases hj : j = 0
    · subst hj; simp only [List.getElem?_take]; rw [if_pos (by simp), g0]; simp
    · rw [List.getElem?_eq_none (by simp; omega), List.getElem?_eq_none (by simp; omega)]
  · rw [if_neg h1] at hd
    by_cases h2 : 194 ≤ xs.getD i 0 ∧ xs.getD i 0 < 224 ∧ 0 ≤ more xs (i + 1)
    · rw [if_pos h2] at hd
      obtain ⟨n1, v1, b1⟩ := mm _ h2.2.2
      have g1 := g 1 n1
      rw [v1] at g1
      rw [hd]
      generalize xs.getD i 0 = z at *
      generalize more xs (i + 1) = x at *
      have e : enc ((z - 192) * 64 + x) = [z, 128 + x] := by
        unfold enc; rw [if_neg (by omega), if_pos (by omega)]
        simp; omega
      rw [e]
      apply List.ext_getElem?
      intro j
      have hj : j = 0 ∨ j = 1 ∨ 2 ≤ j := by omega
      rcases hj with rfl | rfl | hj
      · simp only [List.getElem?_take]; rw [if_pos (by simp), g0]; simp
      · simp only [List.getElem?_take]; rw [if_pos (by simp), g1]; simp
      · rw [List.getElem?_eq_none (by simp; omega), List.getElem?_eq_none (by simp; omega)]
    · rw [if_neg h2] at hd
      by_cases h3 : 224 ≤ xs.getD i 0 ∧ xs.getD i 0 < 240 ∧ 0 ≤ more xs (i + 1) ∧ 0 ≤ more xs (i + 2) ∧ 2048 ≤ (xs.getD i 0 - 224) * 4096 + more xs (i + 1) * 64 + more xs (i + 2) ∧ isCh ((xs.getD i 0 - 224) * 4096 + more xs (i + 1) * 64 + more xs (i + 2)) = true
      · unfold dec3 at hd
        rw [if_pos h3] at hd
        obtain ⟨n1, v1, b1⟩ := mm _ h3.2.2.1
        obtain ⟨n2, v2, b2⟩ := mm _ h3.2.2.2.1
        have g1 := g 1 n1
        have g2 := g 2 n2
        rw [v1] at g1
        rw [v2] at g2
        rw [hd]
        generalize xs.getD i 0 = z at *
        generalize more xs (i + 1) = x at *
        generalize more xs (i + 2) = y at *
        have e : enc ((z - 224) * 4096 + x * 64 + y) = [z, 128 + x, 128 + y] := by
          unfold enc; rw [if_neg (by omega), if_neg (by omega)]
          simp; omega
        rw [e]
        apply List.ext_getElem?
        intro j
        have hj : j = 0 ∨ j = 1 ∨ j = 2 ∨ 3 ≤ j := by omega
        rcases hj with rfl | rfl | rfl | hj
        · simp only [List.getElem?_take]; rw [if_pos (by simp), g0]; simp
        · simp only [List.getElem?_take]; rw [if_pos (by simp), g1]; simp
        · simp only [List.getElem?_take]; rw [if_pos (by simp), g2]; simp
        · rw [List.getElem?_eq_none (by simp; omega), List.getElem?_eq_none (by simp; omega)]
      · exfalso
        unfold dec3 at hd
        rw [if_neg h3] at hd
        rw [hd] at h
        simp at h
end Go.Proofs.Ytocophekfbhfbaa
