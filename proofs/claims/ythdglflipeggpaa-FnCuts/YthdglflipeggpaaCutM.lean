/-
  An index that is cut: plain mathematics. It speaks of no program.
-/
import Derived.Test.YthdglflipeggpaaIndex5
import Derived.Test.YthdglflipeggpaaIndex6
namespace Go.Proofs.Ythdglflipeggpaa
open Go.RowKit
set_option linter.unusedVariables false

theorem div_line {L E : Int} (hL : 0 ≤ L) (hE : 1 ≤ E) : (Int.tmod (L + 1) E = 0 → (L + 1) / E = L / E + 1 ∧ L + 1 = E * (L / E + 1)) ∧ (¬ Int.tmod (L + 1) E = 0 → (L + 1) / E = L / E) := by
  rw [Int.tmod_eq_emod_of_nonneg (by omega)]
  have h := Int.emod_add_mul_ediv L E
  have h1 := Int.emod_nonneg L (show E ≠ 0 by omega)
  have h2 := Int.emod_lt_of_pos L (show 0 < E by omega)
  by_cases hr : L % E + 1 = E
  · have e : L + 1 = E * (L / E + 1) := by rw [Int.mul_add, Int.mul_one]; omega
    have e2 : (L + 1) / E = L / E + 1 := by rw [e]; exact Int.mul_ediv_cancel_left _ (by omega)
    exact ⟨fun _ => ⟨e2, e⟩, fun hn => absurd (by rw [e]; exact Int.mul_emod_right _ _) hn⟩
  · have := (Int.ediv_emod_unique (a := L + 1) (b := E) (r := L % E + 1) (q := L / E) (by omega)).2 ⟨by omega, by omega, by omega⟩
    exact ⟨fun h0 => by omega, fun _ => this.1⟩

/-- What a mark tells: so many line feeds stand ahead of it, and the marks up to it are those of the bytes ahead of it. -/
theorem mark_tells {E : Int} (hE : 1 ≤ E) : ∀ (bs : List Int) (L Z : Int), 0 ≤ L → ∀ (j : Nat) (m : Int), (hearM E L Z bs)[j]? = some m →
    Z < m ∧ m ≤ Z + (bs.length : Int) ∧ hearM E L Z (bs.take (m - Z).toNat) = (hearM E L Z bs).take (j + 1) ∧ hearN L (bs.take (m - Z).toNat) = E * (L / E + (j : Int) + 1)
  | [], L, Z, hL, j, m, h => by simp [hearM] at h
  | b :: bs, L, Z, hL, j, m, h => by
    have hd := div_line hL hE
    by_cases hb : b = 10
    · by_cases hm : Int.tmod (L + 1) E = 0
      · have e : hearM E L Z (b :: bs) = (Z + 1) :: hearM E (L + 1) (Z + 1) bs := by rw [hearM, if_pos hb, if_pos hm]
        rw [e] at h ⊢
        cases j with
        | zero =>
          simp at h
          subst h
          have e1 : (Z + 1 - Z).toNat = 1 := by omega
          rw [e1]
          refine ⟨by omega, by simp; omega, ?_, ?_⟩
          · rw [List.take_succ_cons, List.take_zero, hearM, if_pos hb, if_pos hm]
            simp [hearM]
          · rw [List.take_succ_cons, List.take_zero, hearN, if_pos hb, hearN]
            have := (hd.1 hm).2
            simpa using this
        | succ j =>
          simp at h
          obtain ⟨h1, h2, h3, h4⟩ := mark_tells hE bs (L + 1) (Z + 1) (by omega) j m h
          obtain ⟨k, hk⟩ : ∃ k : Nat, (m - Z).toNat = k + 1 := ⟨(m - Z).toNat - 1, by omega⟩
          have hk' : (m - (Z + 1)).toNat = k := by omega
          rw [hk'] at h3 h4
          rw [hk]
          refine ⟨by omega, by simp; omega, ?_, ?_⟩
          · rw [List.take_succ_cons, hearM, if_pos hb, if_pos hm, h3, List.take_succ_cons]
          · rw [List.take_succ_cons, hearN, if_pos hb, h4, (hd.1 hm).1]
            congr 1
            push_cast
            omega
      · have e : hearM E L Z (b :: bs) = hearM E (L + 1) (Z + 1) bs := by rw [hearM, if_pos hb, if_neg hm]
        rw [e] at h ⊢
        obtain ⟨h1, h2, h3, h4⟩ := mark_tells hE bs (L + 1) (Z + 1) (by omega) j m h
        obtain ⟨k, hk⟩ : ∃ k : Nat, (m - Z).toNat = k + 1 := ⟨(m - Z).toNat - 1, by omega⟩
        have hk' : (m - (Z + 1)).toNat = k := by omega
        rw [hk'] at h3 h4
        rw [hk]
        refine ⟨by omega, by simp; omega, ?_, ?_⟩
        · rw [List.take_succ_cons, hearM, if_pos hb, if_neg hm, h3]
        · rw [List.take_succ_cons, hearN, if_pos hb, h4, hd.2 hm]
    · have e : hearM E L Z (b :: bs) = hearM E L (Z + 1) bs := by rw [hearM, if_neg hb]
      rw [e] at h ⊢
      obtain ⟨h1, h2, h3, h4⟩ := mark_tells hE bs L (Z + 1) hL j m h
      obtain ⟨k, hk⟩ : ∃ k : Nat, (m - Z).toNat = k + 1 := ⟨(m - Z).toNat - 1, by omega⟩
      have hk' : (m - (Z + 1)).toNat = k := by omega
      rw [hk'] at h3 h4
      rw [hk]
      refine ⟨by omega, by simp; omega, ?_, ?_⟩
      · rw [List.take_succ_cons, hearM, if_neg hb, h3]
      · rw [List.take_succ_cons, hearN, if_neg hb, h4]

/-- What a faultless row of marks has. -/
theorem marksF_ok {E Z : Int} (hE : 1 ≤ E) : ∀ (ms : List Int) (least ahead : Int), marksF E Z least ahead ms = 0 →
    ∀ (j : Nat) (m : Int), ms[j]? = some m → least + E * (j : Int) ≤ m ∧ m ≤ Z ∧ ahead < m ∧ marksF E m least ahead (ms.take (j + 1)) = 0
  | [], least, ahead, h, j, m, hj => by simp at hj
  | x :: ms, least, ahead, h, j, m, hj => by
    rw [marksF] at h
    by_cases hx : x < least ∨ Z < x ∨ x ≤ ahead
    · rw [if_pos hx] at h; simp at h
    · rw [if_neg hx] at h
      cases j with
      | zero =>
        simp at hj
        subst hj
        refine ⟨by simp; omega, by omega, by omega, ?_⟩
        rw [List.take_succ_cons, List.take_zero, marksF, if_neg (by omega), marksF]
      | succ j =>
        simp at hj
        obtain ⟨h1, h2, h3, h4⟩ := marksF_ok hE ms (least + E) x h j m hj
        refine ⟨?_, h2, by omega, ?_⟩
        · have : E * ((j + 1 : Nat) : Int) = E * (j : Int) + E := by rw [Int.natCast_add, Int.mul_add]; simp
          omega
        · rw [List.take_succ_cons, marksF, if_neg (by omega), h4]

theorem keptN_all {s : Int} : ∀ (ms : List Int) (j : Nat), j < keptN s ms → ms.getD j 0 ≤ s
  | [], j, h => by simp [keptN] at h
  | m :: ms, j, h => by
    rw [keptN] at h
    by_cases hm : m ≤ s
    · rw [if_pos hm] at h
      cases j with
      | zero => simpa using hm
      | succ j =>
        have := keptN_all (s := s) ms j (by omega)
        simpa using this
    · rw [if_neg hm] at h; omega

/-- The index that is left, where it is cut. -/
theorem cut_ok {E L Z s : Int} {ms : List Int} (h : indexFault E ms L Z = 0) (hs : 0 ≤ s) (hsZ : s < Z) :
    indexFault E (ms.take (keptN s ms)) ((keptN s ms : Int) * E) (aheadOf ms (keptN s ms)) = 0 ∧ 0 ≤ aheadOf ms (keptN s ms) ∧ aheadOf ms (keptN s ms) ≤ s := by
  obtain ⟨hE1, hE2, hZ1, hZ2, hL1, hL2, hlen, hmk, hl4⟩ := index_ok h
  have hk := keptN_le s ms
  have hall := keptN_all (s := s) ms
  generalize keptN s ms = k at *
  have hkl : (ms.take k).length = k := by simp; omega
  have htd : Int.tdiv ((k : Int) * E) E = k := Int.mul_tdiv_cancel _ (by omega)
  have hk0 : 0 ≤ (k : Int) * E := Int.mul_nonneg (by omega) (by omega)
  cases k with
  | zero =>
    refine ⟨?_, by simp [aheadOf], by simpa [aheadOf] using hs⟩
    rw [indexFault_marks (by simp [aheadOf]; omega) (by simp)]
    rfl
  | succ j =>
    have hj : j < ms.length := by omega
    have hg : ms[j]? = some (ms.getD j 0) := by simp [List.getD_eq_getElem?_getD, hj]
    obtain ⟨h1, h2, h3, h4⟩ := marksF_ok hE1 ms E 0 hmk j _ hg
    have ha : aheadOf ms (j + 1) = ms.getD j 0 := aheadOf_succ ms j
    have hle := hall j (by omega)
    rw [ha]
    have he : ((j + 1 : Nat) : Int) * E = E + E * (j : Int) := by rw [Int.natCast_add, Int.add_mul, Int.mul_comm]; simp; omega
    refine ⟨?_, by omega, hle⟩
    rw [indexFault_marks (by omega) (by rw [hkl, htd]), h4]

/-- A true index that is cut is that of what is left. -/
theorem cut_true {E L Z s : Int} {ms xs : List Int} (h : indexFault E ms L Z = 0) (hs : 0 ≤ s) (hsZ : s < Z) (hN : hearN 0 (xs.take Z.toNat) = L) (hM : hearM E 0 0 (xs.take Z.toNat) = ms) :
    hearN 0 (xs.take (aheadOf ms (keptN s ms)).toNat) = (keptN s ms : Int) * E ∧ hearM E 0 0 (xs.take (aheadOf ms (keptN s ms)).toNat) = ms.take (keptN s ms) := by
  obtain ⟨hE1, hE2, hZ1, hZ2, hL1, hL2, hlen, hmk, hl4⟩ := index_ok h
  have hk := keptN_le s ms
  generalize keptN s ms = k at *
  cases k with
  | zero => simp [aheadOf, hearN, hearM]
  | succ j =>
    have hj : j < ms.length := by omega
    have hg : ms[j]? = some (ms.getD j 0) := by simp [List.getD_eq_getElem?_getD, hj]
    obtain ⟨h1, h2, h3, h4⟩ := marksF_ok hE1 ms E 0 hmk j _ hg
    have hg' := hg
    rw [← hM] at hg'
    obtain ⟨k1, k2, k3, k4⟩ := mark_tells hE1 (xs.take Z.toNat) 0 0 (by omega) j _ (by rw [hM]; exact hg)
    have ha : aheadOf ms (j + 1) = ms.getD j 0 := aheadOf_succ ms j
    rw [ha]
    rw [hM] at k3
    rw [Int.sub_zero, List.take_take] at k3 k4
    have hmin : min (ms.getD j 0).toNat Z.toNat = (ms.getD j 0).toNat := by omega
    rw [hmin] at k3 k4
    refine ⟨?_, k3⟩
    rw [k4, Int.zero_ediv, Int.zero_add, Int.mul_comm]
    rfl
end Go.Proofs.Ythdglflipeggpaa
