/-
  Chapter 9: spans, their fault, the places in them: plain mathematics. It speaks of no program.
-/
import Derived.Test.YtppielcpidcmaaaLinesM
namespace Go.Proofs.Ytppielcpidcmaaa
open Go.RowKit
set_option linter.unusedVariables false
set_option linter.unusedSimpArgs false

/-- What is wrong with the span at a place. -/
def SpBad (xs : List L2) (j : Nat) : Prop :=
  (xs.getD j (0, 0)).1 < 0 ∨ (xs.getD j (0, 0)).2 < (xs.getD j (0, 0)).1 ∨ 400 < (xs.getD j (0, 0)).2 ∨ (0 < j ∧ ((xs.getD j (0, 0)).1 < (xs.getD (j - 1) (0, 0)).2 ∨ xs.getD j (0, 0) = xs.getD (j - 1) (0, 0)))
instance (xs : List L2) (j : Nat) : Decidable (SpBad xs j) := by unfold SpBad; infer_instance
def spAny (xs : List L2) : Bool := (List.range xs.length).any (fun j => decide (SpBad xs j))
def spFault (xs : List L2) : Int := if 401 < xs.length then 2 else if spAny xs = true then 3 else 0
/-- None of the first k is wrong. -/
def SpOk (xs : List L2) (k : Nat) : Prop := ∀ j, j < k → ¬ SpBad xs j
theorem SpOk.zero (xs : List L2) : SpOk xs 0 := fun j hj => absurd hj (Nat.not_lt_zero _)
theorem SpOk.succ {xs : List L2} {k : Nat} (h : SpOk xs k) (hk : ¬ SpBad xs k) : SpOk xs (k + 1) := fun j hj => by
  by_cases e : j = k
  · subst e; exact hk
  · exact h j (by omega)
theorem spFault_many {xs : List L2} (h : 401 < xs.length) : spFault xs = 2 := if_pos h
theorem spFault_bad {xs : List L2} {k : Nat} (h : ¬ 401 < xs.length) (hk : k < xs.length) (hb : SpBad xs k) : spFault xs = 3 := by
  rw [spFault, if_neg h, if_pos]
  exact List.any_eq_true.2 ⟨k, List.mem_range.2 hk, by simpa using hb⟩
theorem spFault_ok {xs : List L2} (h : ¬ 401 < xs.length) (hk : SpOk xs xs.length) : spFault xs = 0 := by
  rw [spFault, if_neg h, if_neg]
  intro e
  obtain ⟨j, hj, hb⟩ := List.any_eq_true.1 e
  exact hk j (List.mem_range.1 hj) (by simpa using hb)
theorem spFault_zero {xs : List L2} (h : spFault xs = 0) : xs.length ≤ 401 ∧ SpOk xs xs.length := by
  unfold spFault at h
  by_cases h1 : 401 < xs.length
  · rw [if_pos h1] at h; omega
  · rw [if_neg h1] at h
    refine ⟨by omega, fun j hj hb => ?_⟩
    by_cases h2 : spAny xs = true
    · rw [if_pos h2] at h; omega
    · exact h2 (List.any_eq_true.2 ⟨j, List.mem_range.2 hj, by simpa using hb⟩)
theorem getD_at {xs : List L2} {k : Nat} {c : L2} (h : xs[k]? = some c) : xs.getD k (0, 0) = c := by rw [List.getD_eq_getElem?_getD, h]; rfl

/-- A place is in one of the spans. -/
def inSp (xs : List L2) (at_ : Int) : Bool := xs.any (fun c => decide (c.1 ≤ at_ ∧ at_ < c.2))
def mkPlaces (xs : List L2) : Nat → List Int
  | 0 => []
  | k + 1 => if inSp xs k then mkPlaces xs k ++ [(k : Int)] else mkPlaces xs k
theorem mkPlaces_yes {xs : List L2} {k : Nat} (h : inSp xs k = true) : mkPlaces xs (k + 1) = mkPlaces xs k ++ [(k : Int)] := by rw [mkPlaces, if_pos h]
theorem mkPlaces_no {xs : List L2} {k : Nat} (h : inSp xs k = false) : mkPlaces xs (k + 1) = mkPlaces xs k := by rw [mkPlaces, if_neg (by simp [h])]
theorem mkPlaces_len (xs : List L2) : ∀ k, (mkPlaces xs k).length ≤ k
  | 0 => by simp [mkPlaces]
  | k + 1 => by
    have := mkPlaces_len xs k
    cases h : inSp xs k
    · rw [mkPlaces_no h]; omega
    · rw [mkPlaces_yes h, List.length_append]; simp; omega
theorem mkPlaces_mem (xs : List L2) : ∀ (k : Nat) (a : Int), a ∈ mkPlaces xs k ↔ 0 ≤ a ∧ a < k ∧ inSp xs a = true
  | 0, a => by simp [mkPlaces]; omega
  | k + 1, a => by
    have ih := mkPlaces_mem xs k a
    cases h : inSp xs k
    · rw [mkPlaces_no h, ih]
      constructor
      · rintro ⟨h1, h2, h3⟩; exact ⟨h1, by omega, h3⟩
      · rintro ⟨h1, h2, h3⟩
        refine ⟨h1, ?_, h3⟩
        by_cases e : a = k
        · subst e; rw [h] at h3; cases h3
        · omega
    · rw [mkPlaces_yes h, List.mem_append, ih]
      simp only [List.mem_singleton]
      constructor
      · rintro (⟨h1, h2, h3⟩ | rfl)
        · exact ⟨h1, by omega, h3⟩
        · exact ⟨by omega, by omega, h⟩
      · rintro ⟨h1, h2, h3⟩
        by_cases e : a = k
        · exact .inr e
        · exact .inl ⟨h1, by omega, h3⟩
theorem mkPlaces_rise (xs : List L2) : ∀ k, (mkPlaces xs k).Pairwise (· < ·)
  | 0 => by simp [mkPlaces]
  | k + 1 => by
    cases h : inSp xs k
    · rw [mkPlaces_no h]; exact mkPlaces_rise xs k
    · rw [mkPlaces_yes h, List.pairwise_append]
      refine ⟨mkPlaces_rise xs k, by simp, fun a ha b hb => ?_⟩
      have := ((mkPlaces_mem xs k a).1 ha).2.1
      simp at hb
      omega

/-- What the program puts together: the places of one span from its From on, up to a place. -/
def upTo (f : Int) : Nat → List Int
  | 0 => []
  | k + 1 => upTo f k ++ [f + (k : Int)]
theorem upTo_len (f : Int) : ∀ k, (upTo f k).length = k
  | 0 => rfl
  | k + 1 => by rw [upTo, List.length_append, upTo_len]; rfl
theorem upTo_mem (f : Int) : ∀ (k : Nat) (a : Int), a ∈ upTo f k ↔ f ≤ a ∧ a < f + k
  | 0, a => by simp [upTo]
  | k + 1, a => by
    rw [upTo, List.mem_append, upTo_mem]
    simp only [List.mem_singleton]
    constructor
    · rintro (⟨h1, h2⟩ | rfl) <;> constructor <;> omega
    · rintro ⟨h1, h2⟩
      by_cases e : a = f + k
      · exact .inr e
      · exact .inl ⟨h1, by omega⟩
theorem upTo_rise (f : Int) : ∀ k, (upTo f k).Pairwise (· < ·)
  | 0 => by simp [upTo]
  | k + 1 => by
    rw [upTo, List.pairwise_append]
    refine ⟨upTo_rise f k, by simp, fun a ha b hb => ?_⟩
    have := ((upTo_mem f k a).1 ha).2
    simp at hb
    omega
def spTo (n : Int) (c : L2) : Nat := ((if c.2 < n then c.2 else n) - c.1).toNat
def spPut (n : Int) (c : L2) : List Int := upTo c.1 (spTo n c)
def spGo (n : Int) : List L2 → List Int
  | [] => []
  | c :: xs => spPut n c ++ spGo n xs
theorem spGo_append (n : Int) (xs ys : List L2) : spGo n (xs ++ ys) = spGo n xs ++ spGo n ys := by
  induction xs with
  | nil => rfl
  | cons c xs ih => simp [spGo, ih]
theorem spGo_succ {n : Int} {xs : List L2} {k : Nat} {c : L2} (h : xs[k]? = some c) : spGo n (xs.take (k + 1)) = spGo n (xs.take k) ++ spPut n c := by
  obtain ⟨hk, e⟩ := List.getElem?_eq_some_iff.1 h
  rw [List.take_succ_eq_append_getElem hk, spGo_append, e]
  simp [spGo]
theorem spGo_mem (n : Int) : ∀ (xs : List L2) (a : Int), a ∈ spGo n xs ↔ ∃ c ∈ xs, c.1 ≤ a ∧ a < c.2 ∧ a < n
  | [], a => by simp [spGo]
  | c :: xs, a => by
    rw [spGo, List.mem_append, spGo_mem n xs a, spPut, upTo_mem, spTo]
    constructor
    · rintro (⟨h1, h2⟩ | ⟨d, h1, h2⟩)
      · refine ⟨c, by simp, h1, ?_⟩
        split at h2 <;> omega
      · exact ⟨d, by simp [h1], h2⟩
    · rintro ⟨d, hd, h1, h2, h3⟩
      rcases List.mem_cons.1 hd with rfl | hd
      · refine .inl ⟨h1, ?_⟩
        split <;> omega
      · exact .inr ⟨d, hd, h1, h2, h3⟩
theorem spRiseExt : ∀ {xs ys : List Int}, xs.Pairwise (· < ·) → ys.Pairwise (· < ·) → (∀ a, a ∈ xs ↔ a ∈ ys) → xs = ys
  | [], [], _, _, _ => rfl
  | [], y :: ys, _, _, h => absurd ((h y).2 (by simp)) (by simp)
  | x :: xs, [], _, _, h => absurd ((h x).1 (by simp)) (by simp)
  | x :: xs, y :: ys, hx, hy, h => by
    rw [List.pairwise_cons] at hx hy
    have e : x = y := by
      have h1 := (h x).1 (by simp)
      have h2 := (h y).2 (by simp)
      rcases List.mem_cons.1 h1 with rfl | h1
      · rfl
      · rcases List.mem_cons.1 h2 with rfl | h2
        · rfl
        · have a1 := hy.1 x h1
          have a2 := hx.1 y h2
          omega
    subst e
    congr 1
    refine spRiseExt hx.2 hy.2 (fun a => ?_)
    have ha := h a
    simp only [List.mem_cons] at ha
    constructor
    · intro hm
      rcases ha.1 (.inr hm) with rfl | h'
      · have := hx.1 a hm; omega
      · exact h'
    · intro hm
      rcases ha.2 (.inr hm) with rfl | h'
      · have := hy.1 a hm; omega
      · exact h'
/-- Spans without a fault: each lies behind the one ahead. -/
theorem spOk_at {xs : List L2} (h : SpOk xs xs.length) {j : Nat} {c : L2} (hj : xs[j]? = some c) : 0 ≤ c.1 ∧ c.1 ≤ c.2 ∧ c.2 ≤ 400 ∧ ∀ p, 0 < j → xs[j - 1]? = some p → p.2 ≤ c.1 := by
  obtain ⟨hk, _⟩ := List.getElem?_eq_some_iff.1 hj
  have hb := h j hk
  unfold SpBad at hb
  rw [getD_at hj] at hb
  refine ⟨by omega, by omega, by omega, fun p h0 hp => ?_⟩
  rw [getD_at hp] at hb
  by_cases hlt : c.1 < p.2
  · exact absurd (.inr (.inr (.inr ⟨h0, .inl hlt⟩))) hb
  · omega
theorem spOk_far {xs : List L2} (h : SpOk xs xs.length) : ∀ (d i : Nat) (p c : L2), xs[i]? = some p → xs[i + d + 1]? = some c → p.2 ≤ c.1
  | 0, i, p, c, hp, hc => (spOk_at h hc).2.2.2 p (by omega) hp
  | d + 1, i, p, c, hp, hc => by
    have hl : i + (d + 1) + 1 < xs.length := (List.getElem?_eq_some_iff.1 hc).1
    have hm : xs[i + d + 1]? = some xs[i + d + 1] := List.getElem?_eq_getElem (by omega)
    have h1 := spOk_far h d i p _ hp hm
    have h2 := (spOk_at h hc).2.2.2 xs[i + d + 1] (by omega) (by rw [← hm]; congr 1)
    have h3 := (spOk_at h hm).2.1
    omega
theorem spGo_rise {n : Int} {xs : List L2} (h : SpOk xs xs.length) : ∀ k, k ≤ xs.length → (spGo n (xs.take k)).Pairwise (· < ·)
  | 0, _ => by simp [spGo]
  | k + 1, hk => by
    have hc : xs[k]? = some xs[k] := List.getElem?_eq_getElem (by omega)
    rw [spGo_succ hc, List.pairwise_append]
    refine ⟨spGo_rise h k (by omega), upTo_rise _ _, fun a ha b hb => ?_⟩
    obtain ⟨d, hd, h1, h2, h3⟩ := (spGo_mem n _ a).1 ha
    obtain ⟨i, hi⟩ := List.mem_iff_getElem?.1 hd
    have hik : i < k := by
      have := (List.getElem?_eq_some_iff.1 hi).1
      rw [List.length_take] at this
      omega
    rw [List.getElem?_take_of_lt hik] at hi
    have h4 := spOk_far h (k - i - 1) i d xs[k] hi (by rw [← hc]; congr 1; omega)
    have h5 := ((upTo_mem _ _ b).1 hb).1
    omega
theorem spGo_is {n : Nat} {xs : List L2} (h : spFault xs = 0) : spGo n xs = mkPlaces xs n := by
  obtain ⟨h1, h2⟩ := spFault_zero h
  have hr := spGo_rise (n := n) h2 xs.length (Nat.le_refl _)
  rw [List.take_length] at hr
  refine spRiseExt hr (mkPlaces_rise xs n) (fun a => ?_)
  rw [spGo_mem, mkPlaces_mem]
  unfold inSp
  rw [List.any_eq_true]
  constructor
  · rintro ⟨c, hc, h3, h4, h5⟩
    obtain ⟨j, hj⟩ := List.mem_iff_getElem?.1 hc
    have := (spOk_at h2 hj).1
    exact ⟨by omega, h5, c, hc, by simp; omega⟩
  · rintro ⟨h3, h4, c, hc, h5⟩
    simp at h5
    exact ⟨c, hc, h5.1, h5.2, h4⟩
theorem spGo_len {n : Nat} {xs : List L2} (h : spFault xs = 0) (k : Nat) : (spGo n (xs.take k)).length ≤ n := by
  have h1 : (spGo n xs).length ≤ n := by rw [spGo_is h]; exact mkPlaces_len xs n
  have h2 : spGo n xs = spGo n (xs.take k) ++ spGo n (xs.drop k) := by rw [← spGo_append, List.take_append_drop]
  rw [h2, List.length_append] at h1
  omega

/-- MarkBytes: its code, its list. -/
def mbCode (xs : List L2) (n : Int) : Int := if spFault xs ≠ 0 then spFault xs else if n < 0 ∨ 400 < n then 3 else 0
def mbRes (xs : List L2) (n : Int) : List Int := if mbCode xs n = 0 then mkPlaces xs n.toNat else []
theorem mbRes_len (xs : List L2) (n : Int) : (mbRes xs n).length ≤ 400 := by
  unfold mbRes
  split
  · rename_i h
    have := mkPlaces_len xs n.toNat
    unfold mbCode at h
    split at h
    · rename_i h1; exact absurd h h1
    · split at h
      · omega
      · omega
  · simp
end Go.Proofs.Ytppielcpidcmaaa
