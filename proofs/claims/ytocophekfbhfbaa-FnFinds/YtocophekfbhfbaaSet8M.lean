/-
  Chapter 7: both sides tell the same sets: plain mathematics. It speaks of no program.
-/
import Derived.Test.YtocophekfbhfbaaSetB
namespace Go.Proofs.Ytocophekfbhfbaa
open Go.RowKit
set_option linter.unusedVariables false
set_option linter.unusedSimpArgs false

theorem setGo_ok {n p : Int} {xs : List Int} (hp : -1 ≤ p) (h : setGo n p xs = 0) : ∀ x ∈ xs, 0 ≤ x ∧ x < n := by
  induction xs generalizing p with
  | nil => intro x hx; simp at hx
  | cons a xs ih =>
    rw [setGo] at h
    by_cases h1 : a ≤ p ∨ n ≤ a
    · rw [if_pos h1] at h; omega
    · rw [if_neg h1] at h
      intro x hx
      rcases List.mem_cons.1 hx with rfl | hx
      · omega
      · exact ih (by omega) h x hx

theorem setFault_ok {is : List In} {xs : List Int} (h : setFault is xs = 0) : progFault is = 0 ∧ xs.length ≤ 80 ∧ ∀ x ∈ xs, 0 ≤ x ∧ x < is.length := by
  unfold setFault at h
  by_cases h1 : progFault is ≠ 0
  · rw [if_pos h1] at h; exact absurd h h1
  rw [if_neg h1] at h
  by_cases h2 : 80 < xs.length
  · rw [if_pos h2] at h; omega
  rw [if_neg h2] at h
  exact ⟨Decidable.not_not.1 h1, by omega, setGo_ok (by omega) h⟩

theorem getD_false_of_le {bs : List Bool} {q : Nat} (h : bs.length ≤ q) : bs.getD q false = false := by
  simp [List.getD_eq_getElem?_getD, List.getElem?_eq_none h]

theorem places_eq {R S : List Bool} (hl : S.length ≤ R.length) (h : ∀ q, R.getD q false = S.getD q false) : placesOf R = placesOf S := by
  unfold placesOf
  have e1 : placesTo R R.length = placesTo R S.length := by
    rw [show R.length = S.length + (R.length - S.length) by omega]
    exact placesTo_more (fun i hi => by rw [h, getD_false_of_le hi])
  rw [e1]
  exact placesTo_congr (fun i _ => h i)

theorem markB_at (xs : List Int) : ∀ (b : List Bool) (q : Nat), q < b.length → ((xs.foldl (fun b x => b.set x.toNat true) b).getD q false = true ↔ b.getD q false = true ∨ ∃ x ∈ xs, x.toNat = q) := by
  induction xs with
  | nil => intro b q hq; simp
  | cons a xs ih =>
    intro b q hq
    rw [List.foldl_cons, ih _ q (by simpa using hq)]
    constructor
    · rintro (h | ⟨x, hx, rfl⟩)
      · rcases getD_set_true h with rfl | h
        · exact .inr ⟨a, by simp, rfl⟩
        · exact .inl h
      · exact .inr ⟨x, by simp [hx], rfl⟩
    · rintro (h | ⟨x, hx, rfl⟩)
      · exact .inl (getD_set_keep h)
      · rcases List.mem_cons.1 hx with rfl | hx
        · exact .inl (getD_set_same hq)
        · exact .inr ⟨x, hx, rfl⟩

theorem rep_false (n q : Nat) : (List.replicate n false).getD q false = false := by
  by_cases hq : q < n <;> simp [List.getD_eq_getElem?_getD, hq]

theorem markB_mem {xs : List Int} (hx : ∀ x ∈ xs, 0 ≤ x ∧ x < 80) (q : Nat) : (markB xs).getD q false = true ↔ (q : Int) ∈ xs := by
  by_cases hq : q < 80
  · unfold markB
    rw [markB_at xs _ q (by simpa using hq), rep_false]
    simp only [Bool.false_eq_true, false_or]
    constructor
    · rintro ⟨x, h1, rfl⟩
      rw [show ((x.toNat : Nat) : Int) = x by have := hx x h1; omega]
      exact h1
    · intro h; exact ⟨_, h, by simp⟩
  · constructor
    · intro h; rw [getD_false_of_le (by rw [markB_len]; omega)] at h; cases h
    · intro h; have := hx _ h; omega

theorem markB_places {xs : List Int} (hx : ∀ x ∈ xs, 0 ≤ x ∧ x < 80) {k : Nat} (hk : ∀ x ∈ xs, x < k) (p : Int) : p ∈ placesTo (markB xs) k ↔ p ∈ xs := by
  rw [placesTo_mem]
  constructor
  · rintro ⟨q, rfl, _, h⟩; exact (markB_mem hx q).1 h
  · intro h
    have := hx p h
    have h3 := hk p h
    refine ⟨p.toNat, by omega, by omega, ?_⟩
    rw [markB_mem hx, show ((p.toNat : Nat) : Int) = p by omega]
    exact h

theorem below_markB {xs : List Int} {n : Nat} (hn : n ≤ 80) (hx : ∀ x ∈ xs, 0 ≤ x ∧ x < (n : Int)) : BelowN (markB xs) n := by
  intro q hq
  have := hx _ ((markB_mem (fun x h => by have := hx x h; omega) q).1 hq)
  omega

/-- What both come to: the same. -/
theorem close_eq {is : List In} (hin : Inside is) (h80 : is.length ≤ 80) (b e : Bool) {ps qs : List Int} (hpq : ∀ p, p ∈ ps ↔ p ∈ qs) (hp : ∀ p ∈ ps, p.toNat < is.length) : placesOf (closeI is b e ps) = placesOf (closeS is b e qs) := by
  obtain ⟨g1, g2⟩ := goes_of hin b e
  have hq : ∀ p ∈ qs, p.toNat < is.length := fun p h => hp p ((hpq p).2 h)
  have l1 := dfsAll_least g1 80 h80 (Nat.le_refl _) ps hp
  have l2 := dfsAll_least g2 is.length (Nat.le_refl _) h80 qs hq
  have n1 : (closeI is b e ps).length = 80 := dfsAll_len g1 80 h80 (Nat.le_refl _) _ (by simp) ps hp
  have n2 : (closeS is b e qs).length = is.length := dfsAll_len g2 is.length (Nat.le_refl _) h80 _ (by simp) qs hq
  exact places_eq (by rw [n1, n2]; exact h80) (Least.same (nxt_same b e is) hpq l1 l2)

theorem stepFold_at {is : List In} {d : Int} (ps : List Int) : ∀ (b : List Bool) (q : Nat), q < b.length → ((ps.foldl (stepGo is d) b).getD q false = true ↔ b.getD q false = true ∨ ∃ p ∈ ps, ∃ i, is[p.toNat]? = some i ∧ i.o = 1 ∧ hasB i.nd d = true ∧ i.x.toNat = q) := by
  induction ps with
  | nil => intro b q hq; simp
  | cons a ps ih =>
    intro b q hq
    have hlen : (stepGo is d b a).length = b.length := by
      have := stepFold_len is d [a] b
      simpa using this
    rw [List.foldl_cons, ih _ q (by rw [hlen]; exact hq)]
    have h1 : (stepGo is d b a).getD q false = true ↔ b.getD q false = true ∨ ∃ i, is[a.toNat]? = some i ∧ i.o = 1 ∧ hasB i.nd d = true ∧ i.x.toNat = q := by
      unfold stepGo
      cases hi : is[a.toNat]? with
      | none => simp
      | some i =>
        simp only [Option.some.injEq, exists_eq_left']
        by_cases hc : i.o = 1 ∧ hasB i.nd d = true
        · rw [if_pos hc]
          constructor
          · intro h
            rcases getD_set_true h with rfl | h
            · exact .inr ⟨hc.1, hc.2, rfl⟩
            · exact .inl h
          · rintro (h | ⟨_, _, rfl⟩)
            · exact getD_set_keep h
            · exact getD_set_same hq
        · rw [if_neg hc]
          constructor
          · intro h; exact .inl h
          · rintro (h | ⟨h1, h2, _⟩)
            · exact h
            · exact absurd ⟨h1, h2⟩ hc
    rw [h1]
    constructor
    · rintro ((h | h) | ⟨p, hp, h⟩)
      · exact .inl h
      · exact .inr ⟨a, by simp, h⟩
      · exact .inr ⟨p, by simp [hp], h⟩
    · rintro (h | ⟨p, hp, h⟩)
      · exact .inl (.inl h)
      · rcases List.mem_cons.1 hp with rfl | hp
        · exact .inl (.inr h)
        · exact .inr ⟨p, hp, h⟩

theorem stepI_at {is : List In} (hin : Inside is) (h80 : is.length ≤ 80) {d : Int} {ps : List Int} (q : Nat) : (stepI is d ps).getD q false = true ↔ ∃ p ∈ ps, ∃ i, is[p.toNat]? = some i ∧ i.o = 1 ∧ hasB i.nd d = true ∧ i.x.toNat = q := by
  by_cases hq : q < 80
  · unfold stepI
    rw [stepFold_at ps _ q (by simpa using hq), rep_false]
    simp
  · constructor
    · intro h; rw [getD_false_of_le (by rw [stepI_len]; omega)] at h; cases h
    · rintro ⟨p, _, i, hi, _, _, rfl⟩
      have := hin i (List.mem_of_getElem? hi)
      omega
theorem stepS_at {is : List In} (hin : Inside is) {d : Int} {ps : List Int} (q : Nat) : (stepS is d ps).getD q false = true ↔ ∃ p ∈ ps, ∃ i, is[p.toNat]? = some i ∧ i.o = 1 ∧ hasB i.nd d = true ∧ i.x.toNat = q := by
  have hl : (stepS is d ps).length = is.length := by unfold stepS; rw [stepFold_len]; simp
  by_cases hq : q < is.length
  · unfold stepS
    rw [stepFold_at ps _ q (by simpa using hq), rep_false]
    simp
  · constructor
    · intro h; rw [getD_false_of_le (by omega)] at h; cases h
    · rintro ⟨p, _, i, hi, _, _, rfl⟩
      have := hin i (List.mem_of_getElem? hi)
      omega

theorem step_eq {is : List In} (hin : Inside is) (h80 : is.length ≤ 80) (d : Int) {ps qs : List Int} (hpq : ∀ p, p ∈ ps ↔ p ∈ qs) : placesOf (stepI is d ps) = placesOf (stepS is d qs) := by
  have n2 : (stepS is d qs).length = is.length := by unfold stepS; rw [stepFold_len]; simp
  refine places_eq (by rw [stepI_len, n2]; exact h80) (fun q => ?_)
  have h1 := stepI_at hin h80 (d := d) (ps := ps) q
  have h2 := stepS_at hin (d := d) (ps := qs) q
  have h3 : (stepI is d ps).getD q false = true ↔ (stepS is d qs).getD q false = true := by
    rw [h1, h2]
    constructor
    · rintro ⟨p, hp, h⟩; exact ⟨p, (hpq p).1 hp, h⟩
    · rintro ⟨p, hp, h⟩; exact ⟨p, (hpq p).2 hp, h⟩
  exact Bool.eq_iff_iff.2 h3

/-- What CloseSet and StepSet tell. -/
def clRes (is : List In) (xs : List Int) (b e : Bool) : List Int := if setFault is xs = 0 then placesOf (closeS is b e xs) else []
def stRes (is : List In) (xs : List Int) (d : Int) : List Int := if setFault is xs = 0 then placesOf (stepS is d xs) else []
theorem clRes_len (is : List In) (xs : List Int) (b e : Bool) : (clRes is xs b e).length ≤ 80 := by
  unfold clRes
  split
  · rename_i h
    obtain ⟨h1, h2, h3⟩ := setFault_ok h
    have hp := progFault_ok h1
    have hl := placesOf_len (closeS is b e xs)
    have := dfsAll_len (goes_of (inside_of h1) b e).2 is.length (Nat.le_refl _) hp.2.1 (List.replicate is.length false) (by simp) xs (fun p h => by have := h3 p h; omega)
    have e2 : (closeS is b e xs).length = is.length := this
    omega
  · simp
theorem stRes_len (is : List In) (xs : List Int) (d : Int) : (stRes is xs d).length ≤ 80 := by
  unfold stRes
  split
  · rename_i h
    have hp := progFault_ok (setFault_ok h).1
    have hl := placesOf_len (stepS is d xs)
    have n2 : (stepS is d xs).length = is.length := by unfold stepS; rw [stepFold_len]; simp
    omega
  · simp
end Go.Proofs.Ytocophekfbhfbaa
