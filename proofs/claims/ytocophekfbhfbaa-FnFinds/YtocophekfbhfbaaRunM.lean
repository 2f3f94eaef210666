/-
  Chapter 7: a program over a text: plain mathematics. It speaks of no program.
-/
import Derived.Test.YtocophekfbhfbaaSet8M
namespace Go.Proofs.Ytocophekfbhfbaa
open Go.RowKit
set_option linter.unusedVariables false
set_option linter.unusedSimpArgs false

/-- From the closed places C at i on; the last place at which one was done is out. -/
def mid (is : List In) (text : List Int) : Nat → List Int → Nat → Int → Int
  | 0, _, _, out => out
  | f + 1, C, i, out =>
    if C = [] then out else
      if i = text.length then (if doneL is C then (i : Int) else out)
      else mid is text f (placesOf (closeS is false (decide (i + 1 = text.length)) (placesOf (stepS is (text.getD i 0) C)))) (i + 1) (if doneL is C then (i : Int) else out)

def runV (is : List In) (text : List Int) (at_ : Nat) : Int :=
  mid is text (text.length - at_ + 1) (placesOf (closeS is (decide (at_ = 0)) (decide (at_ = text.length)) [0])) at_ (-1)

def runCode (is : List In) (text : List Int) (at_ : Int) : Int :=
  if progFault is ≠ 0 then progFault is else if 400 < text.length then 2 else if ¬ (0 ≤ at_ ∧ at_ ≤ text.length) then 3 else if runV is text at_.toNat < 0 then 4 else 0
def runVal (is : List In) (text : List Int) (at_ : Int) : Int := if runCode is text at_ = 0 then runV is text at_.toNat else 0

theorem mid_nil {is : List In} {text : List Int} {f : Nat} {i : Nat} {out : Int} : mid is text f [] i out = out := by
  cases f <;> simp [mid]
theorem mid_end {is : List In} {text : List Int} {f : Nat} {C : List Int} {i : Nat} {out : Int} (h : C ≠ []) (hi : i = text.length) : mid is text (f + 1) C i out = if doneL is C then (i : Int) else out := by
  rw [mid, if_neg h, if_pos hi]
theorem mid_go {is : List In} {text : List Int} {f : Nat} {C : List Int} {i : Nat} {out : Int} (h : C ≠ []) (hi : i ≠ text.length) :
    mid is text (f + 1) C i out = mid is text f (placesOf (closeS is false (decide (i + 1 = text.length)) (placesOf (stepS is (text.getD i 0) C)))) (i + 1) (if doneL is C then (i : Int) else out) := by
  rw [mid, if_neg h, if_neg hi]

theorem mid_ge {is : List In} {text : List Int} : ∀ (f : Nat) (C : List Int) (i : Nat) (out : Int), -1 ≤ out → -1 ≤ mid is text f C i out
  | 0, C, i, out, h => h
  | f + 1, C, i, out, h => by
    have h2 : -1 ≤ (if doneL is C then (i : Int) else out) := by split <;> omega
    by_cases hc : C = []
    · subst hc; rw [mid_nil]; exact h
    · by_cases hi : i = text.length
      · rw [mid_end hc hi]; exact h2
      · rw [mid_go hc hi]; exact mid_ge f _ _ _ h2
theorem runV_ge (is : List In) (text : List Int) (at_ : Nat) : -1 ≤ runV is text at_ := mid_ge _ _ _ _ (by omega)

theorem placesOf_mem {bs : List Bool} {p : Int} : p ∈ placesOf bs ↔ ∃ q : Nat, p = q ∧ bs.getD q false = true := by
  unfold placesOf
  rw [placesTo_mem]
  constructor
  · rintro ⟨q, rfl, _, h⟩; exact ⟨q, rfl, h⟩
  · rintro ⟨q, rfl, h⟩
    refine ⟨q, rfl, ?_, h⟩
    by_cases hq : q < bs.length
    · exact hq
    · rw [getD_false_of_le (by omega)] at h; cases h

theorem placesOf_rep (n : Nat) : placesOf (List.replicate n false) = [] := by
  rw [List.eq_nil_iff_forall_not_mem]
  intro p hp
  obtain ⟨q, _, h⟩ := placesOf_mem.1 hp
  rw [rep_false] at h
  cases h

theorem close_nil (is : List In) (b e : Bool) : placesOf (closeS is b e []) = [] := placesOf_rep _

theorem close_more {is : List In} (hin : Inside is) (h80 : is.length ≤ 80) (b e : Bool) {L : List Int} (hL : ∀ p ∈ L, 0 ≤ p ∧ p < is.length) : (∀ p ∈ L, p ∈ placesOf (closeS is b e L)) ∧ ∀ p ∈ placesOf (closeS is b e L), 0 ≤ p ∧ p < is.length := by
  obtain ⟨g1, g2⟩ := goes_of hin b e
  have hp : ∀ p ∈ L, p.toNat < is.length := fun p h => by have := hL p h; omega
  have l2 := dfsAll_least g2 is.length (Nat.le_refl _) h80 L hp
  constructor
  · intro p h
    refine placesOf_mem.2 ⟨p.toNat, by have := hL p h; omega, l2.mem p h⟩
  · intro p h
    obtain ⟨q, rfl, hq⟩ := placesOf_mem.1 h
    have := l2.lt g2 hp q hq
    omega

theorem close_ne {is : List In} (hin : Inside is) (h80 : is.length ≤ 80) (b e : Bool) {L : List Int} (hL : ∀ p ∈ L, 0 ≤ p ∧ p < is.length) (h : L ≠ []) : placesOf (closeS is b e L) ≠ [] := by
  obtain ⟨p, hp⟩ := List.exists_mem_of_ne_nil L h
  intro e0
  have := (close_more hin h80 b e hL).1 p hp
  rw [e0] at this
  simp at this

theorem step_lt {is : List In} (hin : Inside is) {d : Int} {L : List Int} : ∀ p ∈ placesOf (stepS is d L), 0 ≤ p ∧ p < is.length := by
  intro p h
  obtain ⟨q, rfl, hq⟩ := placesOf_mem.1 h
  obtain ⟨_, _, i, hi, _, _, rfl⟩ := (stepS_at hin q).1 hq
  have := hin i (List.mem_of_getElem? hi)
  omega

theorem placesTo_full {bs : List Bool} {n : Nat} (h : BelowN bs n) (hn : n ≤ bs.length) : placesTo bs n = placesOf bs := by
  unfold placesOf
  rw [show bs.length = n + (bs.length - n) by omega]
  refine (placesTo_more (fun i hi => ?_)).symm
  cases hb : bs.getD i false
  · rfl
  · have := h i hb; omega

/-- The next closed set of the program: the specification's. -/
theorem next_eq {is : List In} (hin : Inside is) (h80 : is.length ≤ 80) (e : Bool) (d : Int) {bs : List Bool} (hl : bs.length = 80) (hb : BelowN bs is.length) :
    placesOf (closeI is false e (placesOf (stepI is d (placesTo bs is.length)))) = placesOf (closeS is false e (placesOf (stepS is d (placesOf bs)))) ∧
    BelowN (stepI is d (placesTo bs is.length)) is.length ∧ BelowN (closeI is false e (placesOf (stepI is d (placesTo bs is.length)))) is.length ∧ (closeI is false e (placesOf (stepI is d (placesTo bs is.length)))).length = 80 := by
  have e1 := placesTo_full hb (by omega)
  have h2 := step_eq hin h80 d (ps := placesTo bs is.length) (qs := placesOf bs) (fun p => by rw [e1])
  have h3 : BelowN (stepI is d (placesTo bs is.length)) is.length := by
    intro q hq
    obtain ⟨_, _, i, hi, _, _, rfl⟩ := (stepI_at hin h80 q).1 hq
    have := hin i (List.mem_of_getElem? hi)
    omega
  have hp : ∀ p ∈ placesOf (stepI is d (placesTo bs is.length)), p.toNat < is.length := by
    intro p h
    obtain ⟨q, rfl, hq⟩ := placesOf_mem.1 h
    have := h3 q hq
    omega
  have h4 := close_eq hin h80 false e (ps := placesOf (stepI is d (placesTo bs is.length))) (qs := placesOf (stepS is d (placesOf bs))) (fun p => by rw [h2]) hp
  obtain ⟨g1, g2⟩ := goes_of hin false e
  have l1 := dfsAll_least g1 80 h80 (Nat.le_refl _) _ hp
  exact ⟨h4, h3, l1.lt g1 hp, dfsAll_len g1 80 h80 (Nat.le_refl _) _ (by simp) _ hp⟩

/-- The set of the first place alone. -/
def first80 : List Bool := true :: List.replicate 79 false
theorem first80_len : first80.length = 80 := by simp [first80]
theorem first80_at (q : Nat) : first80.getD q false = decide (q = 0) := by
  unfold first80
  cases q with
  | zero => rfl
  | succ q =>
    have := rep_false 79 q
    rw [List.getD_eq_getElem?_getD] at this ⊢
    rw [List.getElem?_cons_succ, this]
    rfl
theorem first80_mem (p : Int) : p ∈ placesOf first80 ↔ p ∈ [(0 : Int)] := by
  rw [placesOf_mem]
  simp only [first80_at, decide_eq_true_eq, List.mem_singleton]
  constructor
  · rintro ⟨q, rfl, rfl⟩; rfl
  · rintro rfl; exact ⟨0, rfl, rfl⟩
theorem first_eq {is : List In} (hin : Inside is) (h1 : 1 ≤ is.length) (h80 : is.length ≤ 80) (b e : Bool) :
    placesOf (closeI is b e (placesOf first80)) = placesOf (closeS is b e [0]) ∧ BelowN first80 is.length ∧ BelowN (closeI is b e (placesOf first80)) is.length ∧ (closeI is b e (placesOf first80)).length = 80 := by
  have hp : ∀ p ∈ placesOf first80, p.toNat < is.length := by
    intro p h
    have := (first80_mem p).1 h
    simp at this
    omega
  have h4 := close_eq hin h80 b e (ps := placesOf first80) (qs := [0]) first80_mem hp
  obtain ⟨g1, g2⟩ := goes_of hin b e
  have l1 := dfsAll_least g1 80 h80 (Nat.le_refl _) _ hp
  refine ⟨h4, fun q hq => ?_, l1.lt g1 hp, dfsAll_len g1 80 h80 (Nat.le_refl _) _ (by simp) _ hp⟩
  rw [first80_at] at hq
  simp at hq
  omega

/-- A set is empty just where it has no places. -/
theorem boolsA_ne {bs : List Bool} (hl : bs.length = 80) : (bs ≠ List.replicate 80 false) ↔ placesOf bs ≠ [] := by
  constructor
  · intro h e0
    apply h
    apply List.ext_getElem (by simp [hl])
    intro i h1 h2
    rw [List.getElem_replicate]
    cases hb : bs[i]
    · rfl
    · have : ((i : Nat) : Int) ∈ placesOf bs := placesOf_mem.2 ⟨i, rfl, by simp [List.getD_eq_getElem?_getD, h1, hb]⟩
      rw [e0] at this
      simp at this
  · rintro h rfl
    exact h (placesOf_rep 80)
end Go.Proofs.Ytocophekfbhfbaa
