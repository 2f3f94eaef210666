/-
  Chapter 9: a program over a line, from all places at once: plain mathematics. It speaks of no program.
-/
import Derived.Test.YtaeolofailompaaRunM
namespace Go.Proofs.Ytaeolofailompaa
open Go.RowKit
set_option linter.unusedVariables false
set_option linter.unusedSimpArgs false

/-- The closure of what comes from several places is what the closures have together. -/
theorem least_uni {tg tg' : In → Option Nat × Option Nat} {is : List In} (he : ∀ p q, Nxt tg is p q ↔ Nxt tg' is p q) {J : Nat → Prop} {P : Nat → List Int} {R : Nat → List Bool} {ps : List Int} {S : List Bool}
    (h : Least tg is ps S) (hj : ∀ j, J j → Least tg' is (P j) (R j)) (hp : ∀ p, p ∈ ps ↔ ∃ j, J j ∧ p ∈ P j) (q : Nat) : S.getD q false = true ↔ ∃ j, J j ∧ (R j).getD q false = true := by
  constructor
  · refine fun hq => h.min (fun q => ∃ j, J j ∧ (R j).getD q false = true) ?_ ?_ q hq
    · rintro q r ⟨j, h1, h2⟩ hx
      exact ⟨j, h1, (hj j h1).cl q r h2 ((he q r).1 hx)⟩
    · intro p hps
      obtain ⟨j, h1, h2⟩ := (hp p).1 hps
      exact ⟨j, h1, (hj j h1).mem p h2⟩
  · rintro ⟨j, h1, h2⟩
    exact (hj j h1).min (fun q => S.getD q false = true) (fun q r hq hx => h.cl q r hq ((he q r).2 hx)) (fun p h3 => h.mem p ((hp p).2 ⟨j, h1, h3⟩)) q h2

/-- From the place s on: the closed places behind d bytes. -/
def csS (is : List In) (text : List Int) (s : Nat) : Nat → List Int
  | 0 => placesOf (closeS is (decide (s = 0)) (decide (s = text.length)) [0])
  | d + 1 => placesOf (closeS is false (decide (s + d + 1 = text.length)) (placesOf (stepS is (text.getD (s + d) 0) (csS is text s d))))
/-- From all places at once: the program's closed set at a place. -/
def usI (is : List In) (text : List Int) : Nat → List Bool
  | 0 => closeI is true (decide (0 = text.length)) (placesOf ((List.replicate 80 false).set 0 true))
  | i + 1 => closeI is false (decide (i + 1 = text.length)) (placesOf ((stepI is (text.getD i 0) (placesTo (usI is text i) is.length)).set 0 true))

theorem placesOf_set {bs : List Bool} (hl : 0 < bs.length) (p : Int) : p ∈ placesOf (bs.set 0 true) ↔ p = 0 ∨ p ∈ placesOf bs := by
  rw [placesOf_mem, placesOf_mem]
  constructor
  · rintro ⟨q, rfl, hq⟩
    rcases getD_set_true hq with rfl | h
    · exact .inl rfl
    · exact .inr ⟨q, rfl, h⟩
  · rintro (rfl | ⟨q, rfl, hq⟩)
    · exact ⟨0, rfl, getD_set_same hl⟩
    · exact ⟨q, rfl, getD_set_keep hq⟩

section
variable {is : List In} {text : List Int}
theorem csS_lt (hin : Inside is) (h1 : 1 ≤ is.length) (h80 : is.length ≤ 80) (s : Nat) : ∀ d, ∀ p ∈ csS is text s d, 0 ≤ p ∧ p < (is.length : Int)
  | 0 => (close_more hin h80 _ _ (L := [0]) (fun p hp => by simp at hp; subst hp; omega)).2
  | d + 1 => (close_more hin h80 _ _ (step_lt hin)).2
theorem usI_len (hin : Inside is) (h1 : 1 ≤ is.length) (h80 : is.length ≤ 80) : ∀ i, (usI is text i).length = 80 ∧ BelowN (usI is text i) is.length ∧
    (∀ e : Bool, ∀ c : Int, BelowN ((stepI is c (placesTo (usI is text i) is.length)).set 0 true) is.length) := by
  have H : ∀ (bs : List Bool) (b e : Bool), BelowN bs is.length → (closeI is b e (placesOf bs)).length = 80 ∧ BelowN (closeI is b e (placesOf bs)) is.length := by
    intro bs b e hb
    have hp : ∀ p ∈ placesOf bs, p.toNat < is.length := by
      intro p h
      obtain ⟨q, rfl, hq⟩ := placesOf_mem.1 h
      have := hb q hq
      omega
    obtain ⟨g1, g2⟩ := goes_of hin b e
    have l1 := dfsAll_least g1 80 h80 (Nat.le_refl _) _ hp
    exact ⟨dfsAll_len g1 80 h80 (Nat.le_refl _) _ (by simp) _ hp, l1.lt g1 hp⟩
  have H2 : ∀ (c : Int) (ps : List Int), BelowN ((stepI is c ps).set 0 true) is.length := by
    intro c ps q hq
    rcases getD_set_true hq with rfl | h
    · omega
    · obtain ⟨_, _, i, hi, _, _, rfl⟩ := (stepI_at hin h80 q).1 h
      have := hin i (List.mem_of_getElem? hi)
      omega
  have H3 : BelowN ((List.replicate 80 false).set 0 true) is.length := by
    intro q hq
    rcases getD_set_true hq with rfl | h
    · omega
    · rw [rep_false] at h; cases h
  intro i
  cases i with
  | zero => exact ⟨(H _ _ _ H3).1, (H _ _ _ H3).2, fun _ c => H2 c _⟩
  | succ i => exact ⟨(H _ _ _ (H2 _ _)).1, (H _ _ _ (H2 _ _)).2, fun _ c => H2 c _⟩
theorem usI_mem (hin : Inside is) (h1 : 1 ≤ is.length) (h80 : is.length ≤ 80) : ∀ (i : Nat) (p : Int), p ∈ placesOf (usI is text i) ↔ ∃ s, s ≤ i ∧ p ∈ csS is text s (i - s)
  | 0, p => by
    have he := close_eq hin h80 true (decide (0 = text.length)) (ps := placesOf ((List.replicate 80 false).set 0 true)) (qs := [0]) (fun p => by
      rw [placesOf_set (by simp), placesOf_rep]; simp) (fun p hp => by
      rw [placesOf_set (by simp), placesOf_rep] at hp; simp at hp; subst hp; simp; omega)
    have e2 : placesOf (usI is text 0) = csS is text 0 0 := by rw [usI, he, csS]; rfl
    rw [e2]
    constructor
    · intro h; exact ⟨0, Nat.le_refl _, h⟩
    · rintro ⟨s, hs, h⟩
      obtain rfl : s = 0 := by omega
      exact h
  | i + 1, p => by
    have ih := usI_mem hin h1 h80 i
    obtain ⟨hl, hb, hB⟩ := usI_len (text := text) hin h1 h80 i
    obtain ⟨g1, g2⟩ := goes_of hin false (decide (i + 1 = text.length))
    have hp : ∀ p ∈ placesOf ((stepI is (text.getD i 0) (placesTo (usI is text i) is.length)).set 0 true), p.toNat < is.length := by
      intro p h
      obtain ⟨q, rfl, hq⟩ := placesOf_mem.1 h
      have := hB false _ q hq
      omega
    have l1 := dfsAll_least g1 80 h80 (Nat.le_refl _) _ hp
    have hstep : ∀ (s d : Nat) (p : Int), p ∈ placesOf (stepS is (text.getD (s + d) 0) (csS is text s d)) ↔ ∃ q : Nat, p = q ∧ ∃ p' ∈ csS is text s d, ∃ i, is[p'.toNat]? = some i ∧ i.o = 1 ∧ hasB i.nd (text.getD (s + d) 0) = true ∧ i.x.toNat = q := by
      intro s d p
      rw [placesOf_mem]
      constructor
      · rintro ⟨q, e, hq⟩; exact ⟨q, e, (stepS_at hin q).1 hq⟩
      · rintro ⟨q, e, hq⟩; exact ⟨q, e, (stepS_at hin q).2 hq⟩
    have key := least_uni (nxt_same false (decide (i + 1 = text.length)) is) (J := fun s => s ≤ i + 1) (P := fun s => if s ≤ i then placesOf (stepS is (text.getD i 0) (csS is text s (i - s))) else [0])
      (R := fun s => closeS is false (decide (i + 1 = text.length)) (if s ≤ i then placesOf (stepS is (text.getD i 0) (csS is text s (i - s))) else [0])) l1
      (fun s hs => by
        refine dfsAll_least g2 is.length (Nat.le_refl _) h80 _ (fun p hp => ?_)
        by_cases hsi : s ≤ i
        · simp only [if_pos hsi] at hp
          have := step_lt hin p hp
          omega
        · simp only [if_neg hsi] at hp
          simp at hp
          subst hp
          simp
          omega)
      (fun p => by
        rw [placesOf_set (by rw [stepI_len]; omega)]
        constructor
        · rintro (rfl | hm)
          · exact ⟨i + 1, Nat.le_refl _, by rw [if_neg (by omega)]; simp⟩
          · obtain ⟨q, rfl, hq⟩ := placesOf_mem.1 hm
            obtain ⟨p', hp', i', h3⟩ := (stepI_at hin h80 q).1 hq
            rw [placesTo_full hb (by omega)] at hp'
            obtain ⟨s, hs, hm'⟩ := (ih p').1 hp'
            refine ⟨s, by omega, ?_⟩
            rw [if_pos hs, placesOf_mem]
            exact ⟨q, rfl, (stepS_at hin q).2 ⟨p', hm', i', h3⟩⟩
        · rintro ⟨s, hs, hm⟩
          by_cases hsi : s ≤ i
          · rw [if_pos hsi] at hm
            obtain ⟨q, rfl, hq⟩ := placesOf_mem.1 hm
            obtain ⟨p', hp', i', h3⟩ := (stepS_at hin q).1 hq
            refine .inr (placesOf_mem.2 ⟨q, rfl, (stepI_at hin h80 q).2 ⟨p', ?_, i', h3⟩⟩)
            rw [placesTo_full hb (by omega)]
            exact (ih p').2 ⟨s, hsi, hp'⟩
          · rw [if_neg hsi] at hm
            exact .inl (by simpa using hm))
    rw [placesOf_mem, usI]
    constructor
    · rintro ⟨q, rfl, hq⟩
      obtain ⟨s, hs, hm⟩ := (key q).1 hq
      refine ⟨s, hs, ?_⟩
      by_cases hsi : s ≤ i
      · rw [if_pos hsi] at hm
        rw [show i + 1 - s = (i - s) + 1 by omega, csS, show s + (i - s) = i by omega]
        exact placesOf_mem.2 ⟨q, rfl, hm⟩
      · rw [if_neg hsi] at hm
        obtain rfl : s = i + 1 := by omega
        rw [Nat.sub_self, csS, show decide (i + 1 = 0) = false by simp]
        exact placesOf_mem.2 ⟨q, rfl, hm⟩
    · rintro ⟨s, hs, hm⟩
      by_cases hsi : s ≤ i
      · rw [show i + 1 - s = (i - s) + 1 by omega, csS, show s + (i - s) = i by omega] at hm
        obtain ⟨q, rfl, hq⟩ := placesOf_mem.1 hm
        exact ⟨q, rfl, (key q).2 ⟨s, hs, by rw [if_pos hsi]; exact hq⟩⟩
      · obtain rfl : s = i + 1 := by omega
        rw [Nat.sub_self, csS, show decide (i + 1 = 0) = false by simp] at hm
        obtain ⟨q, rfl, hq⟩ := placesOf_mem.1 hm
        exact ⟨q, rfl, (key q).2 ⟨i + 1, hs, by rw [if_neg (by omega)]; exact hq⟩⟩

theorem doneL_uni {ps : List Int} {J : Nat → Prop} {P : Nat → List Int} (h : ∀ p, p ∈ ps ↔ ∃ j, J j ∧ p ∈ P j) : doneL is ps = true ↔ ∃ j, J j ∧ doneL is (P j) = true := by
  unfold doneL
  rw [List.any_eq_true]
  constructor
  · rintro ⟨p, hp, hd⟩
    obtain ⟨j, h1, h2⟩ := (h p).1 hp
    exact ⟨j, h1, List.any_eq_true.2 ⟨p, h2, hd⟩⟩
  · rintro ⟨j, h1, h2⟩
    obtain ⟨p, hp, hd⟩ := List.any_eq_true.1 h2
    exact ⟨p, (h p).2 ⟨j, h1, hp⟩, hd⟩

theorem csS_nil {s d : Nat} (h : csS is text s d = []) : ∀ e, csS is text s (d + e) = []
  | 0 => h
  | e + 1 => by
    rw [show d + (e + 1) = (d + e) + 1 by omega, csS, csS_nil h e]
    rw [show placesOf (stepS is (text.getD (s + (d + e)) 0) []) = [] from placesOf_rep _, close_nil]

theorem mid_pos : ∀ (f s d : Nat) (out : Int), s + d ≤ text.length → f = text.length - (s + d) + 1 →
    (0 ≤ mid is text f (csS is text s d) (s + d) out ↔ 0 ≤ out ∨ ∃ e, d ≤ e ∧ s + e ≤ text.length ∧ doneL is (csS is text s e) = true)
  | 0, s, d, out, h, hf => by omega
  | f + 1, s, d, out, h, hf => by
    by_cases hc : csS is text s d = []
    · rw [hc, mid_nil]
      constructor
      · exact .inl
      · rintro (h1 | ⟨e, h1, h2, h3⟩)
        · exact h1
        · have := csS_nil hc (e - d)
          rw [show d + (e - d) = e by omega] at this
          rw [this] at h3
          simp [doneL] at h3
    · by_cases hi : s + d = text.length
      · rw [mid_end hc hi]
        cases hd : doneL is (csS is text s d)
        · simp only [Bool.false_eq_true, if_false]
          constructor
          · exact .inl
          · rintro (h1 | ⟨e, h1, h2, h3⟩)
            · exact h1
            · obtain rfl : e = d := by omega
              rw [hd] at h3; cases h3
        · simp only [if_true]
          exact ⟨fun _ => .inr ⟨d, Nat.le_refl _, h, hd⟩, fun _ => by omega⟩
      · rw [mid_go hc hi]
        have ih := mid_pos f s (d + 1) (if doneL is (csS is text s d) then ((s + d : Nat) : Int) else out) (by omega) (by omega)
        rw [csS, show s + (d + 1) = s + d + 1 by omega] at ih
        rw [ih]
        cases hd : doneL is (csS is text s d)
        · simp only [Bool.false_eq_true, if_false]
          constructor
          · rintro (h1 | ⟨e, h1, h2, h3⟩)
            · exact .inl h1
            · exact .inr ⟨e, by omega, h2, h3⟩
          · rintro (h1 | ⟨e, h1, h2, h3⟩)
            · exact .inl h1
            · refine .inr ⟨e, ?_, h2, h3⟩
              by_cases he : e = d
              · subst he; rw [hd] at h3; cases h3
              · omega
        · simp only [if_true]
          exact ⟨fun _ => .inr ⟨d, Nat.le_refl _, by omega, hd⟩, fun _ => .inl (by omega)⟩

theorem runV_pos {s : Nat} (hs : s ≤ text.length) : 0 ≤ runV is text s ↔ ∃ e, s + e ≤ text.length ∧ doneL is (csS is text s e) = true := by
  have := mid_pos (is := is) (text := text) (text.length - s + 1) s 0 (-1) hs rfl
  simp only [csS, Nat.add_zero] at this
  unfold runV
  rw [this]
  constructor
  · rintro (h | ⟨e, _, h2, h3⟩)
    · omega
    · exact ⟨e, h2, h3⟩
  · rintro ⟨e, h2, h3⟩; exact .inr ⟨e, Nat.zero_le _, h2, h3⟩

/-- From some place one comes to the end of the program. -/
def hasV (is : List In) (text : List Int) : Bool := (List.range (text.length + 1)).any (fun s => decide (0 ≤ runV is text s))
def lineHas (is : List In) (text : List Int) : Bool := decide (progFault is = 0) && decide (text.length ≤ 400) && hasV is text
theorem hasV_of {s : Nat} (hs : s ≤ text.length) (h : 0 ≤ runV is text s) : hasV is text = true := List.any_eq_true.2 ⟨s, List.mem_range.2 (by omega), by simpa using h⟩
theorem hasV_not (h : ∀ s, s ≤ text.length → runV is text s < 0) : hasV is text = false := by
  cases e : hasV is text
  · rfl
  · obtain ⟨s, hs, h1⟩ := List.any_eq_true.1 e
    have h2 := h s (by have := List.mem_range.1 hs; omega)
    simp at h1
    omega
/-- The program's answer at a place. -/
theorem usI_done (hin : Inside is) (h1 : 1 ≤ is.length) (h80 : is.length ≤ 80) (i : Nat) : doneL is (placesTo (usI is text i) is.length) = true ↔ ∃ s, s ≤ i ∧ doneL is (csS is text s (i - s)) = true := by
  obtain ⟨hl, hb, _⟩ := usI_len (text := text) hin h1 h80 i
  rw [placesTo_full hb (by omega)]
  exact doneL_uni (J := fun s => s ≤ i) (P := fun s => csS is text s (i - s)) (usI_mem hin h1 h80 i)
theorem usI_yes (hin : Inside is) (h1 : 1 ≤ is.length) (h80 : is.length ≤ 80) {i : Nat} (hi : i ≤ text.length) (h : doneL is (placesTo (usI is text i) is.length) = true) : hasV is text = true := by
  obtain ⟨s, hs, hd⟩ := (usI_done hin h1 h80 i).1 h
  exact hasV_of (s := s) (by omega) ((runV_pos (by omega)).2 ⟨i - s, by omega, hd⟩)
theorem usI_no (hin : Inside is) (h1 : 1 ≤ is.length) (h80 : is.length ≤ 80) (h : ∀ i, i ≤ text.length → doneL is (placesTo (usI is text i) is.length) = false) : hasV is text = false := by
  refine hasV_not (fun s hs => ?_)
  by_cases hc : runV is text s < 0
  · exact hc
  · obtain ⟨e, h2, h3⟩ := (runV_pos (is := is) hs).1 (by omega)
    have h4 := (usI_done hin h1 h80 (s + e)).2 ⟨s, by omega, by rw [show s + e - s = e by omega]; exact h3⟩
    rw [h (s + e) h2] at h4
    cases h4
end
end Go.Proofs.Ytaeolofailompaa
