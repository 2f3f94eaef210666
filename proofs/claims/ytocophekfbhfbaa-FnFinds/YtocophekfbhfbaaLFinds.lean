/-
  For every list of bytes, FnFinds returns true: the nearest line that has the pattern is found, one behind the other, and where none has it that is told; no condition.
  (Out of HasM FndM Fnd1 Fnd2 Run1 Has2 Fnd3 Run2a Prog2 Has1 Lines3 Lines4 Fnd4 Lines5 FinM DrawF WFinds LFinds0.)
-/
import Derived.Deep.LoopGhost
import Derived.Lib.SlicesSearch
import Derived.ChangeKeysEq
import Derived.Deep.RegionHeld3
import Derived.Lib.BytesEntry
import Derived.RangeFuncNested
import Derived.RangeFuncBound
import Derived.RangeFuncCalls
import Derived.RangeFuncLeaves
import Derived.RangeFuncBox
import Derived.Shelf.Abstract
import Derived.OwnWalkIn
import Derived.RegionIn
import Derived.BigRegionIn
import Derived.TacticsInMore
import Derived.LoopNIn
import Derived.LoopIn
import Derived.Maps.AppendAt
import Derived.ProofKit
import Derived.OpenShut
import Derived.ChangeOld
import Derived.Below
import Derived.Carry
import Derived.Test.YtocophekfbhfbaaRunM
import Derived.Test.YtocophekfbhfbaaLinesM
import Derived.Test.YtocophekfbhfbaaRows2
import Derived.Test.YtocophekfbhfbaaBox
import Derived.Test.YtocophekfbhfbaaSetD
import Derived.Test.YtocophekfbhfbaaProgA
import Derived.Test.YtocophekfbhfbaaMath2
import Derived.Test.YtocophekfbhfbaaLines1
import Derived.Test.YtocophekfbhfbaaLines2
import Derived.Test.YtocophekfbhfbaaFiles1
import Derived.Test.YtocophekfbhfbaaAppend
import Derived.Test.YtocophekfbhfbaaSetB
import Derived.Test.YtocophekfbhfbaaProg1
import Derived.Test.YtocophekfbhfbaaFiles3
import Derived.Test.YtocophekfbhfbaaDrpA
import Derived.Test.YtocophekfbhfbaaArgsA
namespace Go.Proofs.Ytocophekfbhfbaa
open Go.RowKit
set_option linter.unusedVariables false
set_option linter.unusedSimpArgs false

/-- The closure of what comes from several places is what the closures have together. -/
theorem least_uni {tg tg' : In → Option Nat × Option Nat} {is : List In} (he : ∀ p q, Nxt tg is p q ↔ Nxt tg' is p q) {J : Nat → Prop} {P : Nat → List Int} {R : Nat → List Bool} {ps : List Int} {S : List Bool}
    (h : Least tg is ps S) (hj : ∀ j, J j → Least tg' is (P j) (R j)) (hp : ∀ p, p ∈ ps ↔ ∃ j, J j ∧ p ∈ P j) (q : Nat) : S.getD q false = true ↔ ∃ j, J j ∧ (R j).getD q false = true := by
  constructor
  · refine fun hq => h.min (fun q => ∃ j, J j ∧ (R j).getD q false = true) ?_ ?_ q hq
    · rintro q r ⟨j, h1, h2⟩ hx
      exact ⟨j, h1, (hj j h1).cl q r h2 ((he q r).1 hx)⟩
    · intro p hps
      obtain ⟨j, h1, h2⟩ := (hp p).1 hps
      exact ⟨j, h1, (hj j h1).mem p h2⟩
  · rintro ⟨j, h1, h2⟩
    exact (hj j h1).min (fun q => S.getD q false = true) (fun q r hq hx => h.cl q r hq ((he q r).2 hx)) (fun p h3 => h.mem p ((hp p).2 ⟨j, h1, h3⟩)) q h2

/-- From the place s on: the closed places behind d bytes. -/
def csS (is : List In) (text : List Int) (s : Nat) : Nat → List Int
  | 0 => placesOf (closeS is (decide (s = 0)) (decide (s = text.length)) [0])
  | d + 1 => placesOf (closeS is false (decide (s + d + 1 = text.length)) (placesOf (stepS is (text.getD (s + d) 0) (csS is text s d))))
/-- From all places at once: the program's closed set at a place. -/
def usI (is : List In) (text : List Int) : Nat → List Bool
  | 0 => closeI is true (decide (0 = text.length)) (placesOf ((List.replicate 80 false).set 0 true))
  | i + 1 => closeI is false (decide (i + 1 = text.length)) (placesOf ((stepI is (text.getD i 0) (placesTo (usI is text i) is.length)).set 0 true))

theorem placesOf_set {bs : List Bool} (hl : 0 < bs.length) (p : Int) : p ∈ placesOf (bs.set 0 true) ↔ p = 0 ∨ p ∈ placesOf bs := by
  rw [placesOf_mem, placesOf_mem]
  constructor
  · rintro ⟨q, rfl, hq⟩
    rcases getD_set_true hq with rfl | h
    · exact .inl rfl
    · exact .inr ⟨q, rfl, h⟩
  · rintro (rfl | ⟨q, rfl, hq⟩)
    · exact ⟨0, rfl, getD_set_same hl⟩
    · exact ⟨q, rfl, getD_set_keep hq⟩

section
variable {is : List In} {text : List Int}
theorem csS_lt (hin : Inside is) (h1 : 1 ≤ is.length) (h80 : is.length ≤ 80) (s : Nat) : ∀ d, ∀ p ∈ csS is text s d, 0 ≤ p ∧ p < (is.length : Int)
  | 0 => (close_more hin h80 _ _ (L := [0]) (fun p hp => by simp at hp; subst hp; omega)).2
  | d + 1 => (close_more hin h80 _ _ (step_lt hin)).2
theorem usI_len (hin : Inside is) (h1 : 1 ≤ is.length) (h80 : is.length ≤ 80) : ∀ i, (usI is text i).length = 80 ∧ BelowN (usI is text i) is.length ∧
    (∀ e : Bool, ∀ c : Int, BelowN ((stepI is c (placesTo (usI is text i) is.length)).set 0 true) is.length) := by
  have H : ∀ (bs : List Bool) (b e : Bool), BelowN bs is.length → (closeI is b e (placesOf bs)).length = 80 ∧ BelowN (closeI is b e (placesOf bs)) is.length := by
    intro bs b e hb
    have hp : ∀ p ∈ placesOf bs, p.toNat < is.length := by
      intro p h
      obtain ⟨q, rfl, hq⟩ := placesOf_mem.1 h
      have := hb q hq
      omega
    obtain ⟨g1, g2⟩ := goes_of hin b e
    have l1 := dfsAll_least g1 80 h80 (Nat.le_refl _) _ hp
    exact ⟨dfsAll_len g1 80 h80 (Nat.le_refl _) _ (by simp) _ hp, l1.lt g1 hp⟩
  have H2 : ∀ (c : Int) (ps : List Int), BelowN ((stepI is c ps).set 0 true) is.length := by
    intro c ps q hq
    rcases getD_set_true hq with rfl | h
    · omega
    · obtain ⟨_, _, i, hi, _, _, rfl⟩ := (stepI_at hin h80 q).1 h
      have := hin i (List.mem_of_getElem? hi)
      omega
  have H3 : BelowN ((List.replicate 80 false).set 0 true) is.length := by
    intro q hq
    rcases getD_set_true hq with rfl | h
    · omega
    · rw [rep_false] at h; cases h
  intro i
  cases i with
  | zero => exact ⟨(H _ _ _ H3).1, (H _ _ _ H3).2, fun _ c => H2 c _⟩
  | succ i => exact ⟨(H _ _ _ (H2 _ _)).1, (H _ _ _ (H2 _ _)).2, fun _ c => H2 c _⟩
theorem usI_mem (hin : Inside is) (h1 : 1 ≤ is.length) (h80 : is.length ≤ 80) : ∀ (i : Nat) (p : Int), p ∈ placesOf (usI is text i) ↔ ∃ s, s ≤ i ∧ p ∈ csS is text s (i - s)
  | 0, p => by
    have he := close_eq hin h80 true (decide (0 = text.length)) (ps := placesOf ((List.replicate 80 false).set 0 true)) (qs := [0]) (fun p => by
      rw [placesOf_set (by simp), placesOf_rep]; simp) (fun p hp => by
      rw [placesOf_set (by simp), placesOf_rep] at hp; simp at hp; subst hp; simp; omega)
    have e2 : placesOf (usI is text 0) = csS is text 0 0 := by rw [usI, he, csS]; rfl
    rw [e2]
    constructor
    · intro h; exact ⟨0, Nat.le_refl _, h⟩
    · rintro ⟨s, hs, h⟩
      obtain rfl : s = 0 := by omega
      exact h
  | i + 1, p => by
    have ih := usI_mem hin h1 h80 i
    obtain ⟨hl, hb, hB⟩ := usI_len (text := text) hin h1 h80 i
    obtain ⟨g1, g2⟩ := goes_of hin false (decide (i + 1 = text.length))
    have hp : ∀ p ∈ placesOf ((stepI is (text.getD i 0) (placesTo (usI is text i) is.length)).set 0 true), p.toNat < is.length := by
      intro p h
      obtain ⟨q, rfl, hq⟩ := placesOf_mem.1 h
      have := hB false _ q hq
      omega
    have l1 := dfsAll_least g1 80 h80 (Nat.le_refl _) _ hp
    have hstep : ∀ (s d : Nat) (p : Int), p ∈ placesOf (stepS is (text.getD (s + d) 0) (csS is text s d)) ↔ ∃ q : Nat, p = q ∧ ∃ p' ∈ csS is text s d, ∃ i, is[p'.toNat]? = some i ∧ i.o = 1 ∧ hasB i.nd (text.getD (s + d) 0) = true ∧ i.x.toNat = q := by
      intro s d p
      rw [placesOf_mem]
      constructor
      · rintro ⟨q, e, hq⟩; exact ⟨q, e, (stepS_at hin q).1 hq⟩
      · rintro ⟨q, e, hq⟩; exact ⟨q, e, (stepS_at hin q).2 hq⟩
    have key := least_uni (nxt_same false (decide (i + 1 = text.length)) is) (J := fun s => s ≤ i + 1) (P := fun s => if s ≤ i then placesOf (stepS is (text.getD i 0) (csS is text s (i - s))) else [0])
      (R := fun s => closeS is false (decide (i + 1 = text.length)) (if s ≤ i then placesOf (stepS is (text.getD i 0) (csS is text s (i - s))) else [0])) l1
      (fun s hs => by
        refine dfsAll_least g2 is.length (Nat.le_refl _) h80 _ (fun p hp => ?_)
        by_cases hsi : s ≤ i
        · simp only [if_pos hsi] at hp
          have := step_lt hin p hp
          omega
        · simp only [if_neg hsi] at hp
          simp at hp
          subst hp
          simp
          omega)
      (fun p => by
        rw [placesOf_set (by rw [stepI_len]; omega)]
        constructor
        · rintro (rfl | hm)
          · exact ⟨i + 1, Nat.le_refl _, by rw [if_neg (by omega)]; simp⟩
          · obtain ⟨q, rfl, hq⟩ := placesOf_mem.1 hm
            obtain ⟨p', hp', i', h3⟩ := (stepI_at hin h80 q).1 hq
            rw [placesTo_full hb (by omega)] at hp'
            obtain ⟨s, hs, hm'⟩ := (ih p').1 hp'
            refine ⟨s, by omega, ?_⟩
            rw [if_pos hs, placesOf_mem]
            exact ⟨q, rfl, (stepS_at hin q).2 ⟨p', hm', i', h3⟩⟩
        · rintro ⟨s, hs, hm⟩
          by_cases hsi : s ≤ i
          · rw [if_pos hsi] at hm
            obtain ⟨q, rfl, hq⟩ := placesOf_mem.1 hm
            obtain ⟨p', hp', i', h3⟩ := (stepS_at hin q).1 hq
            refine .inr (placesOf_mem.2 ⟨q, rfl, (stepI_at hin h80 q).2 ⟨p', ?_, i', h3⟩⟩)
            rw [placesTo_full hb (by omega)]
            exact (ih p').2 ⟨s, hsi, hp'⟩
          · rw [if_neg hsi] at hm
            exact .inl (by simpa using hm))
    rw [placesOf_mem, usI]
    constructor
    · rintro ⟨q, rfl, hq⟩
      obtain ⟨s, hs, hm⟩ := (key q).1 hq
      refine ⟨s, hs, ?_⟩
      by_cases hsi : s ≤ i
      · rw [if_pos hsi] at hm
        rw [show i + 1 - s = (i - s) + 1 by omega, csS, show s + (i - s) = i by omega]
        exact placesOf_mem.2 ⟨q, rfl, hm⟩
      · rw [if_neg hsi] at hm
        obtain rfl : s = i + 1 := by omega
        rw [Nat.sub_self, csS, show decide (i + 1 = 0) = false by simp]
        exact placesOf_mem.2 ⟨q, rfl, hm⟩
    · rintro ⟨s, hs, hm⟩
      by_cases hsi : s ≤ i
      · rw [show i + 1 - s = (i - s) + 1 by omega, csS, show s + (i - s) = i by omega] at hm
        obtain ⟨q, rfl, hq⟩ := placesOf_mem.1 hm
        exact ⟨q, rfl, (key q).2 ⟨s, hs, by rw [if_pos hsi]; exact hq⟩⟩
      · obtain rfl : s = i + 1 := by omega
        rw [Nat.sub_self, csS, show decide (i + 1 = 0) = false by simp] at hm
        obtain ⟨q, rfl, hq⟩ := placesOf_mem.1 hm
        exact ⟨q, rfl, (key q).2 ⟨i + 1, hs, by rw [if_neg (by omega)]; exact hq⟩⟩

theorem doneL_uni {ps : List Int} {J : Nat → Prop} {P : Nat → List Int} (h : ∀ p, p ∈ ps ↔ ∃ j, J j ∧ p ∈ P j) : doneL is ps = true ↔ ∃ j, J j ∧ doneL is (P j) = true := by
  unfold doneL
  rw [List.any_eq_true]
  constructor
  · rintro ⟨p, hp, hd⟩
    obtain ⟨j, h1, h2⟩ := (h p).1 hp
    exact ⟨j, h1, List.any_eq_true.2 ⟨p, h2, hd⟩⟩
  · rintro ⟨j, h1, h2⟩
    obtain ⟨p, hp, hd⟩ := List.any_eq_true.1 h2
    exact ⟨p, (h p).2 ⟨j, h1, hp⟩, hd⟩

theorem csS_nil {s d : Nat} (h : csS is text s d = []) : ∀ e, csS is text s (d + e) = []
  | 0 => h
  | e + 1 => by
    rw [show d + (e + 1) = (d + e) + 1 by omega, csS, csS_nil h e]
    rw [show placesOf (stepS is (text.getD (s + (d + e)) 0) []) = [] from placesOf_rep _, close_nil]

theorem mid_pos : ∀ (f s d : Nat) (out : Int), s + d ≤ text.length → f = text.length - (s + d) + 1 →
    (0 ≤ mid is text f (csS is text s d) (s + d) out ↔ 0 ≤ out ∨ ∃ e, d ≤ e ∧ s + e ≤ text.length ∧ doneL is (csS is text s e) = true)
  | 0, s, d, out, h, hf => by omega
  | f + 1, s, d, out, h, hf => by
    by_cases hc : csS is text s d = []
    · rw [hc, mid_nil]
      constructor
      · exact .inl
      · rintro (h1 | ⟨e, h1, h2, h3⟩)
        · exact h1
        · have := csS_nil hc (e - d)
          rw [show d + (e - d) = e by omega] at this
          rw [this] at h3
          simp [doneL] at h3
    · by_cases hi : s + d = text.length
      · rw [mid_end hc hi]
        cases hd : doneL is (csS is text s d)
        · simp only [Bool.false_eq_true, if_false]
          constructor
          · exact .inl
          · rintro (h1 | ⟨e, h1, h2, h3⟩)
            · exact h1
            · obtain rfl : e = d := by omega
              rw [hd] at h3; cases h3
        · simp only [if_true]
          exact ⟨fun _ => .inr ⟨d, Nat.le_refl _, h, hd⟩, fun _ => by omega⟩
      · rw [mid_go hc hi]
        have ih := mid_pos f s (d + 1) (if doneL is (csS is text s d) then ((s + d : Nat) : Int) else out) (by omega) (by omega)
        rw [csS, show s + (d + 1) = s + d + 1 by omega] at ih
        rw [ih]
        cases hd : doneL is (csS is text s d)
        · simp only [Bool.false_eq_true, if_false]
          constructor
          · rintro (h1 | ⟨e, h1, h2, h3⟩)
            · exact .inl h1
            · exact .inr ⟨e, by omega, h2, h3⟩
          · rintro (h1 | ⟨e, h1, h2, h3⟩)
            · exact .inl h1
            · refine .inr ⟨e, ?_, h2, h3⟩
              by_cases he : e = d
              · subst he; rw [hd] at h3; cases h3
              · omega
        · simp only [if_true]
          exact ⟨fun _ => .inr ⟨d, Nat.le_refl _, by omega, hd⟩, fun _ => .inl (by omega)⟩

theorem runV_pos {s : Nat} (hs : s ≤ text.length) : 0 ≤ runV is text s ↔ ∃ e, s + e ≤ text.length ∧ doneL is (csS is text s e) = true := by
  have := mid_pos (is := is) (text := text) (text.length - s + 1) s 0 (-1) hs rfl
  simp only [csS, Nat.add_zero] at this
  unfold runV
  rw [this]
  constructor
  · rintro (h | ⟨e, _, h2, h3⟩)
    · omega
    · exact ⟨e, h2, h3⟩
  · rintro ⟨e, h2, h3⟩; exact .inr ⟨e, Nat.zero_le _, h2, h3⟩

/-- From some place one comes to the end of the program. -/
def hasV (is : List In) (text : List Int) : Bool := (List.range (text.length + 1)).any (fun s => decide (0 ≤ runV is text s))
def lineHas (is : List In) (text : List Int) : Bool := decide (progFault is = 0) && decide (text.length ≤ 400) && hasV is text
theorem hasV_of {s : Nat} (hs : s ≤ text.length) (h : 0 ≤ runV is text s) : hasV is text = true := List.any_eq_true.2 ⟨s, List.mem_range.2 (by omega), by simpa using h⟩
theorem hasV_not (h : ∀ s, s ≤ text.length → runV is text s < 0) : hasV is text = false := by
  cases e : hasV is text
  · rfl
  · obtain ⟨s, hs, h1⟩ := List.any_eq_true.1 e
    have h2 := h s (by have := List.mem_range.1 hs; omega)
    simp at h1
    omega
/-- The program's answer at a place. -/
theorem usI_done (hin : Inside is) (h1 : 1 ≤ is.length) (h80 : is.length ≤ 80) (i : Nat) : doneL is (placesTo (usI is text i) is.length) = true ↔ ∃ s, s ≤ i ∧ doneL is (csS is text s (i - s)) = true := by
  obtain ⟨hl, hb, _⟩ := usI_len (text := text) hin h1 h80 i
  rw [placesTo_full hb (by omega)]
  exact doneL_uni (J := fun s => s ≤ i) (P := fun s => csS is text s (i - s)) (usI_mem hin h1 h80 i)
theorem usI_yes (hin : Inside is) (h1 : 1 ≤ is.length) (h80 : is.length ≤ 80) {i : Nat} (hi : i ≤ text.length) (h : doneL is (placesTo (usI is text i) is.length) = true) : hasV is text = true := by
  obtain ⟨s, hs, hd⟩ := (usI_done hin h1 h80 i).1 h
  exact hasV_of (s := s) (by omega) ((runV_pos (by omega)).2 ⟨i - s, by omega, hd⟩)
theorem usI_no (hin : Inside is) (h1 : 1 ≤ is.length) (h80 : is.length ≤ 80) (h : ∀ i, i ≤ text.length → doneL is (placesTo (usI is text i) is.length) = false) : hasV is text = false := by
  refine hasV_not (fun s hs => ?_)
  by_cases hc : runV is text s < 0
  · exact hc
  · obtain ⟨e, h2, h3⟩ := (runV_pos (is := is) hs).1 (by omega)
    have h4 := (usI_done hin h1 h80 (s + e)).2 ⟨s, by omega, by rw [show s + e - s = e by omega]; exact h3⟩
    rw [h (s + e) h2] at h4
    cases h4
end
end Go.Proofs.Ytocophekfbhfbaa

namespace Go.Proofs.Ytocophekfbhfbaa
open Go.RowKit
set_option linter.unusedVariables false
set_option linter.unusedSimpArgs false

/-- How many are less than x, and not more than x. -/
def ltN (hs : List Int) (x : Int) : Nat := (hs.filter (fun h => decide (h < x))).length
def leN (hs : List Int) (x : Int) : Nat := (hs.filter (fun h => decide (h ≤ x))).length
/-- In a rising list: one more where x itself is there. -/
theorem leN_of {x : Int} : ∀ {hs : List Int}, hs.Pairwise (· < ·) → leN hs x = ltN hs x + (if x ∈ hs then 1 else 0)
  | [], _ => by simp [leN, ltN]
  | h :: hs, hp => by
    rw [List.pairwise_cons] at hp
    have ih := leN_of (x := x) hp.2
    unfold leN ltN at ih ⊢
    by_cases h1 : h < x
    · have h2 : h ≤ x := by omega
      have h3 : x ≠ h := by omega
      simp only [List.filter_cons, h1, h2, decide_true, if_true, List.length_cons, List.mem_cons, h3, false_or]
      omega
    · by_cases h4 : h = x
      · subst h4
        have h5 : h ∉ hs := fun hm => by have := hp.1 h hm; omega
        simp only [h5, if_false] at ih
        simp only [List.filter_cons, h1, Int.le_refl, decide_true, decide_false, if_true, List.length_cons, List.mem_cons, true_or, Bool.false_eq_true, if_false]
        omega
      · have h2 : ¬ h ≤ x := by omega
        have h3 : x ≠ h := fun e => h4 e.symm
        simp only [List.filter_cons, h1, h2, decide_false, Bool.false_eq_true, if_false, List.mem_cons, h3, false_or]
        exact ih
/-- The place that is told: of the specification. -/
def fndAt (hs : List Int) (from_ count : Int) (back : Bool) : Int :=
  if back then (((ltN hs from_ : Int) - count).tmod hs.length + hs.length).tmod hs.length else ((leN hs from_ : Int) + count - 1).tmod hs.length
end Go.Proofs.Ytocophekfbhfbaa

namespace Go.Proofs.Ytocophekfbhfbaa
open Go.RowKit
set_option linter.unusedVariables false
set_option linter.unusedSimpArgs false

theorem ltN_snoc {hs : List Int} {k : Nat} {h F : Int} (e : hs[k]? = some h) : ltN (hs.take (k + 1)) F = ltN (hs.take k) F + (if h < F then 1 else 0) := by
  unfold ltN
  rw [List.take_add_one, e]
  by_cases h1 : h < F <;> simp [List.filter_append, List.filter_cons, h1]
theorem leN_snoc {hs : List Int} {k : Nat} {h F : Int} (e : hs[k]? = some h) : leN (hs.take (k + 1)) F = leN (hs.take k) F + (if h ≤ F then 1 else 0) := by
  unfold leN
  rw [List.take_add_one, e]
  by_cases h1 : h ≤ F <;> simp [List.filter_append, List.filter_cons, h1]
theorem ltN_le (hs : List Int) (F : Int) : ltN hs F ≤ hs.length := List.length_filter_le _ _
theorem leN_le (hs : List Int) (F : Int) : leN hs F ≤ hs.length := List.length_filter_le _ _

/-- the numbers of those of the first k lines that have the pattern -/
def hitsN (is : List In) (xs : List Int) : Nat → List Int
  | 0 => []
  | k + 1 => hitsN is xs k ++ (if hasV is (cutOf xs ((lns xs).getD k (0, 0))) then [(k : Int)] else [])
def hits (is : List In) (xs : List Int) : List Int := hitsN is xs (lns xs).length
theorem hitsN_lt {is : List In} {xs : List Int} : ∀ (k : Nat), ∀ h ∈ hitsN is xs k, 0 ≤ h ∧ h < (k : Int)
  | 0, h, hm => by simp [hitsN] at hm
  | k + 1, h, hm => by
    rw [hitsN, List.mem_append] at hm
    rcases hm with hm | hm
    · have := hitsN_lt k h hm; omega
    · split at hm
      · simp at hm; omega
      · simp at hm
theorem hitsN_pw {is : List In} {xs : List Int} : ∀ (k : Nat), (hitsN is xs k).Pairwise (· < ·)
  | 0 => by simp [hitsN]
  | k + 1 => by
    rw [hitsN, List.pairwise_append]
    refine ⟨hitsN_pw k, by split <;> simp, fun a ha b hb => ?_⟩
    have h1 := hitsN_lt k a ha
    split at hb
    · simp at hb; omega
    · simp at hb
theorem hitsN_len {is : List In} {xs : List Int} : ∀ (k : Nat), (hitsN is xs k).length ≤ k
  | 0 => by simp [hitsN]
  | k + 1 => by
    have := hitsN_len (is := is) (xs := xs) k
    rw [hitsN, List.length_append]
    split <;> simp <;> omega

/-- what is told, and which line is found -/
def fdC (is : List In) (xs : List Int) (F N : Int) : Int :=
  if progFault is ≠ 0 then progFault is else if 400 < xs.length then 2 else if F < -1 ∨ ((lns xs).length : Int) < F ∨ N < 1 ∨ 999 < N then 3 else if hits is xs = [] then 4 else 0
def fdV (is : List In) (xs : List Int) (F N : Int) (B : Bool) : Int := if fdC is xs F N = 0 then (hits is xs).getD (fndAt (hits is xs) F N B).toNat 0 else 0

/-- remainders, as the program takes them -/
theorem tm_wrap {x n : Int} (h1 : 1 ≤ n) (h2 : n ≤ 1000000) : IntKind.i64.wrap (Int.tmod x n) = Int.tmod x n := by
  have h3 := Int.tmod_lt_of_pos x (show 0 < n by omega)
  have h4 : -n < Int.tmod x n := by
    have := Int.tmod_lt_of_pos (-x) (show 0 < n by omega)
    rw [Int.neg_tmod] at this
    omega
  rw [IntKind.wrap_i64] <;> omega
theorem tm_bd {x n : Int} (h1 : 1 ≤ n) : -n < Int.tmod x n ∧ Int.tmod x n < n := by
  have h3 := Int.tmod_lt_of_pos x (show 0 < n by omega)
  have := Int.tmod_lt_of_pos (-x) (show 0 < n by omega)
  rw [Int.neg_tmod] at this
  omega
theorem tm_pos {x n : Int} (h0 : 0 ≤ x) (h1 : 1 ≤ n) : 0 ≤ Int.tmod x n ∧ Int.tmod x n < n := ⟨Int.tmod_nonneg n h0, Int.tmod_lt_of_pos x (by omega)⟩

theorem isNaN1_any (x : Int) (w : World) : Calls Try.prog 217 #[.int .i64 x] w fun e w' => e = .returned (.bool false) ∧ w' = w := by
  go_enter Try.func217, Try.ntmps217
  go_wp2
  go_ret
  exact ⟨by simp, rfl⟩
theorem isNaN2_any (x : Int) (w : World) : Calls Try.prog 233 #[.int .i64 x] w fun e w' => e = .returned (.bool false) ∧ w' = w := by
  go_enter Try.func233, Try.ntmps233
  go_wp2
  go_ret
  exact ⟨by simp, rfl⟩
theorem less_any (x y : Int) (w : World) : Calls Try.prog 232 #[.int .i64 x, .int .i64 y] w fun e w' => e = .returned (.bool (decide (x < y))) ∧ w' = w := by
  go_enter Try.func232, Try.ntmps232
  go_wp2_with fail
  refine Calls.mono (isNaN1_any x _) ?_
  rintro e w1 ⟨rfl, rfl⟩
  go_wp2
  go_ret
  exact ⟨rfl, rfl⟩

theorem srt_at {hs : List Int} (hp : hs.Pairwise (· < ·)) : ∀ a b, a ≤ b → b < hs.length → hs.getD a 0 ≤ hs.getD b 0 := by
  have h := Lib.sorted_at hs hs.length (Nat.le_refl _) (by rw [List.take_length]; exact hp.imp (fun h => by omega))
  exact h
theorem srt_end {hs : List Int} {F : Int} (hp : hs.Pairwise (· < ·)) {i : Nat} (hi : i ≤ hs.length) (h1 : ∀ t, t < i → hs.getD t 0 < F) (h2 : ∀ t, i ≤ t → t < hs.length → F ≤ hs.getD t 0) :
    ltN hs F = i ∧ decide (F ∈ hs) = decide (i < hs.length ∧ hs.getD i 0 = F) := by
  obtain ⟨e1, e2⟩ := Lib.search_end hs hs.length i F (Nat.le_refl _) hi h1 h2 (srt_at hp)
  rw [List.take_length] at e1 e2
  refine ⟨?_, ?_⟩
  · rw [← e1, List.countP_eq_length_filter]; rfl
  · rw [← e2]; simp

set_option maxRecDepth 100000 in
set_option maxHeartbeats 4000000 in
theorem search_any (a : Option Addr) (n ca : Nat) (hs : List Int) (F : Int) (w : World) (ha : Rd .i64 w a n hs) (hn : n ≤ 1000000) (hp : hs.Pairwise (· < ·)) :
    Calls Try.prog 203 #[.slice a n ca, .int .i64 F] w fun e w' => e = .returned (.tuple #[.int .i64 (ltN hs F : Nat), .bool (decide (F ∈ hs))]) ∧ w' = w := by
  have hlen := ha.1
  have S := hid (srt_at hp)
  have E0 := hid (fun i (hi : i ≤ hs.length) => srt_end (F := F) hp hi)
  have RA := hid (fun j (hj : j < n) => ha.at hj)
  rw [hlen] at S E0
  clear ha hp
  go_enter Try.func203, Try.ntmps203
  go_wp2
  go_loopg [7, 8] n (fun g s7 s8 wr => ∃ lo hi : Nat, s7 = .int .i64 lo ∧ s8 = .int .i64 hi ∧ lo ≤ hi ∧ hi ≤ n ∧ hi - lo ≤ g ∧ wr = w ∧ (∀ t, t < lo → hs.getD t 0 < F) ∧ (∀ t, hi ≤ t → t < n → F ≤ hs.getD t 0))
  case atStart => exact ⟨0, n, rfl, rfl, Nat.zero_le _, Nat.le_refl _, by omega, rfl, fun t ht => absurd ht (Nat.not_lt_zero _), fun t h1 h2 => by omega⟩
  case round =>
    obtain ⟨lo, hi, rfl, rfl, hlh, hin, hg, rfl, h1, h2⟩ := hrel
    have I := hid (And.intro h1 h2)
    clear h1 h2
    by_cases hlt : lo < hi
    · obtain ⟨B, o, rfl, hc⟩ := RA.out ((lo + hi) / 2) (by omega)
      have cm := hc ((lo + hi) / 2) (by omega)
      clear hc RA
      obtain ⟨y, hy⟩ : ∃ y, hs.getD ((lo + hi) / 2) 0 = y := ⟨_, rfl⟩
      rw [hy] at cm
      have Y := hid hy
      clear hy
      by_cases hyx : y < F
      · go_wp2_with fail
        refine Calls.mono (less_any _ _ _) ?_
        rintro e w1 ⟨rfl, rfl⟩
        go_wp2
        go_roundg (hi - ((lo + hi) / 2 + 1))
        case measure => omega
        case rel =>
          refine ⟨(lo + hi) / 2 + 1, hi, by rw [show ((lo : Int) + (hi : Int)) / 2 + 1 = (((lo + hi) / 2 + 1 : Nat) : Int) by omega], rfl, by omega, hin, Nat.le_refl _, rfl, fun t ht => ?_, I.out.2⟩
          have := S.out t ((lo + hi) / 2) (by omega) (by omega)
          rw [Y.out] at this
          omega
      · go_wp2_with fail
        refine Calls.mono (less_any _ _ _) ?_
        rintro e w1 ⟨rfl, rfl⟩
        go_wp2
        go_roundg ((lo + hi) / 2 - lo)
        case measure => omega
        case rel =>
          refine ⟨lo, (lo + hi) / 2, rfl, by rw [show ((lo : Int) + (hi : Int)) / 2 = (((lo + hi) / 2 : Nat) : Int) by omega], by omega, by omega, Nat.le_refl _, rfl, I.out.1, fun t ht htn => ?_⟩
          have := S.out ((lo + hi) / 2) t ht htn
          rw [Y.out] at this
          omega
    · have : hi = lo := by omega
      subst this
      obtain ⟨e1, e2⟩ := E0.out hi hin I.out.1 I.out.2
      have E := hid (And.intro e1 e2)
      clear e1 e2
      by_cases hn2 : hi < n
      · obtain ⟨B, o, rfl, hc⟩ := RA.out hi hn2
        have cl := hc hi hn2
        clear hc RA
        obtain ⟨y, hy⟩ : ∃ y, hs.getD hi 0 = y := ⟨_, rfl⟩
        rw [hy] at cl
        have Y := hid hy
        clear hy
        by_cases hyx : y = F
        · go_wp2
          go_ret2
          refine ⟨?_, rfl⟩
          rw [E.out.1, E.out.2, Y.out, decide_eq_true (show hi < n ∧ y = F from ⟨hn2, hyx⟩)]
          first | rfl | simp [*]
        · go_wp2_with fail
          refine Calls.mono (isNaN2_any _ _) ?_
          rintro e w1 ⟨rfl, rfl⟩
          go_wp2
          go_ret2
          refine ⟨?_, rfl⟩
          rw [E.out.1, E.out.2, Y.out, decide_eq_false (show ¬ (hi < n ∧ y = F) from fun h => hyx h.2)]
          first | rfl | simp [*]
      · go_wp2
        go_ret2
        refine ⟨?_, rfl⟩
        rw [E.out.1, E.out.2, decide_eq_false (show ¬ (hi < n ∧ hs.getD hi 0 = F) from fun h => hn2 h.1)]
        first | rfl | simp [*]
end Go.Proofs.Ytocophekfbhfbaa

namespace Go.Proofs.Ytocophekfbhfbaa
open Go.RowKit
set_option linter.unusedVariables false
set_option linter.unusedSimpArgs false

theorem tm_again {x n : Int} (h0 : 0 ≤ x) (h1 : 1 ≤ n) : Int.tmod (Int.tmod x n + n) n = Int.tmod x n := by
  have h2 := tm_pos h0 h1
  rw [Int.tmod_eq_emod_of_nonneg (by omega), Int.add_emod_right, ← Int.tmod_eq_emod_of_nonneg h2.1, Int.tmod_eq_emod_of_nonneg h2.1, Int.emod_eq_of_lt h2.1 h2.2]

set_option maxHeartbeats 3200000 in
theorem hitFrom_any (a : Option Addr) (n ca : Nat) (hs : List Int) (F N : Int) (B : Bool) (w : World) (ha : Rd .i64 w a n hs) (hn1 : 1 ≤ n) (hn : n ≤ 1000000) (hp : hs.Pairwise (· < ·)) (hN : 1 ≤ N) (hN2 : N ≤ 999) :
    Calls Try.prog 139 #[.slice a n ca, .int .i64 F, .int .i64 N, .bool B] w fun e w' => e = .returned (.int .i64 (hs.getD (fndAt hs F N B).toNat 0)) ∧ w' = w := by
  have hlen := ha.1
  have SA := fun w' h => search_any a n ca hs F w' h hn hp
  have hle := leN_of (x := F) hp
  have hlt := ltN_le hs F
  rw [hlen] at hlt
  have hni : (1 : Int) ≤ (n : Int) := by omega
  have hnz : ((n : Int) == 0) = false := by simp; omega
  unfold fndAt
  rw [hlen]
  generalize ltN hs F = lt at *
  generalize leN hs F = le at *
  obtain ⟨Bk, o, rfl, hc⟩ := ha.at (show 0 < n by omega)
  cases B
  case true =>
    have hb1 := tm_bd (x := (lt : Int) - N) hni
    obtain ⟨y, hy⟩ : ∃ y, Int.tmod ((lt : Int) - N) (n : Int) = y := ⟨_, rfl⟩
    rw [hy] at hb1
    obtain ⟨hb1, hb2⟩ := hb1
    have hb3 := tm_pos (x := y + (n : Int)) (by omega) hni
    obtain ⟨k, hk⟩ : ∃ k : Nat, Int.tmod (y + (n : Int)) (n : Int) = (k : Int) := ⟨(Int.tmod (y + (n : Int)) (n : Int)).toNat, by omega⟩
    rw [hk] at hb3
    have hkn : k < n := by omega
    have hki : (k : Int) < (n : Int) := by omega
    have hk2 : (y + (n : Int)) % (n : Int) = (k : Int) := by rw [← Int.tmod_eq_emod_of_nonneg (by omega)]; exact hk
    have hk3 : y % (n : Int) = (k : Int) := by rw [← hk2, Int.add_emod_right]
    clear hb3
    have cm := hc k hkn
    have hA : (if (true : Bool) = true then (((lt : Int) - N).tmod (n : Int) + (n : Int)).tmod (n : Int) else ((le : Int) + N - 1).tmod (n : Int)) = (k : Int) := by rw [if_pos rfl, hy, hk]
    rw [hA, Int.toNat_natCast]
    generalize hs.getD k 0 = V at *
    generalize (decide (F ∈ hs)) = q at *
    clear hA
    have HSA : Hid _ := SA
    have HA := hid ha
    clear SA ha hp hc hle
    go_enter Try.func139, Try.ntmps139
    go_wp2_with fail
    refine Calls.mono (HSA.out _ HA.out) ?_
    rintro e w1 ⟨rfl, rfl⟩
    go_wp2
    go_ret
    exact ⟨rfl, rfl⟩
  case false =>
    by_cases hm : F ∈ hs
    · skip
      have hb1 := tm_bd (x := (lt : Int) + N) hni
      obtain ⟨y, hy⟩ : ∃ y, Int.tmod ((lt : Int) + N) (n : Int) = y := ⟨_, rfl⟩
      have hy2 : ((lt : Int) + N) % (n : Int) = y := by rw [← Int.tmod_eq_emod_of_nonneg (by omega)]; exact hy
      rw [hy] at hb1
      obtain ⟨hb1, hb2⟩ := hb1
      have hb3 := tm_pos (x := y + (n : Int)) (by omega) hni
      obtain ⟨k, hk⟩ : ∃ k : Nat, Int.tmod (y + (n : Int)) (n : Int) = (k : Int) := ⟨(Int.tmod (y + (n : Int)) (n : Int)).toNat, by omega⟩
      rw [hk] at hb3
      have hkn : k < n := by omega
      have hki : (k : Int) < (n : Int) := by omega
      have hk2 : (y + (n : Int)) % (n : Int) = (k : Int) := by rw [← Int.tmod_eq_emod_of_nonneg (by omega)]; exact hk
      have hk3 : y % (n : Int) = (k : Int) := by rw [← hk2, Int.add_emod_right]
      clear hb3
      have cm := hc k hkn
      rw [if_pos hm] at hle
      have hA : (if (false : Bool) = true then (((lt : Int) - N).tmod (n : Int) + (n : Int)).tmod (n : Int) else ((le : Int) + N - 1).tmod (n : Int)) = (k : Int) := by
        rw [if_neg (by decide), ← hk, ← hy, tm_again (by omega) hni]
        congr 1
        omega
      rw [hA, Int.toNat_natCast]
      rw [decide_eq_true hm] at SA
      generalize hs.getD k 0 = V at *
      clear hA hm
      have HSA : Hid _ := SA
      have HA := hid ha
      clear SA ha hp hc hle
      go_enter Try.func139, Try.ntmps139
      go_wp2_with fail
      refine Calls.mono (HSA.out _ HA.out) ?_
      rintro e w1 ⟨rfl, rfl⟩
      go_wp2
      go_ret
      exact ⟨rfl, rfl⟩
    · skip
      have hb1 := tm_bd (x := (lt : Int) + (N - 1)) hni
      obtain ⟨y, hy⟩ : ∃ y, Int.tmod ((lt : Int) + (N - 1)) (n : Int) = y := ⟨_, rfl⟩
      have hy2 : ((lt : Int) + (N - 1)) % (n : Int) = y := by rw [← Int.tmod_eq_emod_of_nonneg (by omega)]; exact hy
      rw [hy] at hb1
      obtain ⟨hb1, hb2⟩ := hb1
      have hb3 := tm_pos (x := y + (n : Int)) (by omega) hni
      obtain ⟨k, hk⟩ : ∃ k : Nat, Int.tmod (y + (n : Int)) (n : Int) = (k : Int) := ⟨(Int.tmod (y + (n : Int)) (n : Int)).toNat, by omega⟩
      rw [hk] at hb3
      have hkn : k < n := by omega
      have hki : (k : Int) < (n : Int) := by omega
      have hk2 : (y + (n : Int)) % (n : Int) = (k : Int) := by rw [← Int.tmod_eq_emod_of_nonneg (by omega)]; exact hk
      have hk3 : y % (n : Int) = (k : Int) := by rw [← hk2, Int.add_emod_right]
      clear hb3
      have cm := hc k hkn
      rw [if_neg hm] at hle
      have hA : (if (false : Bool) = true then (((lt : Int) - N).tmod (n : Int) + (n : Int)).tmod (n : Int) else ((le : Int) + N - 1).tmod (n : Int)) = (k : Int) := by
        rw [if_neg (by decide), ← hk, ← hy, tm_again (by omega) hni]
        congr 1
        omega
      rw [hA, Int.toNat_natCast]
      rw [decide_eq_false hm] at SA
      generalize hs.getD k 0 = V at *
      clear hA hm
      have HSA : Hid _ := SA
      have HA := hid ha
      clear SA ha hp hc hle
      go_enter Try.func139, Try.ntmps139
      go_wp2_with fail
      refine Calls.mono (HSA.out _ HA.out) ?_
      rintro e w1 ⟨rfl, rfl⟩
      go_wp2
      go_ret
      exact ⟨rfl, rfl⟩

set_option maxHeartbeats 3200000 in
theorem l9Find_any (a : Option Addr) (n ca : Nat) (hs : List Int) (F N : Int) (B : Bool) (w : World) (ha : Rd .i64 w a n hs) (hn : n ≤ 1000000) (hN : 1 ≤ N) (hN2 : N ≤ 999) :
    Calls Try.prog 142 #[.slice a n ca, .int .i64 F, .int .i64 N, .bool B] w fun e w' => e = .returned (.int .i64 (if hs = [] then -1 else hs.getD (fndAt hs F N B).toNat 0)) ∧ w' = w := by
  have hlen := ha.1
  by_cases hn0 : n = 0
  · subst hn0
    have he : hs = [] := List.length_eq_zero_iff.1 hlen
    rw [if_pos he]
    clear he ha hlen
    go_enter Try.func142, Try.ntmps142
    go_wp2
    go_ret
    exact ⟨rfl, rfl⟩
  rw [if_neg (by intro h; subst h; simp at hlen; omega)]
  have hlt := ltN_le hs F
  have hle := leN_le hs F
  rw [hlen] at hlt hle
  have hni : (1 : Int) ≤ (n : Int) := by omega
  have hnz : ((n : Int) == 0) = false := by simp; omega
  have hnz2 : ¬ (n : Int) = 0 := by omega
  obtain ⟨Bk, o, rfl, hc⟩ := ha.at (show 0 < n by omega)
  have HC := hid hc
  clear hc ha
  obtain ⟨R, hR⟩ : ∃ R, R = hs.getD (fndAt hs F N B).toNat 0 := ⟨_, rfl⟩
  rw [← hR]
  have HR := hid hR
  clear hR
  go_enter Try.func142, Try.ntmps142
  go_wp2
  go_loopw [10, 11, 12] (fun s10 s11 s12 wr => ∃ k : Nat, k ≤ n ∧ s10 = .int .i64 (ltN (hs.take k) F : Nat) ∧ s11 = .int .i64 (leN (hs.take k) F : Nat) ∧ s12 = .int .i64 k ∧ wr = w) (fun _ _ i _ => n - (intOf i).toNat)
  case atStart => exact ⟨0, Nat.zero_le _, rfl, rfl, rfl, rfl⟩
  case round =>
    obtain ⟨k, hk, rfl, rfl, rfl, rfl⟩ := hrel
    by_cases hlk : k < n
    · have hli : (k : Int) < (n : Int) := by omega
      have hck := HC.out k hlk
      have hs1 : hs[k]? = some (hs.getD k 0) := by rw [List.getD_eq_getElem?_getD, List.getElem?_eq_getElem (by omega)]; rfl
      have e1 := ltN_snoc (F := F) hs1
      have e2 := leN_snoc (F := F) hs1
      have b1 := ltN_le (hs.take k) F
      have b2 := leN_le (hs.take k) F
      rw [List.length_take] at b1 b2
      have b3 : ltN (hs.take k) F ≤ 1000000 := by omega
      have b4 : leN (hs.take k) F ≤ 1000000 := by omega
      generalize hs.getD k 0 = y at *
      have HE := hid (And.intro e1 e2)
      clear e1 e2 b1 b2 hs1 hlt hle
      generalize ltN (hs.take k) F = p at *
      generalize leN (hs.take k) F = q at *
      by_cases h1 : y < F
      · have h2 : y ≤ F := by omega
        go_wp2
        go_roundw
        case rel => exact ⟨k + 1, by omega, by rw [HE.out.1, if_pos h1]; go_num, by rw [HE.out.2, if_pos h2]; go_num, by go_num, by trivial⟩
        case measure => simp [intOf]; omega
      · by_cases h2 : y ≤ F
        · go_wp2
          go_roundw
          case rel => exact ⟨k + 1, by omega, by rw [HE.out.1, if_neg h1]; rfl, by rw [HE.out.2, if_pos h2]; go_num, by go_num, by trivial⟩
          case measure => simp [intOf]; omega
        · go_wp2
          go_roundw
          case rel => exact ⟨k + 1, by omega, by rw [HE.out.1, if_neg h1]; rfl, by rw [HE.out.2, if_neg h2]; rfl, by go_num, by trivial⟩
          case measure => simp [intOf]; omega
    · have hkn0 : n = k := by omega
      subst hkn0
      have hli : ¬ (n : Int) < (n : Int) := by omega
      rw [List.take_of_length_le (by omega)]
      have hR := HR.out
      unfold fndAt at hR
      rw [hlen] at hR
      clear HR
      generalize ltN hs F = lt at *
      generalize leN hs F = le at *
      have hc := HC.out
      cases B
      case true =>
        have hb1 := tm_bd (x := (lt : Int) - N) hni
        obtain ⟨y, hy⟩ : ∃ y, Int.tmod ((lt : Int) - N) (n : Int) = y := ⟨_, rfl⟩
        rw [hy] at hb1
        obtain ⟨hb1, hb2⟩ := hb1
        have hb3 := tm_pos (x := y + (n : Int)) (by omega) hni
        obtain ⟨k, hk⟩ : ∃ k : Nat, Int.tmod (y + (n : Int)) (n : Int) = (k : Int) := ⟨(Int.tmod (y + (n : Int)) (n : Int)).toNat, by omega⟩
        rw [hk] at hb3
        have hkn : k < n := by omega
        have hki : (k : Int) < (n : Int) := by omega
        have hk2 : (y + (n : Int)) % (n : Int) = (k : Int) := by rw [← Int.tmod_eq_emod_of_nonneg (by omega)]; exact hk
        have hk3 : y % (n : Int) = (k : Int) := by rw [← hk2, Int.add_emod_right]
        clear hb3
        have cm := hc k hkn
        have hA : (if (true : Bool) = true then (((lt : Int) - N).tmod (n : Int) + (n : Int)).tmod (n : Int) else ((le : Int) + N - 1).tmod (n : Int)) = (k : Int) := by rw [if_pos rfl, hy, hk]
        rw [hA, Int.toNat_natCast] at hR
        generalize hs.getD k 0 = V at *
        subst hR
        clear hA hc HC
        go_wp2
        go_ret
        exact ⟨rfl, rfl⟩
      case false =>
        have hb3 := tm_pos (x := (le : Int) + N - 1) (by omega) hni
        obtain ⟨k, hk⟩ : ∃ k : Nat, Int.tmod ((le : Int) + N - 1) (n : Int) = (k : Int) := ⟨(Int.tmod ((le : Int) + N - 1) (n : Int)).toNat, by omega⟩
        rw [hk] at hb3
        have hkn : k < n := by omega
        have hki : (k : Int) < (n : Int) := by omega
        have hk2 : ((le : Int) + N - 1) % (n : Int) = (k : Int) := by rw [← Int.tmod_eq_emod_of_nonneg (by omega)]; exact hk
        clear hb3
        have cm := hc k hkn
        have hA : (if (false : Bool) = true then (((lt : Int) - N).tmod (n : Int) + (n : Int)).tmod (n : Int) else ((le : Int) + N - 1).tmod (n : Int)) = (k : Int) := by rw [if_neg (by decide), hk]
        rw [hA, Int.toNat_natCast] at hR
        generalize hs.getD k 0 = V at *
        subst hR
        clear hA hc HC
        go_wp2
        go_ret
        exact ⟨rfl, rfl⟩
end Go.Proofs.Ytocophekfbhfbaa

namespace Go.Proofs.Ytocophekfbhfbaa
open Go.RowKit
set_option linter.unusedVariables false
set_option linter.unusedSimpArgs false

theorem bytes_at {xs : List Int} {k : Nat} (h : Bytes xs) (hk : k < xs.length) : 0 ≤ xs.getD k 0 ∧ xs.getD k 0 < 256 := by
  have := h _ (getD_mem' hk)
  omega

theorem own_one (w : World) (c : Int) (e : TypeId) : Own .i64 e (w.alloc (.cells #[.int .i64 c] e)) w.heap.size (.slice (some ⟨w.heap.size, 0, none⟩) 1 1) [c].length [c] :=
  own_lit w #[.int .i64 c] 1 w.heap.size [c] rfl rfl (Nat.le_refl _) (by simp [maxLen])

set_option maxHeartbeats 6400000 in
set_option maxRecDepth 20000 in
theorem l7Run_any (a : Option Addr) (n ca : Nat) (is : List In) (x : Option Addr) (m cx : Nat) (xs : List Int) (at_ : Nat) (hin : Inside is) (hs : inSum is ≤ 1048576) (h1 : 1 ≤ n) (h2 : n ≤ 80) (hm : m ≤ 400) (hat : at_ ≤ m) (hB : Bytes xs) (w : World) (ha : RdR inE 8 w a n is) (hx : Rd .u8 w x m xs) :
    Calls Try.prog 235 #[.slice a n ca, .slice x m cx, .int .i64 (at_ : Int)] w fun r w' => r = .returned (.int .i64 (runV is xs at_)) ∧ Below w.heap.size w w' := by
  obtain ⟨R, hR⟩ : ∃ R, R = runV is xs at_ := ⟨_, rfl⟩
  rw [← hR]
  have HLN : Hid _ := ha.1
  have HLX : Hid _ := hx.1
  have HBY : Hid _ := hB
  have h80 : Hid (is.length ≤ 80) := by have := ha.1; have h : is.length ≤ 80 := by omega
                                        exact h
  have HM0 : Hid (mid is xs (m - at_ + 1) (placesOf (closeS is (decide (at_ = 0)) (decide (at_ = xs.length)) [0])) at_ (-1) = R) := by
    have h : mid is xs (m - at_ + 1) (placesOf (closeS is (decide (at_ = 0)) (decide (at_ = xs.length)) [0])) at_ (-1) = R := by rw [hR]; unfold runV; rw [hx.1]
    exact h
  have hL0 : Hid (∀ p ∈ [(0 : Int)], 0 ≤ p ∧ p < (is.length : Int)) := by
    have h : ∀ p ∈ [(0 : Int)], 0 ≤ p ∧ p < (is.length : Int) := by intro p hp; have := ha.1; simp at hp; omega
    exact h
  have ho0 := own_one w 0 2
  have hb0 : Below w.heap.size w (w.alloc (.cells #[.int .i64 0] 2)) := (Below.refl _ _).alloc (Nat.le_refl _) _
  have HO0 : Hid _ := ho0
  clear hR hB ho0
  go_enter Try.func235, Try.ntmps235
  go_wp2
  go_loopw [7, 8, 9] (fun o v i wr => ∃ (k f : Nat) (L : List Int) (out : Int), i = .int .i64 k ∧ o = .int .i64 out ∧ at_ ≤ k ∧ k ≤ m ∧ Hid (f + k = m) ∧ L.length ≤ 80 ∧ Hid (∀ p ∈ L, 0 ≤ p ∧ p < (is.length : Int)) ∧ Hid (mid is xs (f + 1) (placesOf (closeS is (decide (k = 0)) (decide (k = xs.length)) L)) k out = R) ∧ Own .i64 2 wr w.heap.size v L.length L ∧ Below w.heap.size w wr) (fun _ _ i _ => m + 1 - (intOf i).toNat)
  case atStart => exact ⟨at_, m - at_, [0], -1, rfl, rfl, Nat.le_refl _, hat, (by omega : m - at_ + at_ = m), by simp, hL0, HM0, HO0.out, hb0⟩
  case round =>
    obtain ⟨k, f, L, out, rfl, rfl, hak, hkm, HFK, hLl, hL, HM, ho, hbw⟩ := hrel
    clear HM0 hL0 HO0 hb0
    obtain ⟨va, vc, hv, hrd, hvc, hvm⟩ := ho.rdc
    subst hv
    by_cases hL0 : L = []
    · subst hL0
      have hfin : out = R := by
        have := HM.out
        rw [close_nil, mid_nil] at this
        exact this
      clear HM
      subst hfin
      go_wp2
      go_ret
      exact ⟨rfl, hbw⟩
    have hpos : 0 < L.length := List.length_pos_iff.2 hL0
    have hpos' : (0 : Int) < (L.length : Int) := by omega
    obtain ⟨B, hB⟩ : ∃ B, B = decide (k = 0) := ⟨_, rfl⟩
    obtain ⟨E, hE⟩ : ∃ E, E = decide (k = xs.length) := ⟨_, rfl⟩
    have hB1 : ((k : Int) == 0) = B := by rw [hB, Bool.eq_iff_iff]; simp
    have hB2 : decide ((k : Int) = 0) = B := by rw [hB, decide_eq_decide]; omega
    have hE1 : ((k : Int) == (m : Int)) = E := by rw [hE, Bool.eq_iff_iff]; simp only [beq_iff_eq, decide_eq_true_eq]; have := HLX.out; omega
    have hE2 : decide ((k : Int) = (m : Int)) = E := by rw [hE, decide_eq_decide]; have := HLX.out; omega
    have hCN := close_ne hin h80.out B E hL.out hL0
    have hCM := close_more hin h80.out B E hL.out
    have HC : Hid _ := l7Close_any a n ca is va L.length vc L B E hin h1 h2 (by omega) (fun q hq => by have := hL.out q hq; have := HLN.out; omega) wr (ha.below hbw) hrd
    have hCl := placesOf_len (closeS is B E L)
    have hCl2 : (closeS is B E L).length = is.length := dfsAll_len (goes_of hin B E).2 is.length (Nat.le_refl _) h80.out (List.replicate is.length false) (by simp) L (fun p h => by have := hL.out p h; omega)
    have hM := HM.out
    rw [← hB, ← hE] at hM
    obtain ⟨C, hC⟩ : ∃ C, C = placesOf (closeS is B E L) := ⟨_, rfl⟩
    rw [← hC] at HC hM hCN hCM hCl
    have hCr : ∀ q ∈ C, 0 ≤ q ∧ q < (n : Int) := fun q hq => by have := hCM.2 q hq; have := HLN.out; omega
    have hC80 : C.length ≤ 80 := by have := h80.out; omega
    have HM2 : Hid _ := hM
    have HCN : Hid _ := hCN
    have HCR : Hid _ := hCr
    have HE : Hid _ := hE
    clear hM HM hCN hCM hCr hCl hCl2 hC hB hE hvc hvm
    go_wp2_with fail
    refine Calls.mono HC.out ?_
    rintro r w2 ⟨v2, rfl, ho2, hb2⟩
    obtain ⟨va2, vc2, hv2, hrd2, -, -⟩ := ho2.rdc
    subst hv2
    have hbw2 := hbw.trans (hb2.mono hbw.size)
    have HD : Hid _ := l7Done_any a n ca is va2 C.length vc2 C h2 (by omega) HCR.out w2 (ha.below hbw2) hrd2
    obtain ⟨D, hD⟩ : ∃ D, D = doneL is C := ⟨_, rfl⟩
    rw [← hD] at HD
    have HDD : Hid _ := hD
    clear hD
    go_wp2_with fail
    refine Calls.mono HD.out ?_
    rintro r w3 ⟨rfl, hb3⟩
    have hbw3 := hbw2.trans (hb3.mono hbw2.size)
    have hrd3 := hrd2.below hb3
    have hM := HM2.out
    clear hb2 hb3 HC HD ho2 ho hrd
    cases E
    · have hkn : k ≠ xs.length := by simpa using HE.out.symm
      have hkm' : k < m := by have := HLX.out; omega
      obtain ⟨f', rfl⟩ : ∃ f', f = f' + 1 := ⟨f - 1, by have := HFK.out; omega⟩
      rw [mid_go HCN.out hkn, ← HDD.out] at hM
      obtain ⟨bx, ox, rfl, hcx⟩ := (hx.below hbw3).at hkm'
      have ck := hcx k hkm'
      have hd := bytes_at HBY.out (show k < xs.length by have := HLX.out; omega)
      have HST : Hid _ := fun w' h h' => l7Step_any a n ca is va2 C.length vc2 C (xs.getD k 0) hd.1 hd.2 hin hs h1 h2 (by omega) HCR.out w' h h'
      have hsl := step_lt hin (d := xs.getD k 0) (L := C)
      have hl2 : (stepS is (xs.getD k 0) C).length = is.length := by unfold stepS; rw [stepFold_len]; simp
      have hl3 := placesOf_len (stepS is (xs.getD k 0) C)
      obtain ⟨L2, hL2⟩ : ∃ L2, L2 = placesOf (stepS is (xs.getD k 0) C) := ⟨_, rfl⟩
      rw [← hL2] at HST hM hsl hl3
      generalize xs.getD k 0 = d at ck HST hd
      have hL280 : L2.length ≤ 80 := by have := h80.out; omega
      have HSL : Hid _ := hsl
      have hkk : (k : Int) < (m : Int) := by omega
      have e0 : decide (k + 1 = 0) = false := by simp
      have HM3 : Hid (mid is xs (f' + 1) (placesOf (closeS is (decide (k + 1 = 0)) (decide (k + 1 = xs.length)) L2)) (k + 1) (if D = true then (k : Int) else out) = R) := by rw [e0]; exact hM
      clear hM HM2 hsl hl2 hl3 hL2 hcx HDD HE e0 HCN
      cases D
      · have HM4 : Hid (mid is xs (f' + 1) (placesOf (closeS is (decide (k + 1 = 0)) (decide (k + 1 = xs.length)) L2)) (k + 1) out = R) := HM3
        go_wp2_with fail
        refine (HST.out _ (ha.below hbw3) hrd3).mono ?_
        rintro r w4 ⟨v4, rfl, ho4, hb4⟩
        have HO4 : Hid (Own .i64 2 w4 w.heap.size v4 L2.length L2) := ho4.up hbw3.size
        have hbw4 := hbw3.trans (hb4.mono hbw3.size)
        clear ho4 hb4
        go_wp2
        go_roundw
        case rel => exact ⟨k + 1, f', L2, out, by go_num, rfl, by omega, by omega, (by have := HFK.out; omega : f' + (k + 1) = m), hL280, HSL, HM4, HO4.out, hbw4⟩
        case measure => simp [intOf]; omega
      · have HM4 : Hid (mid is xs (f' + 1) (placesOf (closeS is (decide (k + 1 = 0)) (decide (k + 1 = xs.length)) L2)) (k + 1) (k : Int) = R) := HM3
        go_wp2_with fail
        refine (HST.out _ (ha.below hbw3) hrd3).mono ?_
        rintro r w4 ⟨v4, rfl, ho4, hb4⟩
        have HO4 : Hid (Own .i64 2 w4 w.heap.size v4 L2.length L2) := ho4.up hbw3.size
        have hbw4 := hbw3.trans (hb4.mono hbw3.size)
        clear ho4 hb4
        go_wp2
        go_roundw
        case rel => exact ⟨k + 1, f', L2, (k : Int), by go_num, rfl, by omega, by omega, (by have := HFK.out; omega : f' + (k + 1) = m), hL280, HSL, HM4, HO4.out, hbw4⟩
        case measure => simp [intOf]; omega
    · have hkn : k = xs.length := by simpa using HE.out.symm
      rw [mid_end HCN.out hkn, ← HDD.out] at hM
      clear HM2 HDD HE HCN hkn
      cases D
      · have hfin : out = R := hM
        clear hM
        subst hfin
        go_wp2
        go_ret
        exact ⟨rfl, hbw3⟩
      · have hfin : (k : Int) = R := hM
        have HF : Hid _ := hfin
        clear hM hfin
        go_wp2
        go_ret
        exact ⟨ret_int HF.out, hbw3⟩

end Go.Proofs.Ytocophekfbhfbaa

namespace Go.Proofs.Ytocophekfbhfbaa
open Go.RowKit
set_option linter.unusedVariables false
set_option linter.unusedSimpArgs false

set_option maxHeartbeats 1600000 in
theorem l9Has_any (a : Option Addr) (n ca : Nat) (is : List In) (x : Option Addr) (m cx : Nat) (xs : List Int) (hin : Inside is) (hs : inSum is ≤ 1048576) (h1 : 1 ≤ n) (h2 : n ≤ 80) (hm : m ≤ 400) (hB : Bytes xs) (w : World) (ha : RdR inE 8 w a n is) (hx : Rd .u8 w x m xs) :
    Calls Try.prog 205 #[.slice a n ca, .slice x m cx] w fun r w' => r = .returned (.bool (hasV is xs)) ∧ Below w.heap.size w w' := by
  obtain ⟨R, hR⟩ : ∃ R, R = hasV is xs := ⟨_, rfl⟩
  rw [← hR]
  have hlx := hx.1
  have HRUN := hid (fun at_ hat w' h' k' => l7Run_any a n ca is x m cx xs at_ hin hs h1 h2 hm hat hB w' h' k')
  have HYES : Hid (∀ k, k ≤ m → 0 ≤ runV is xs k → R = true) := hid (fun k hk h => by rw [hR]; exact hasV_of (by omega) h)
  have HNO : Hid ((∀ k, k ≤ m → runV is xs k < 0) → R = false) := hid (fun h => by rw [hR]; exact hasV_not (fun s hs => h s (by omega)))
  clear hR hlx hB
  go_enter Try.func205, Try.ntmps205
  go_wp2
  go_loopw [5] (fun i wr => ∃ k : Nat, k ≤ m + 1 ∧ i = .int .i64 k ∧ Below w.heap.size w wr ∧ Hid (∀ j, j < k → runV is xs j < 0)) (fun i _ => m + 1 - (intOf i).toNat)
  case atStart => exact ⟨0, Nat.zero_le _, rfl, Below.refl _ _, hid (fun j hj => absurd hj (Nat.not_lt_zero _))⟩
  case round =>
    obtain ⟨k, hk, rfl, hbw, HN⟩ := hrel
    by_cases hlt : k ≤ m
    · have hlt' : (k : Int) ≤ (m : Int) := by omega
      have HR1 := hid (fun w' h' k' => HRUN.out k hlt w' h' k')
      obtain ⟨V, hV⟩ : ∃ V, V = runV is xs k := ⟨_, rfl⟩
      rw [← hV] at HR1
      by_cases hv : 0 ≤ V
      · have HT := hid (HYES.out k hlt (by rw [← hV]; exact hv))
        clear hV
        go_wp2_with fail
        refine Calls.mono (HR1.out _ (ha.below hbw) (hx.below hbw)) ?_
        rintro r w2 ⟨rfl, hb2⟩
        have hb := hbw.trans (hb2.mono hbw.size)
        clear hb2
        go_wp2
        go_ret
        exact ⟨ret_bool HT.out.symm, hb⟩
      · have HN2 : Hid (∀ j, j < k + 1 → runV is xs j < 0) := hid (fun j hj => by
          by_cases e : j = k
          · subst e; omega
          · exact HN.out j (by omega))
        clear hV
        go_wp2_with fail
        refine Calls.mono (HR1.out _ (ha.below hbw) (hx.below hbw)) ?_
        rintro r w2 ⟨rfl, hb2⟩
        have hb := hbw.trans (hb2.mono hbw.size)
        clear hb2
        go_wp2
        go_roundw
        case rel => exact ⟨k + 1, by omega, by go_num, hb, HN2⟩
        case measure => simp [intOf]; omega
    · have hlt' : ¬ (k : Int) ≤ (m : Int) := by omega
      have HF := hid (HNO.out (fun j hj => HN.out j (by omega)))
      have HB := hid hbw
      clear hbw
      go_wp2
      go_ret
      exact ⟨ret_bool HF.out.symm, HB.out⟩

end Go.Proofs.Ytocophekfbhfbaa

namespace Go.Proofs.Ytocophekfbhfbaa
open Go.RowKit
set_option linter.unusedVariables false
set_option linter.unusedSimpArgs false

theorem info64f : (Try.prog.info? 2).map (fun i => (i.zero, i.size, i.bytes)) = some (some (.int .i64 0), 1, 8) := by kernel_rfl
theorem rd_one9 (w : World) (K : Int) (t : TypeId) : Rd .i64 (w.alloc (.cells #[.int .i64 K] t)) (some ⟨w.heap.size, 0, none⟩) 1 [K] :=
  ⟨rfl, .inr ⟨_, _, rfl, fun j hj => by obtain rfl : j = 0 := by omega
                                        simp [go_sem]⟩⟩
theorem cutOf_bytes9 {xs : List Int} (h : Bytes xs) (l : L2) : Bytes (cutOf xs l) := fun x hx => h x (List.mem_of_mem_drop (List.mem_of_mem_take hx))

set_option maxRecDepth 10000 in
set_option maxHeartbeats 3200000 in
theorem l9Hits_any (b : Nat) (pa : Option Addr) (pn pc : Nat) (is : List In) (a : Option Addr) (n ca : Nat) (xs : List Int) (w : World) (hp : RdR inE 8 w pa pn is) (hin : Inside is) (hs : inSum is ≤ 1048576) (hp1 : 1 ≤ pn) (hp2 : pn ≤ 80)
    (hc : w.cell? ⟨b, 0, none⟩ = some (.slice a n ca)) (ha : Rd .u8 w a n xs) (hB : Bytes xs) (h1 : n ≤ 400) (hca : n ≤ ca) (hcm : ca ≤ maxLen) :
    Calls Try.prog 143 #[.slice pa pn pc, .pointer (some ⟨b, 0, none⟩)] w fun e w' => ∃ v, e = .returned v ∧ RowI .i64 2 w' w.heap.size w'.heap.size v (hits is xs).length (hits is xs) ∧ Below w.heap.size w w' := by
  obtain ⟨i0, hi, hz0, hz1, hz2⟩ := info_parts info64f
  have hlen := ha.1
  have hll := lns_len xs
  have hbs := World.block_lt_of_cell? _ _ hc
  have HM : Hid _ := hcm
  have HWa : Hid (Rd .u8 w a n xs ∧ w.cell? ⟨b, 0, none⟩ = some (.slice a n ca) ∧ RdR inE 8 w pa pn is) := ⟨ha, hc, hp⟩
  have P := fun w' hc h => l2Lines_any b a n ca xs w' hc h (by omega)
  have HP : Hid _ := P
  have hE : Own .i64 2 (w.alloc (.cells #[] 2)) w.heap.size (.slice (some ⟨w.heap.size, 0, none⟩) 0 0) 0 [] :=
    own_lit (k := .i64) w #[] 0 w.heap.size [] rfl rfl (Nat.le_refl _) (by simp [maxLen])
  clear P hcm hc hp
  have bp : ∀ o, Below w.heap.size w (w.alloc o) := fun o => (Below.refl _ _).alloc (Nat.le_refl _) o
  go_enter Try.func143, Try.ntmps143
  go_wp2_with fail
  refine Calls.mono (HP.out _ (cell_later (bp _) HWa.out.2.1) (ha.below (bp _))) ?_
  rintro e w1 ⟨vl, rfl, hL, hb⟩
  have hE1 : Own .i64 2 w1 w.heap.size (.slice (some ⟨w.heap.size, 0, none⟩) 0 0) 0 [] := hE.below hb
  have hb1 : Below w.heap.size w w1 := (bp _).trans (hb.mono (by simp))
  have hL1 : OwnR lineE 2 192 w1 w.heap.size vl (lns xs).length (lns xs) := hL.1.up (by simp)
  obtain ⟨al, cl, rfl, -⟩ := hL1.rd lineE_len
  clear hL hb hE bp
  go_wp2
  go_loopw [5, 7] (fun v i wr => ∃ k : Nat, k ≤ (lns xs).length ∧ i = .int .i64 k ∧ Own .i64 2 wr w.heap.size v (hitsN is xs k).length (hitsN is xs k) ∧ OwnR lineE 2 192 wr w.heap.size (.slice al (lns xs).length cl) (lns xs).length (lns xs) ∧ Below w.heap.size w wr) (fun _ i _ => (lns xs).length - (intOf i).toNat)
  case atStart => exact ⟨0, Nat.zero_le _, rfl, by simpa [hitsN] using hE1, hL1, hb1⟩
  case round =>
    obtain ⟨k, hk, rfl, hO, hLr, hbr⟩ := hrel
    by_cases hlt : k < (lns xs).length
    · have hlk : (lns xs)[k]? = some (lns xs)[k] := List.getElem?_eq_getElem hlt
      have hgd : (lns xs).getD k (0, 0) = (lns xs)[k] := by rw [List.getD_eq_getElem?_getD, hlk]; rfl
      have hin2 := lns_in xs _ (List.mem_of_getElem? hlk)
      have hst : hitsN is xs (k + 1) = hitsN is xs k ++ (if hasV is (cutOf xs (lns xs)[k]) then [(k : Int)] else []) := by rw [hitsN, hgd]
      obtain ⟨⟨f', z'⟩, hl⟩ : ∃ l, l = (lns xs)[k] := ⟨_, rfl⟩
      rw [← hl] at hlk hin2 hst
      simp only at hin2
      obtain ⟨f, rfl⟩ : ∃ f : Nat, f' = (f : Int) := ⟨f'.toNat, by omega⟩
      obtain ⟨z, rfl⟩ : ∃ z : Nat, z' = (z : Int) := ⟨z'.toNat, by omega⟩
      clear hl hgd
      have hfz : f + z ≤ n := by omega
      have hcut : cutOf xs ((f : Int), (z : Int)) = (xs.drop f).take z := by simp [cutOf]
      obtain ⟨B, o, x, hax, hx, hcx⟩ := (hLr.read lineE_len).at hlt
      rw [hlk] at hx
      obtain rfl := Option.some.inj hx
      subst hax
      have l0 := hcx 0 _ rfl
      have l1 := hcx 1 _ rfl
      simp only [Nat.add_zero] at l0
      clear hcx hx hin2
      have hsz : Bytes ((xs.drop f).take z) := by rw [← hcut]; exact cutOf_bytes9 hB _
      have hlt' : (k : Int) < ((lns xs).length : Int) := by omega
      have QL := fun w' hc h => l2Line_any b a n ca f z xs w' hc h (by omega) hca HM.out hfz
      have HQL : Hid _ := QL
      have QC := fun A CA w' h h2 => l9Has_any pa pn pc is A z CA ((xs.drop f).take z) hin hs hp1 hp2 (by omega) hsz w' h h2
      rw [← hcut] at QC
      have HLR := hid hLr
      have HO := hid hO
      have hkl := hitsN_len (is := is) (xs := xs) k
      clear hLr hO hlk hsz
      have hwB : w.heap.size ≤ wr.heap.size := hbr.size
      generalize hLn : (lns xs).length = L at *
      generalize hHL : (hitsN is xs k).length = HL at *
      by_cases hhit : hasV is (cutOf xs ((f : Int), (z : Int))) = true
      · rw [hhit] at QC
        rw [if_pos hhit] at hst
        have HQC : Hid _ := QC
        have HST := hid hst
        clear QC hst hcut hhit
        go_wp2_with fail
        refine Calls.mono (HQL.out _ (cell_later hbr HWa.out.2.1) (ha.below hbr)) ?_
        rintro e w2 ⟨v2, rfl, r2, hc⟩
        obtain ⟨a2, k2, rfl, -⟩ := r2.shape
        have hO2 := HO.out.below hc
        have hL2 := HLR.out.below hc
        have hb2 := hbr.trans (hc.mono hbr.size)
        replace r2 := r2.read
        clear hc
        go_wp2_with fail
        refine Calls.mono (HQC.out _ _ _ (HWa.out.2.2.below hb2) r2) ?_
        rintro e w3 ⟨rfl, hc⟩
        have hO3 := hO2.below hc
        have hL3 := hL2.below hc
        have hb3 := hb2.trans (hc.mono hb2.size)
        clear hc r2 hO2 hL2 hb2
        have ba : Below w3.heap.size w3 (w3.alloc (.cells #[.int .i64 (k : Int)] 2)) := (Below.refl _ _).alloc (Nat.le_refl _) _
        have hO4 := hO3.below ba
        have hL4 := hL3.below ba
        have hb4 := hb3.trans (ba.mono hb3.size)
        go_wp2_with (at_builtin; refine wpList_append_rd rfl _ _ 60 rfl .i64 w.heap.size 2 i0 8 Try.underlying60 hi hz0 hz1 hz2 _ HL _ rfl hO4 (some ⟨w3.heap.size, 0, none⟩) 1 1 [(k : Int)] rfl (rd_one9 w3 k 2) (by unfold maxLen; omega) (by omega) hb4.size ?_)
        intro v5 w5 hO5 hg5
        have hL5 : OwnR lineE 2 192 w5 w.heap.size (.slice (some ⟨B, o, none⟩) L cl) L (lns xs) := hL4.kept hg5 (rows_apart hL4.2 hO4 (by decide))
        have hb5 := hb4.grown hg5 hb4.size (fun j hj => (hO4.lt j hj).1)
        rw [← HST.out] at hO5
        have hHS : (hitsN is xs (k + 1)).length = HL + 1 := by rw [HST.out, List.length_append, hHL]; rfl
        rw [← hHS] at hO5
        have HL5 := hid hL5
        have HO5 := hid hO5
        clear hO3 hL3 hb3 ba hO4 hL4 hb4 hg5 hL5 hO5 hHS
        go_wp2
        go_roundw
        case rel => exact ⟨k + 1, by omega, by go_num, HO5.out, HL5.out, hb5⟩
        case measure => simp [intOf]; omega
      · have hhf : hasV is (cutOf xs ((f : Int), (z : Int))) = false := by simpa using hhit
        rw [hhf] at QC
        rw [if_neg hhit, List.append_nil] at hst
        have HQC : Hid _ := QC
        have HST := hid hst
        clear QC hst hcut hhit hhf
        go_wp2_with fail
        refine Calls.mono (HQL.out _ (cell_later hbr HWa.out.2.1) (ha.below hbr)) ?_
        rintro e w2 ⟨v2, rfl, r2, hc⟩
        obtain ⟨a2, k2, rfl, -⟩ := r2.shape
        have hO2 := HO.out.below hc
        have hL2 := HLR.out.below hc
        have hb2 := hbr.trans (hc.mono hbr.size)
        replace r2 := r2.read
        clear hc
        go_wp2_with fail
        refine Calls.mono (HQC.out _ _ _ (HWa.out.2.2.below hb2) r2) ?_
        rintro e w3 ⟨rfl, hc⟩
        have hO3 := hO2.below hc
        have hL3 := hL2.below hc
        have hb3 := hb2.trans (hc.mono hb2.size)
        clear hc r2 hO2 hL2 hb2
        rw [← hHL, ← HST.out] at hO3
        have HL5 := hid hL3
        have HO5 := hid hO3
        clear hL3 hO3
        go_wp2
        go_roundw
        case rel => exact ⟨k + 1, by omega, by go_num, HO5.out, HL5.out, hb3⟩
        case measure => simp [intOf]; omega
    · obtain rfl : k = (lns xs).length := by omega
      have hlt' : ¬ ((lns xs).length : Int) < ((lns xs).length : Int) := by omega
      go_wp2
      go_ret
      exact ⟨_, rfl, RowI.of hO, hbr⟩

theorem l2FaultB (b : Nat) (a : Option Addr) (n ca : Nat) (w : World) (hc : w.cell? ⟨b, 0, none⟩ = some (.slice a n ca)) (hn : n ≤ 1073741824) : Calls Try.prog 141 #[.pointer (some ⟨b, 0, none⟩)] w fun e w' => e = .returned (.int .i64 (fFault n)) ∧ Below w.heap.size w w' :=
  (l2Fault_any b a n ca w hc hn).mono (fun e w'' h => ⟨h.1, h.2 ▸ Below.refl _ _⟩)
theorem l1InB (x y z : Int) (q : Bool) (hq : decide (y ≤ x ∧ x ≤ z) = q) (w : World) : Calls Try.prog 77 #[.int .i64 x, .int .i64 y, .int .i64 z] w fun e w' => e = .returned (.bool q) ∧ Below w.heap.size w w' :=
  (l1In_any x y z w).mono (fun e w'' h => ⟨hq ▸ h.1, h.2 ▸ Below.refl _ _⟩)
theorem hits_le (is : List In) (xs : List Int) : (hits is xs).length ≤ (lns xs).length := hitsN_len _

set_option maxRecDepth 10000 in
set_option maxHeartbeats 3200000 in
theorem specFindLine_any (pa : Option Addr) (pn pc : Nat) (is : List In) (a : Option Addr) (n ca : Nat) (xs : List Int) (F N : Int) (B : Bool) (w : World) (hpr : RdR inE 8 w pa pn is) (hs : inSum is ≤ 1048576) (hpn : pn ≤ 1048576)
    (ha : Rd .u8 w a n xs) (hB : Bytes xs) (h1 : n ≤ 1073741824) (hca : n ≤ ca) (hcm : ca ≤ maxLen) :
    Calls Try.prog 59 #[.slice pa pn pc, .agg #[.slice a n ca], .int .i64 F, .int .i64 N, .bool B] w fun e w' => e = .returned (.agg #[.int .i64 (fdC is xs F N), .int .i64 (fdV is xs F N B)]) ∧ Below w.heap.size w w' := by
  have hlen := ha.1
  have PF := fun w' h' => l7Fault_any pa pn pc is w' h' hs hpn
  by_cases hP : progFault is = 0
  case neg =>
    have e1 : fdC is xs F N = progFault is := by unfold fdC; rw [if_pos hP]
    have e2 : fdV is xs F N B = 0 := by unfold fdV; rw [if_neg (by rw [e1]; exact hP)]
    rw [e1, e2]
    generalize progFault is = P at *
    have HPF : Hid _ := PF
    clear PF e1 e2
    go_enter Try.func59, Try.ntmps59
    have hb : Below w.heap.size w w := Below.refl _ _
    go_wp2_with fail
    have bp : ∀ o0 o1, Below w.heap.size w ((w.alloc o0).alloc o1) := fun o0 o1 => ((Below.refl _ _).alloc (Nat.le_refl _) o0).alloc (by simp) o1
    have hbt : ∀ o0 o1, Below w.heap.size w ((w.alloc o0).alloc o1) := fun o0 o1 => hb.trans ((bp o0 o1).mono hb.size)
    refine Calls.mono (HPF.out _ (hpr.below (hbt _ _))) ?_
    rintro e w1 ⟨rfl, hc⟩
    have s1 : w.heap.size + 2 ≤ w1.heap.size := by have := hc.size; simp at this; omega
    have bq : Below w.heap.size w w1 := (bp _ _).trans (hc.mono (bp _ _).size)
    have cf0 : w1.cell? ⟨w.heap.size, 0, none⟩ = some (.slice a n ca) := cell_later hc (by simp [go_sem])
    have zf : w.heap.size < w1.heap.size := by omega
    have cR0 : w1.cell? ⟨w.heap.size + 1, 0, none⟩ = some (.int .i64 0) := cell_later hc (by simp [go_sem])
    have fR0 : w1.frozen? ⟨w.heap.size + 1, 0, none⟩ = false := (hc.frozen (p := ⟨w.heap.size + 1, 0, none⟩) (by first | (simp; done) | (simp; omega))).trans (by simp [go_sem])
    have cR1 : w1.cell? ⟨w.heap.size + 1, 1, none⟩ = some (.int .i64 0) := cell_later hc (by simp [go_sem])
    have fR1 : w1.frozen? ⟨w.heap.size + 1, 1, none⟩ = false := (hc.frozen (p := ⟨w.heap.size + 1, 1, none⟩) (by first | (simp; done) | (simp; omega))).trans (by simp [go_sem])
    have zR : w.heap.size + 1 < w1.heap.size := by omega
    replace hb := hb.trans (bq.mono hb.size)
    clear hc bq bp hbt
    go_wp2
    exact bodyPost_ret (v := .agg #[.int .i64 P, .int .i64 0]) (by simp [results, Try.results59, go_sem, cR0, cR1]) rfl ⟨rfl, ((hb.setCell (by first | omega | (simp; omega) | simp) _).setCell (by first | omega | (simp; omega) | simp) _)⟩
  have hpo := progFault_ok hP
  have hin := inside_of hP
  have hpl := hpr.1
  rw [hP] at PF
  have HPF : Hid _ := PF
  have LF := fun w' h' => l2FaultB w.heap.size a n ca w' h' h1
  by_cases hn : 400 < n
  · have e1 : fdC is xs F N = 2 := by unfold fdC; rw [if_neg (by omega), if_pos (by omega)]
    have e2 : fdV is xs F N B = 0 := by unfold fdV; rw [if_neg (by omega)]
    rw [e1, e2]
    rw [show fFault n = 2 by unfold fFault; rw [if_pos hn]] at LF
    have HLF : Hid _ := LF
    clear PF LF e1 e2 hpo hin hP
    go_enter Try.func59, Try.ntmps59
    have hb : Below w.heap.size w w := Below.refl _ _
    go_wp2_with fail
    have bp : ∀ o0 o1, Below w.heap.size w ((w.alloc o0).alloc o1) := fun o0 o1 => ((Below.refl _ _).alloc (Nat.le_refl _) o0).alloc (by simp) o1
    have hbt : ∀ o0 o1, Below w.heap.size w ((w.alloc o0).alloc o1) := fun o0 o1 => hb.trans ((bp o0 o1).mono hb.size)
    refine Calls.mono (HPF.out _ (hpr.below (hbt _ _))) ?_
    rintro e w1 ⟨rfl, hc⟩
    have s1 : w.heap.size + 2 ≤ w1.heap.size := by have := hc.size; simp at this; omega
    have bq : Below w.heap.size w w1 := (bp _ _).trans (hc.mono (bp _ _).size)
    have cf0 : w1.cell? ⟨w.heap.size, 0, none⟩ = some (.slice a n ca) := cell_later hc (by simp [go_sem])
    have zf : w.heap.size < w1.heap.size := by omega
    have cR0 : w1.cell? ⟨w.heap.size + 1, 0, none⟩ = some (.int .i64 0) := cell_later hc (by simp [go_sem])
    have fR0 : w1.frozen? ⟨w.heap.size + 1, 0, none⟩ = false := (hc.frozen (p := ⟨w.heap.size + 1, 0, none⟩) (by first | (simp; done) | (simp; omega))).trans (by simp [go_sem])
    have cR1 : w1.cell? ⟨w.heap.size + 1, 1, none⟩ = some (.int .i64 0) := cell_later hc (by simp [go_sem])
    have fR1 : w1.frozen? ⟨w.heap.size + 1, 1, none⟩ = false := (hc.frozen (p := ⟨w.heap.size + 1, 1, none⟩) (by first | (simp; done) | (simp; omega))).trans (by simp [go_sem])
    have zR : w.heap.size + 1 < w1.heap.size := by omega
    replace hb := hb.trans (bq.mono hb.size)
    clear hc bq bp hbt
    go_wp2_with fail
    refine Calls.mono (HLF.out _ cf0) ?_
    rintro e w2 ⟨rfl, hc⟩
    have s2 : w1.heap.size ≤ w2.heap.size := hc.size
    have bq := hc
    replace cf0 := cell_later bq cf0
    replace zf := Nat.lt_of_lt_of_le zf bq.size
    replace cR0 := cell_later bq cR0
    replace fR0 := (bq.frozen (p := ⟨w.heap.size + 1, 0, none⟩) zR).trans fR0
    replace cR1 := cell_later bq cR1
    replace fR1 := (bq.frozen (p := ⟨w.heap.size + 1, 1, none⟩) zR).trans fR1
    replace zR := Nat.lt_of_lt_of_le zR bq.size
    replace hb := hb.trans (bq.mono hb.size)
    clear hc bq
    go_wp2
    exact bodyPost_ret (v := .agg #[.int .i64 2, .int .i64 0]) (by simp [results, Try.results59, go_sem, cR0, cR1]) rfl ⟨rfl, ((hb.setCell (by first | omega | (simp; omega) | simp) _).setCell (by first | omega | (simp; omega) | simp) _)⟩
  rw [show fFault n = 0 by unfold fFault; rw [if_neg hn]] at LF
  have HLF : Hid _ := LF
  have LN := fun w' hc h => l2Lines_any w.heap.size a n ca xs w' hc h h1
  have hll := lns_len xs
  have HH := fun w' h0 hc h => l9Hits_any w.heap.size pa pn pc is a n ca xs w' h0 hin hs (by omega) (by omega) hc h hB (by omega) hca hcm
  have hhl := hits_le is xs
  have FI := fun A CA w' h => l9Find_any A (hits is xs).length CA (hits is xs) F N B w' h (by omega)
  have hge : ∀ h ∈ hits is xs, 0 ≤ h := fun h hm => (hitsN_lt _ h hm).1
  generalize hLn : (lns xs).length = L at *
  have HLN : Hid _ := LN
  clear PF LF LN hpo hcm hca
  by_cases hF : -1 ≤ F ∧ F ≤ (L : Int)
  case neg =>
    have e1 : fdC is xs F N = 3 := by unfold fdC; rw [if_neg (by omega), if_neg (by omega), if_pos (by omega)]
    have e2 : fdV is xs F N B = 0 := by unfold fdV; rw [if_neg (by omega)]
    rw [e1, e2]
    have HI1 := hid (l1InB F (-1) (L : Int) false (by simpa using hF))
    clear e1 e2 HH FI hge hF hin
    go_enter Try.func59, Try.ntmps59
    have hb : Below w.heap.size w w := Below.refl _ _
    go_wp2_with fail
    have bp : ∀ o0 o1, Below w.heap.size w ((w.alloc o0).alloc o1) := fun o0 o1 => ((Below.refl _ _).alloc (Nat.le_refl _) o0).alloc (by simp) o1
    have hbt : ∀ o0 o1, Below w.heap.size w ((w.alloc o0).alloc o1) := fun o0 o1 => hb.trans ((bp o0 o1).mono hb.size)
    refine Calls.mono (HPF.out _ (hpr.below (hbt _ _))) ?_
    rintro e w1 ⟨rfl, hc⟩
    have s1 : w.heap.size + 2 ≤ w1.heap.size := by have := hc.size; simp at this; omega
    have bq : Below w.heap.size w w1 := (bp _ _).trans (hc.mono (bp _ _).size)
    have cf0 : w1.cell? ⟨w.heap.size, 0, none⟩ = some (.slice a n ca) := cell_later hc (by simp [go_sem])
    have zf : w.heap.size < w1.heap.size := by omega
    have cR0 : w1.cell? ⟨w.heap.size + 1, 0, none⟩ = some (.int .i64 0) := cell_later hc (by simp [go_sem])
    have fR0 : w1.frozen? ⟨w.heap.size + 1, 0, none⟩ = false := (hc.frozen (p := ⟨w.heap.size + 1, 0, none⟩) (by first | (simp; done) | (simp; omega))).trans (by simp [go_sem])
    have cR1 : w1.cell? ⟨w.heap.size + 1, 1, none⟩ = some (.int .i64 0) := cell_later hc (by simp [go_sem])
    have fR1 : w1.frozen? ⟨w.heap.size + 1, 1, none⟩ = false := (hc.frozen (p := ⟨w.heap.size + 1, 1, none⟩) (by first | (simp; done) | (simp; omega))).trans (by simp [go_sem])
    have zR : w.heap.size + 1 < w1.heap.size := by omega
    replace hb := hb.trans (bq.mono hb.size)
    clear hc bq bp hbt
    go_wp2_with fail
    refine Calls.mono (HLF.out _ cf0) ?_
    rintro e w2 ⟨rfl, hc⟩
    have s2 : w1.heap.size ≤ w2.heap.size := hc.size
    have bq := hc
    replace cf0 := cell_later bq cf0
    replace zf := Nat.lt_of_lt_of_le zf bq.size
    replace cR0 := cell_later bq cR0
    replace fR0 := (bq.frozen (p := ⟨w.heap.size + 1, 0, none⟩) zR).trans fR0
    replace cR1 := cell_later bq cR1
    replace fR1 := (bq.frozen (p := ⟨w.heap.size + 1, 1, none⟩) zR).trans fR1
    replace zR := Nat.lt_of_lt_of_le zR bq.size
    replace hb := hb.trans (bq.mono hb.size)
    clear hc bq
    go_wp2_with fail
    refine Calls.mono (HLN.out _ cf0 (ha.below hb)) ?_
    rintro e w3 ⟨vl, rfl, rl, hc⟩
    obtain ⟨al, cl, rfl, -⟩ := rl.1.rd lineE_len
    clear rl
    have s3 : w2.heap.size ≤ w3.heap.size := hc.size
    have bq := hc
    replace cf0 := cell_later bq cf0
    replace zf := Nat.lt_of_lt_of_le zf bq.size
    replace cR0 := cell_later bq cR0
    replace fR0 := (bq.frozen (p := ⟨w.heap.size + 1, 0, none⟩) zR).trans fR0
    replace cR1 := cell_later bq cR1
    replace fR1 := (bq.frozen (p := ⟨w.heap.size + 1, 1, none⟩) zR).trans fR1
    replace zR := Nat.lt_of_lt_of_le zR bq.size
    replace hb := hb.trans (bq.mono hb.size)
    clear hc bq
    go_wp2_with fail
    refine Calls.mono (HI1.out _) ?_
    rintro e w4 ⟨rfl, hc⟩
    have s4 : w3.heap.size ≤ w4.heap.size := hc.size
    have bq := hc
    replace cf0 := cell_later bq cf0
    replace zf := Nat.lt_of_lt_of_le zf bq.size
    replace cR0 := cell_later bq cR0
    replace fR0 := (bq.frozen (p := ⟨w.heap.size + 1, 0, none⟩) zR).trans fR0
    replace cR1 := cell_later bq cR1
    replace fR1 := (bq.frozen (p := ⟨w.heap.size + 1, 1, none⟩) zR).trans fR1
    replace zR := Nat.lt_of_lt_of_le zR bq.size
    replace hb := hb.trans (bq.mono hb.size)
    clear hc bq
    go_wp2
    exact bodyPost_ret (v := .agg #[.int .i64 3, .int .i64 0]) (by simp [results, Try.results59, go_sem, cR0, cR1]) rfl ⟨rfl, ((hb.setCell (by first | omega | (simp; omega) | simp) _).setCell (by first | omega | (simp; omega) | simp) _)⟩
  have HI1 := hid (l1InB F (-1) (L : Int) true (by simpa using hF))
  by_cases hN : 1 ≤ N ∧ N ≤ 999
  case neg =>
    have e1 : fdC is xs F N = 3 := by unfold fdC; rw [if_neg (by omega), if_neg (by omega), if_pos (by omega)]
    have e2 : fdV is xs F N B = 0 := by unfold fdV; rw [if_neg (by omega)]
    rw [e1, e2]
    have HI2 := hid (l1InB N 1 999 false (by simpa using hN))
    clear e1 e2 HH FI hge hF hN hin
    go_enter Try.func59, Try.ntmps59
    have hb : Below w.heap.size w w := Below.refl _ _
    go_wp2_with fail
    have bp : ∀ o0 o1, Below w.heap.size w ((w.alloc o0).alloc o1) := fun o0 o1 => ((Below.refl _ _).alloc (Nat.le_refl _) o0).alloc (by simp) o1
    have hbt : ∀ o0 o1, Below w.heap.size w ((w.alloc o0).alloc o1) := fun o0 o1 => hb.trans ((bp o0 o1).mono hb.size)
    refine Calls.mono (HPF.out _ (hpr.below (hbt _ _))) ?_
    rintro e w1 ⟨rfl, hc⟩
    have s1 : w.heap.size + 2 ≤ w1.heap.size := by have := hc.size; simp at this; omega
    have bq : Below w.heap.size w w1 := (bp _ _).trans (hc.mono (bp _ _).size)
    have cf0 : w1.cell? ⟨w.heap.size, 0, none⟩ = some (.slice a n ca) := cell_later hc (by simp [go_sem])
    have zf : w.heap.size < w1.heap.size := by omega
    have cR0 : w1.cell? ⟨w.heap.size + 1, 0, none⟩ = some (.int .i64 0) := cell_later hc (by simp [go_sem])
    have fR0 : w1.frozen? ⟨w.heap.size + 1, 0, none⟩ = false := (hc.frozen (p := ⟨w.heap.size + 1, 0, none⟩) (by first | (simp; done) | (simp; omega))).trans (by simp [go_sem])
    have cR1 : w1.cell? ⟨w.heap.size + 1, 1, none⟩ = some (.int .i64 0) := cell_later hc (by simp [go_sem])
    have fR1 : w1.frozen? ⟨w.heap.size + 1, 1, none⟩ = false := (hc.frozen (p := ⟨w.heap.size + 1, 1, none⟩) (by first | (simp; done) | (simp; omega))).trans (by simp [go_sem])
    have zR : w.heap.size + 1 < w1.heap.size := by omega
    replace hb := hb.trans (bq.mono hb.size)
    clear hc bq bp hbt
    go_wp2_with fail
    refine Calls.mono (HLF.out _ cf0) ?_
    rintro e w2 ⟨rfl, hc⟩
    have s2 : w1.heap.size ≤ w2.heap.size := hc.size
    have bq := hc
    replace cf0 := cell_later bq cf0
    replace zf := Nat.lt_of_lt_of_le zf bq.size
    replace cR0 := cell_later bq cR0
    replace fR0 := (bq.frozen (p := ⟨w.heap.size + 1, 0, none⟩) zR).trans fR0
    replace cR1 := cell_later bq cR1
    replace fR1 := (bq.frozen (p := ⟨w.heap.size + 1, 1, none⟩) zR).trans fR1
    replace zR := Nat.lt_of_lt_of_le zR bq.size
    replace hb := hb.trans (bq.mono hb.size)
    clear hc bq
    go_wp2_with fail
    refine Calls.mono (HLN.out _ cf0 (ha.below hb)) ?_
    rintro e w3 ⟨vl, rfl, rl, hc⟩
    obtain ⟨al, cl, rfl, -⟩ := rl.1.rd lineE_len
    clear rl
    have s3 : w2.heap.size ≤ w3.heap.size := hc.size
    have bq := hc
    replace cf0 := cell_later bq cf0
    replace zf := Nat.lt_of_lt_of_le zf bq.size
    replace cR0 := cell_later bq cR0
    replace fR0 := (bq.frozen (p := ⟨w.heap.size + 1, 0, none⟩) zR).trans fR0
    replace cR1 := cell_later bq cR1
    replace fR1 := (bq.frozen (p := ⟨w.heap.size + 1, 1, none⟩) zR).trans fR1
    replace zR := Nat.lt_of_lt_of_le zR bq.size
    replace hb := hb.trans (bq.mono hb.size)
    clear hc bq
    go_wp2_with fail
    refine Calls.mono (HI1.out _) ?_
    rintro e w4 ⟨rfl, hc⟩
    have s4 : w3.heap.size ≤ w4.heap.size := hc.size
    have bq := hc
    replace cf0 := cell_later bq cf0
    replace zf := Nat.lt_of_lt_of_le zf bq.size
    replace cR0 := cell_later bq cR0
    replace fR0 := (bq.frozen (p := ⟨w.heap.size + 1, 0, none⟩) zR).trans fR0
    replace cR1 := cell_later bq cR1
    replace fR1 := (bq.frozen (p := ⟨w.heap.size + 1, 1, none⟩) zR).trans fR1
    replace zR := Nat.lt_of_lt_of_le zR bq.size
    replace hb := hb.trans (bq.mono hb.size)
    clear hc bq
    go_wp2_with fail
    refine Calls.mono (HI2.out _) ?_
    rintro e w5 ⟨rfl, hc⟩
    have s5 : w4.heap.size ≤ w5.heap.size := hc.size
    have bq := hc
    replace cf0 := cell_later bq cf0
    replace zf := Nat.lt_of_lt_of_le zf bq.size
    replace cR0 := cell_later bq cR0
    replace fR0 := (bq.frozen (p := ⟨w.heap.size + 1, 0, none⟩) zR).trans fR0
    replace cR1 := cell_later bq cR1
    replace fR1 := (bq.frozen (p := ⟨w.heap.size + 1, 1, none⟩) zR).trans fR1
    replace zR := Nat.lt_of_lt_of_le zR bq.size
    replace hb := hb.trans (bq.mono hb.size)
    clear hc bq
    go_wp2
    exact bodyPost_ret (v := .agg #[.int .i64 3, .int .i64 0]) (by simp [results, Try.results59, go_sem, cR0, cR1]) rfl ⟨rfl, ((hb.setCell (by first | omega | (simp; omega) | simp) _).setCell (by first | omega | (simp; omega) | simp) _)⟩
  have HI2 := hid (l1InB N 1 999 true (by simpa using hN))
  have FI2 := fun A CA w' h => (FI A CA w' h hN.1 hN.2).mono (fun e w'' h => (⟨h.1, h.2 ▸ Below.refl _ _⟩ : _ ∧ Below w'.heap.size w' w''))
  clear FI
  by_cases hE : hits is xs = []
  · have e1 : fdC is xs F N = 4 := by unfold fdC; rw [if_neg (by omega), if_neg (by omega), if_neg (by omega), if_pos hE]
    have e2 : fdV is xs F N B = 0 := by unfold fdV; rw [if_neg (by omega)]
    rw [e1, e2]
    rw [if_pos hE] at FI2
    generalize hits is xs = hs2 at *
    generalize hm : hs2.length = m at *
    have HFI : Hid _ := FI2
    have HHI : Hid _ := HH
    clear e1 e2 HH FI2 hge hF hN hE hin
    go_enter Try.func59, Try.ntmps59
    have hb : Below w.heap.size w w := Below.refl _ _
    go_wp2_with fail
    have bp : ∀ o0 o1, Below w.heap.size w ((w.alloc o0).alloc o1) := fun o0 o1 => ((Below.refl _ _).alloc (Nat.le_refl _) o0).alloc (by simp) o1
    have hbt : ∀ o0 o1, Below w.heap.size w ((w.alloc o0).alloc o1) := fun o0 o1 => hb.trans ((bp o0 o1).mono hb.size)
    refine Calls.mono (HPF.out _ (hpr.below (hbt _ _))) ?_
    rintro e w1 ⟨rfl, hc⟩
    have s1 : w.heap.size + 2 ≤ w1.heap.size := by have := hc.size; simp at this; omega
    have bq : Below w.heap.size w w1 := (bp _ _).trans (hc.mono (bp _ _).size)
    have cf0 : w1.cell? ⟨w.heap.size, 0, none⟩ = some (.slice a n ca) := cell_later hc (by simp [go_sem])
    have zf : w.heap.size < w1.heap.size := by omega
    have cR0 : w1.cell? ⟨w.heap.size + 1, 0, none⟩ = some (.int .i64 0) := cell_later hc (by simp [go_sem])
    have fR0 : w1.frozen? ⟨w.heap.size + 1, 0, none⟩ = false := (hc.frozen (p := ⟨w.heap.size + 1, 0, none⟩) (by first | (simp; done) | (simp; omega))).trans (by simp [go_sem])
    have cR1 : w1.cell? ⟨w.heap.size + 1, 1, none⟩ = some (.int .i64 0) := cell_later hc (by simp [go_sem])
    have fR1 : w1.frozen? ⟨w.heap.size + 1, 1, none⟩ = false := (hc.frozen (p := ⟨w.heap.size + 1, 1, none⟩) (by first | (simp; done) | (simp; omega))).trans (by simp [go_sem])
    have zR : w.heap.size + 1 < w1.heap.size := by omega
    replace hb := hb.trans (bq.mono hb.size)
    clear hc bq bp hbt
    go_wp2_with fail
    refine Calls.mono (HLF.out _ cf0) ?_
    rintro e w2 ⟨rfl, hc⟩
    have s2 : w1.heap.size ≤ w2.heap.size := hc.size
    have bq := hc
    replace cf0 := cell_later bq cf0
    replace zf := Nat.lt_of_lt_of_le zf bq.size
    replace cR0 := cell_later bq cR0
    replace fR0 := (bq.frozen (p := ⟨w.heap.size + 1, 0, none⟩) zR).trans fR0
    replace cR1 := cell_later bq cR1
    replace fR1 := (bq.frozen (p := ⟨w.heap.size + 1, 1, none⟩) zR).trans fR1
    replace zR := Nat.lt_of_lt_of_le zR bq.size
    replace hb := hb.trans (bq.mono hb.size)
    clear hc bq
    go_wp2_with fail
    refine Calls.mono (HLN.out _ cf0 (ha.below hb)) ?_
    rintro e w3 ⟨vl, rfl, rl, hc⟩
    obtain ⟨al, cl, rfl, -⟩ := rl.1.rd lineE_len
    clear rl
    have s3 : w2.heap.size ≤ w3.heap.size := hc.size
    have bq := hc
    replace cf0 := cell_later bq cf0
    replace zf := Nat.lt_of_lt_of_le zf bq.size
    replace cR0 := cell_later bq cR0
    replace fR0 := (bq.frozen (p := ⟨w.heap.size + 1, 0, none⟩) zR).trans fR0
    replace cR1 := cell_later bq cR1
    replace fR1 := (bq.frozen (p := ⟨w.heap.size + 1, 1, none⟩) zR).trans fR1
    replace zR := Nat.lt_of_lt_of_le zR bq.size
    replace hb := hb.trans (bq.mono hb.size)
    clear hc bq
    go_wp2_with fail
    refine Calls.mono (HI1.out _) ?_
    rintro e w4 ⟨rfl, hc⟩
    have s4 : w3.heap.size ≤ w4.heap.size := hc.size
    have bq := hc
    replace cf0 := cell_later bq cf0
    replace zf := Nat.lt_of_lt_of_le zf bq.size
    replace cR0 := cell_later bq cR0
    replace fR0 := (bq.frozen (p := ⟨w.heap.size + 1, 0, none⟩) zR).trans fR0
    replace cR1 := cell_later bq cR1
    replace fR1 := (bq.frozen (p := ⟨w.heap.size + 1, 1, none⟩) zR).trans fR1
    replace zR := Nat.lt_of_lt_of_le zR bq.size
    replace hb := hb.trans (bq.mono hb.size)
    clear hc bq
    go_wp2_with fail
    refine Calls.mono (HI2.out _) ?_
    rintro e w5 ⟨rfl, hc⟩
    have s5 : w4.heap.size ≤ w5.heap.size := hc.size
    have bq := hc
    replace cf0 := cell_later bq cf0
    replace zf := Nat.lt_of_lt_of_le zf bq.size
    replace cR0 := cell_later bq cR0
    replace fR0 := (bq.frozen (p := ⟨w.heap.size + 1, 0, none⟩) zR).trans fR0
    replace cR1 := cell_later bq cR1
    replace fR1 := (bq.frozen (p := ⟨w.heap.size + 1, 1, none⟩) zR).trans fR1
    replace zR := Nat.lt_of_lt_of_le zR bq.size
    replace hb := hb.trans (bq.mono hb.size)
    clear hc bq
    go_wp2_with fail
    refine Calls.mono (HHI.out _ (hpr.below hb) cf0 (ha.below hb)) ?_
    rintro e w6 ⟨vh, rfl, rh, hc⟩
    obtain ⟨ah, kh, rfl, -⟩ := rh.shape
    replace rh := rh.read
    have s6 : w5.heap.size ≤ w6.heap.size := hc.size
    have bq := hc
    replace cf0 := cell_later bq cf0
    replace zf := Nat.lt_of_lt_of_le zf bq.size
    replace cR0 := cell_later bq cR0
    replace fR0 := (bq.frozen (p := ⟨w.heap.size + 1, 0, none⟩) zR).trans fR0
    replace cR1 := cell_later bq cR1
    replace fR1 := (bq.frozen (p := ⟨w.heap.size + 1, 1, none⟩) zR).trans fR1
    replace zR := Nat.lt_of_lt_of_le zR bq.size
    replace hb := hb.trans (bq.mono hb.size)
    clear hc bq
    go_wp2_with fail
    refine Calls.mono (HFI.out ah kh _ rh) ?_
    rintro e w7 ⟨rfl, hc⟩
    have s7 : w6.heap.size ≤ w7.heap.size := hc.size
    have bq := hc
    replace cf0 := cell_later bq cf0
    replace zf := Nat.lt_of_lt_of_le zf bq.size
    replace cR0 := cell_later bq cR0
    replace fR0 := (bq.frozen (p := ⟨w.heap.size + 1, 0, none⟩) zR).trans fR0
    replace cR1 := cell_later bq cR1
    replace fR1 := (bq.frozen (p := ⟨w.heap.size + 1, 1, none⟩) zR).trans fR1
    replace zR := Nat.lt_of_lt_of_le zR bq.size
    replace hb := hb.trans (bq.mono hb.size)
    clear hc bq
    go_wp2
    exact bodyPost_ret (v := .agg #[.int .i64 4, .int .i64 0]) (by simp [results, Try.results59, go_sem, cR0, cR1]) rfl ⟨rfl, ((hb.setCell (by first | omega | (simp; omega) | simp) _).setCell (by first | omega | (simp; omega) | simp) _)⟩
  · have e1 : fdC is xs F N = 0 := by unfold fdC; rw [if_neg (by omega), if_neg (by omega), if_neg (by omega), if_neg hE]
    have e2 : fdV is xs F N B = (hits is xs).getD (fndAt (hits is xs) F N B).toNat 0 := by unfold fdV; rw [if_pos e1]
    rw [e1, e2]
    rw [if_neg hE] at FI2
    have hV : 0 ≤ (hits is xs).getD (fndAt (hits is xs) F N B).toNat 0 := by
      rw [List.getD_eq_getElem?_getD]
      cases hq : (hits is xs)[(fndAt (hits is xs) F N B).toNat]? with
      | none => simp
      | some h => exact hge h (List.mem_of_getElem? hq)
    generalize (hits is xs).getD (fndAt (hits is xs) F N B).toNat 0 = V at *
    have hV2 : ¬ V < 0 := by omega
    generalize hits is xs = hs2 at *
    generalize hm : hs2.length = m at *
    have HFI : Hid _ := FI2
    have HHI : Hid _ := HH
    clear e1 e2 HH FI2 hge hF hN hE hin
    go_enter Try.func59, Try.ntmps59
    have hb : Below w.heap.size w w := Below.refl _ _
    go_wp2_with fail
    have bp : ∀ o0 o1, Below w.heap.size w ((w.alloc o0).alloc o1) := fun o0 o1 => ((Below.refl _ _).alloc (Nat.le_refl _) o0).alloc (by simp) o1
    have hbt : ∀ o0 o1, Below w.heap.size w ((w.alloc o0).alloc o1) := fun o0 o1 => hb.trans ((bp o0 o1).mono hb.size)
    refine Calls.mono (HPF.out _ (hpr.below (hbt _ _))) ?_
    rintro e w1 ⟨rfl, hc⟩
    have s1 : w.heap.size + 2 ≤ w1.heap.size := by have := hc.size; simp at this; omega
    have bq : Below w.heap.size w w1 := (bp _ _).trans (hc.mono (bp _ _).size)
    have cf0 : w1.cell? ⟨w.heap.size, 0, none⟩ = some (.slice a n ca) := cell_later hc (by simp [go_sem])
    have zf : w.heap.size < w1.heap.size := by omega
    have cR0 : w1.cell? ⟨w.heap.size + 1, 0, none⟩ = some (.int .i64 0) := cell_later hc (by simp [go_sem])
    have fR0 : w1.frozen? ⟨w.heap.size + 1, 0, none⟩ = false := (hc.frozen (p := ⟨w.heap.size + 1, 0, none⟩) (by first | (simp; done) | (simp; omega))).trans (by simp [go_sem])
    have cR1 : w1.cell? ⟨w.heap.size + 1, 1, none⟩ = some (.int .i64 0) := cell_later hc (by simp [go_sem])
    have fR1 : w1.frozen? ⟨w.heap.size + 1, 1, none⟩ = false := (hc.frozen (p := ⟨w.heap.size + 1, 1, none⟩) (by first | (simp; done) | (simp; omega))).trans (by simp [go_sem])
    have zR : w.heap.size + 1 < w1.heap.size := by omega
    replace hb := hb.trans (bq.mono hb.size)
    clear hc bq bp hbt
    go_wp2_with fail
    refine Calls.mono (HLF.out _ cf0) ?_
    rintro e w2 ⟨rfl, hc⟩
    have s2 : w1.heap.size ≤ w2.heap.size := hc.size
    have bq := hc
    replace cf0 := cell_later bq cf0
    replace zf := Nat.lt_of_lt_of_le zf bq.size
    replace cR0 := cell_later bq cR0
    replace fR0 := (bq.frozen (p := ⟨w.heap.size + 1, 0, none⟩) zR).trans fR0
    replace cR1 := cell_later bq cR1
    replace fR1 := (bq.frozen (p := ⟨w.heap.size + 1, 1, none⟩) zR).trans fR1
    replace zR := Nat.lt_of_lt_of_le zR bq.size
    replace hb := hb.trans (bq.mono hb.size)
    clear hc bq
    go_wp2_with fail
    refine Calls.mono (HLN.out _ cf0 (ha.below hb)) ?_
    rintro e w3 ⟨vl, rfl, rl, hc⟩
    obtain ⟨al, cl, rfl, -⟩ := rl.1.rd lineE_len
    clear rl
    have s3 : w2.heap.size ≤ w3.heap.size := hc.size
    have bq := hc
    replace cf0 := cell_later bq cf0
    replace zf := Nat.lt_of_lt_of_le zf bq.size
    replace cR0 := cell_later bq cR0
    replace fR0 := (bq.frozen (p := ⟨w.heap.size + 1, 0, none⟩) zR).trans fR0
    replace cR1 := cell_later bq cR1
    replace fR1 := (bq.frozen (p := ⟨w.heap.size + 1, 1, none⟩) zR).trans fR1
    replace zR := Nat.lt_of_lt_of_le zR bq.size
    replace hb := hb.trans (bq.mono hb.size)
    clear hc bq
    go_wp2_with fail
    refine Calls.mono (HI1.out _) ?_
    rintro e w4 ⟨rfl, hc⟩
    have s4 : w3.heap.size ≤ w4.heap.size := hc.size
    have bq := hc
    replace cf0 := cell_later bq cf0
    replace zf := Nat.lt_of_lt_of_le zf bq.size
    replace cR0 := cell_later bq cR0
    replace fR0 := (bq.frozen (p := ⟨w.heap.size + 1, 0, none⟩) zR).trans fR0
    replace cR1 := cell_later bq cR1
    replace fR1 := (bq.frozen (p := ⟨w.heap.size + 1, 1, none⟩) zR).trans fR1
    replace zR := Nat.lt_of_lt_of_le zR bq.size
    replace hb := hb.trans (bq.mono hb.size)
    clear hc bq
    go_wp2_with fail
    refine Calls.mono (HI2.out _) ?_
    rintro e w5 ⟨rfl, hc⟩
    have s5 : w4.heap.size ≤ w5.heap.size := hc.size
    have bq := hc
    replace cf0 := cell_later bq cf0
    replace zf := Nat.lt_of_lt_of_le zf bq.size
    replace cR0 := cell_later bq cR0
    replace fR0 := (bq.frozen (p := ⟨w.heap.size + 1, 0, none⟩) zR).trans fR0
    replace cR1 := cell_later bq cR1
    replace fR1 := (bq.frozen (p := ⟨w.heap.size + 1, 1, none⟩) zR).trans fR1
    replace zR := Nat.lt_of_lt_of_le zR bq.size
    replace hb := hb.trans (bq.mono hb.size)
    clear hc bq
    go_wp2_with fail
    refine Calls.mono (HHI.out _ (hpr.below hb) cf0 (ha.below hb)) ?_
    rintro e w6 ⟨vh, rfl, rh, hc⟩
    obtain ⟨ah, kh, rfl, -⟩ := rh.shape
    replace rh := rh.read
    have s6 : w5.heap.size ≤ w6.heap.size := hc.size
    have bq := hc
    replace cf0 := cell_later bq cf0
    replace zf := Nat.lt_of_lt_of_le zf bq.size
    replace cR0 := cell_later bq cR0
    replace fR0 := (bq.frozen (p := ⟨w.heap.size + 1, 0, none⟩) zR).trans fR0
    replace cR1 := cell_later bq cR1
    replace fR1 := (bq.frozen (p := ⟨w.heap.size + 1, 1, none⟩) zR).trans fR1
    replace zR := Nat.lt_of_lt_of_le zR bq.size
    replace hb := hb.trans (bq.mono hb.size)
    clear hc bq
    go_wp2_with fail
    refine Calls.mono (HFI.out ah kh _ rh) ?_
    rintro e w7 ⟨rfl, hc⟩
    have s7 : w6.heap.size ≤ w7.heap.size := hc.size
    have bq := hc
    replace cf0 := cell_later bq cf0
    replace zf := Nat.lt_of_lt_of_le zf bq.size
    replace cR0 := cell_later bq cR0
    replace fR0 := (bq.frozen (p := ⟨w.heap.size + 1, 0, none⟩) zR).trans fR0
    replace cR1 := cell_later bq cR1
    replace fR1 := (bq.frozen (p := ⟨w.heap.size + 1, 1, none⟩) zR).trans fR1
    replace zR := Nat.lt_of_lt_of_le zR bq.size
    replace hb := hb.trans (bq.mono hb.size)
    clear hc bq
    go_wp2
    exact bodyPost_ret (v := .agg #[.int .i64 0, .int .i64 V]) (by simp [results, Try.results59, go_sem, cR0, cR1]) rfl ⟨rfl, ((hb.setCell (by first | omega | (simp; omega) | simp) _).setCell (by first | omega | (simp; omega) | simp) _)⟩
end Go.Proofs.Ytocophekfbhfbaa

namespace Go.Proofs.Ytocophekfbhfbaa
open Go.RowKit
set_option linter.unusedVariables false
set_option linter.unusedSimpArgs false

theorem part80 {bs : List Bool} (hl : bs.length = 80) {i : Nat} (hi : i < 80) (w : World) : (part 4 (boolsA bs) (i * 1)).run Try.prog w = .ok (.bool (bs.getD i false)) w := by
  have ha := Try.isAgg4
  have h := boolsA_at bs i (by omega)
  simp [part, ha, h]

theorem eqItems80 {bs cs : List Bool} (hl : bs.length = 80) (hc : cs.length = 80) (w : World) : ∀ is : List Nat, (∀ i ∈ is, i < 80) → (Op.eqItems (9998 + 1) 4 1 (boolsA bs) (boolsA cs) is).run Try.prog w = .ok (is.all fun i => bs.getD i false == cs.getD i false) w
  | [], _ => by simp [Op.eqItems]
  | i :: is, h => by
    have ih := eqItems80 hl hc w is (fun j hj => h j (by simp [hj]))
    have p1 := part80 hl (h i (by simp)) w
    have p2 := part80 hc (h i (by simp)) w
    have p3 := run_equalIn_bool (P := Try.prog) w 9998 4 (bs.getD i false) (cs.getD i false) Try.underlying4
    simp only [Op.eqItems, Sem.run_bind, p1, p2, p3, Result.andThen_ok]
    cases hb : (bs.getD i false == cs.getD i false)
    · simp
      intro h0
      simp at hb
      exact absurd h0 hb
    · simp at hb
      simp [ih, hb]

theorem infoB0 : ∃ i, Try.prog.info? 4 = some i := by
  cases h : Try.prog.info? 4 with
  | none => have : (Try.prog.info? 4).isSome = true := by kernel_rfl
            rw [h] at this
            cases this
  | some i => exact ⟨i, rfl⟩

theorem all_eq {bs cs : List Bool} (hl : bs.length = 80) (hc : cs.length = 80) : ((List.range 80).all fun i => bs.getD i false == cs.getD i false) = decide (bs = cs) := by
  rw [Bool.eq_iff_iff, List.all_eq_true, decide_eq_true_eq]
  constructor
  · intro h
    apply List.ext_getElem (by omega)
    intro i h1 h2
    have := h i (by simp; omega)
    simpa [List.getD_eq_getElem?_getD, h1, h2] using this
  · rintro rfl i _
    simp

/-- Go's '!=' at sets. -/
theorem neq80 {bs cs : List Bool} (hl : bs.length = 80) (hc : cs.length = 80) (w : World) :
    (binOp .neq 157 (.agg (boolsA bs)) (.agg (boolsA cs))).run Try.prog w = .ok (.bool (!decide (bs = cs))) w := by
  obtain ⟨i, hi⟩ := infoB0
  have hce : Try.prog.cellsOf 4 = 1 := by kernel_rfl
  rw [run_neq_struct, show (10000 : Nat) = 9999 + 1 from rfl, run_equalIn_array w 9999 _ _ under80 hi, hce, show (9999 : Nat) = 9998 + 1 from rfl, eqItems80 hl hc w _ (fun i hi => by simpa using hi), all_eq hl hc]
  rfl

theorem guard80 (op : BinOp) (a b : Operand) (x y : Array Value) (w : World) : (eqGuard op 157 a b (.agg x) (.agg y)).run Try.prog w = .ok () w := run_eqGuard_agg w op 157 a b x y (by kernel_rfl)

theorem built0 : (Try.prog.built 157 []) = some (boolsA (List.replicate 80 false)) := by kernel_rfl
theorem built1 : (Try.prog.built 157 [(0, Value.bool true)]) = some (boolsA first80) := by kernel_rfl
end Go.Proofs.Ytocophekfbhfbaa

namespace Go.Proofs.Ytocophekfbhfbaa
open Go.RowKit
set_option linter.unusedVariables false
set_option linter.unusedSimpArgs false

theorem one_rd {e : TypeId} (w : World) (k c : Int) (s : ByteArray) (l r : Int) : RdR ndE 5 (w.alloc (.cells #[.int .i64 k, .int .i64 c, .string s, .int .i64 l, .int .i64 r] e)) (some ⟨w.heap.size, 0, none⟩) 1 [⟨k, c, s, l, r⟩] := by
  refine ⟨rfl, .inr ⟨w.heap.size, 0, rfl, fun j x hx f v hv => ?_⟩⟩
  match j with
  | 0 =>
    simp at hx
    subst hx
    have hh := cells_new w #[.int .i64 k, .int .i64 c, .string s, .int .i64 l, .int .i64 r] e f v (by simpa [ndE] using hv)
    rw [Addr.add_lit] at hh
    simpa using hh
  | j + 1 => simp at hx

set_option maxHeartbeats 6400000 in
set_option maxRecDepth 20000 in
theorem faultAmong_any (i : In) (n : Int) (w : World) (hs : i.s.size ≤ 1048576) :
    Calls Try.prog 187 #[.agg #[.int .i64 i.o, .int .i64 i.k, .int .i64 i.c, .string i.s, .int .i64 i.l, .int .i64 i.r, .int .i64 i.x, .int .i64 i.y], .int .i64 n] w fun e w' => e = .returned (.int .i64 (instF n i)) ∧ Below w.heap.size w w' := by
  have B1 : ∀ o, Below w.heap.size w (w.alloc o) := fun o => (Below.refl _ _).alloc (Nat.le_refl _) o
  have CT := fun w' => hasTooMuchI_any i w'
  by_cases hh : HasI i
  case neg =>
    rw [instF_has hh]
    rw [decide_eq_false hh] at CT
    obtain ⟨o, k, c, s, l, r, x, y⟩ := i
    have HT : Hid _ := CT
    clear CT hh
    go_enter Try.func187, Try.ntmps187
    go_wp2_with fail
    refine (HT.out _).mono ?_
    rintro e w1 ⟨rfl, hb1⟩
    go_wp2
    go_ret
    exact ⟨rfl, (B1 _).trans (hb1.mono (B1 _).size)⟩
  rw [decide_eq_true hh] at CT
  by_cases ho : i.o = 1
  case neg =>
    rw [instF_else hh ho]
    obtain ⟨o, k, c, s, l, r, x, y⟩ := i
    simp only at ho ⊢
    have ho' : (o == 1) = false := by simpa using ho
    have HT : Hid _ := CT
    clear CT hh
    by_cases hx0 : x < 0
    · rw [if_pos (by omega)]
      go_enter Try.func187, Try.ntmps187
      go_wp2_with fail
      refine (HT.out _).mono ?_
      rintro e w1 ⟨rfl, hb1⟩
      have d0 : w1.cell? ⟨w.heap.size, 0, none⟩ = some (.int .i64 o) := cell_later hb1 (by simp [go_sem])
      have d1 : w1.cell? ⟨w.heap.size, 1, none⟩ = some (.int .i64 k) := cell_later hb1 (by simp [go_sem])
      have d2 : w1.cell? ⟨w.heap.size, 2, none⟩ = some (.int .i64 c) := cell_later hb1 (by simp [go_sem])
      have d3 : w1.cell? ⟨w.heap.size, 3, none⟩ = some (.string s) := cell_later hb1 (by simp [go_sem])
      have d4 : w1.cell? ⟨w.heap.size, 4, none⟩ = some (.int .i64 l) := cell_later hb1 (by simp [go_sem])
      have d5 : w1.cell? ⟨w.heap.size, 5, none⟩ = some (.int .i64 r) := cell_later hb1 (by simp [go_sem])
      have d6 : w1.cell? ⟨w.heap.size, 6, none⟩ = some (.int .i64 x) := cell_later hb1 (by simp [go_sem])
      have d7 : w1.cell? ⟨w.heap.size, 7, none⟩ = some (.int .i64 y) := cell_later hb1 (by simp [go_sem])
      have z1 : w.heap.size < w1.heap.size := by have := hb1.size; simp at this; omega
      have hb01 := (B1 _).trans (hb1.mono (B1 _).size)
      clear hb1
      go_wp2
      go_ret
      exact ⟨rfl, hb01⟩
    by_cases hxn : n ≤ x
    · rw [if_pos (by omega)]
      go_enter Try.func187, Try.ntmps187
      go_wp2_with fail
      refine (HT.out _).mono ?_
      rintro e w1 ⟨rfl, hb1⟩
      have d0 : w1.cell? ⟨w.heap.size, 0, none⟩ = some (.int .i64 o) := cell_later hb1 (by simp [go_sem])
      have d1 : w1.cell? ⟨w.heap.size, 1, none⟩ = some (.int .i64 k) := cell_later hb1 (by simp [go_sem])
      have d2 : w1.cell? ⟨w.heap.size, 2, none⟩ = some (.int .i64 c) := cell_later hb1 (by simp [go_sem])
      have d3 : w1.cell? ⟨w.heap.size, 3, none⟩ = some (.string s) := cell_later hb1 (by simp [go_sem])
      have d4 : w1.cell? ⟨w.heap.size, 4, none⟩ = some (.int .i64 l) := cell_later hb1 (by simp [go_sem])
      have d5 : w1.cell? ⟨w.heap.size, 5, none⟩ = some (.int .i64 r) := cell_later hb1 (by simp [go_sem])
      have d6 : w1.cell? ⟨w.heap.size, 6, none⟩ = some (.int .i64 x) := cell_later hb1 (by simp [go_sem])
      have d7 : w1.cell? ⟨w.heap.size, 7, none⟩ = some (.int .i64 y) := cell_later hb1 (by simp [go_sem])
      have z1 : w.heap.size < w1.heap.size := by have := hb1.size; simp at this; omega
      have hb01 := (B1 _).trans (hb1.mono (B1 _).size)
      clear hb1
      go_wp2
      go_ret
      exact ⟨rfl, hb01⟩
    by_cases hy0 : y < 0
    · rw [if_pos (by omega)]
      go_enter Try.func187, Try.ntmps187
      go_wp2_with fail
      refine (HT.out _).mono ?_
      rintro e w1 ⟨rfl, hb1⟩
      have d0 : w1.cell? ⟨w.heap.size, 0, none⟩ = some (.int .i64 o) := cell_later hb1 (by simp [go_sem])
      have d1 : w1.cell? ⟨w.heap.size, 1, none⟩ = some (.int .i64 k) := cell_later hb1 (by simp [go_sem])
      have d2 : w1.cell? ⟨w.heap.size, 2, none⟩ = some (.int .i64 c) := cell_later hb1 (by simp [go_sem])
      have d3 : w1.cell? ⟨w.heap.size, 3, none⟩ = some (.string s) := cell_later hb1 (by simp [go_sem])
      have d4 : w1.cell? ⟨w.heap.size, 4, none⟩ = some (.int .i64 l) := cell_later hb1 (by simp [go_sem])
      have d5 : w1.cell? ⟨w.heap.size, 5, none⟩ = some (.int .i64 r) := cell_later hb1 (by simp [go_sem])
      have d6 : w1.cell? ⟨w.heap.size, 6, none⟩ = some (.int .i64 x) := cell_later hb1 (by simp [go_sem])
      have d7 : w1.cell? ⟨w.heap.size, 7, none⟩ = some (.int .i64 y) := cell_later hb1 (by simp [go_sem])
      have z1 : w.heap.size < w1.heap.size := by have := hb1.size; simp at this; omega
      have hb01 := (B1 _).trans (hb1.mono (B1 _).size)
      clear hb1
      go_wp2
      go_ret
      exact ⟨rfl, hb01⟩
    by_cases hyn : n ≤ y
    · rw [if_pos (by omega)]
      go_enter Try.func187, Try.ntmps187
      go_wp2_with fail
      refine (HT.out _).mono ?_
      rintro e w1 ⟨rfl, hb1⟩
      have d0 : w1.cell? ⟨w.heap.size, 0, none⟩ = some (.int .i64 o) := cell_later hb1 (by simp [go_sem])
      have d1 : w1.cell? ⟨w.heap.size, 1, none⟩ = some (.int .i64 k) := cell_later hb1 (by simp [go_sem])
      have d2 : w1.cell? ⟨w.heap.size, 2, none⟩ = some (.int .i64 c) := cell_later hb1 (by simp [go_sem])
      have d3 : w1.cell? ⟨w.heap.size, 3, none⟩ = some (.string s) := cell_later hb1 (by simp [go_sem])
      have d4 : w1.cell? ⟨w.heap.size, 4, none⟩ = some (.int .i64 l) := cell_later hb1 (by simp [go_sem])
      have d5 : w1.cell? ⟨w.heap.size, 5, none⟩ = some (.int .i64 r) := cell_later hb1 (by simp [go_sem])
      have d6 : w1.cell? ⟨w.heap.size, 6, none⟩ = some (.int .i64 x) := cell_later hb1 (by simp [go_sem])
      have d7 : w1.cell? ⟨w.heap.size, 7, none⟩ = some (.int .i64 y) := cell_later hb1 (by simp [go_sem])
      have z1 : w.heap.size < w1.heap.size := by have := hb1.size; simp at this; omega
      have hb01 := (B1 _).trans (hb1.mono (B1 _).size)
      clear hb1
      go_wp2
      go_ret
      exact ⟨rfl, hb01⟩
    rw [if_neg (by omega)]
    go_enter Try.func187, Try.ntmps187
    go_wp2_with fail
    refine (HT.out _).mono ?_
    rintro e w1 ⟨rfl, hb1⟩
    have d0 : w1.cell? ⟨w.heap.size, 0, none⟩ = some (.int .i64 o) := cell_later hb1 (by simp [go_sem])
    have d1 : w1.cell? ⟨w.heap.size, 1, none⟩ = some (.int .i64 k) := cell_later hb1 (by simp [go_sem])
    have d2 : w1.cell? ⟨w.heap.size, 2, none⟩ = some (.int .i64 c) := cell_later hb1 (by simp [go_sem])
    have d3 : w1.cell? ⟨w.heap.size, 3, none⟩ = some (.string s) := cell_later hb1 (by simp [go_sem])
    have d4 : w1.cell? ⟨w.heap.size, 4, none⟩ = some (.int .i64 l) := cell_later hb1 (by simp [go_sem])
    have d5 : w1.cell? ⟨w.heap.size, 5, none⟩ = some (.int .i64 r) := cell_later hb1 (by simp [go_sem])
    have d6 : w1.cell? ⟨w.heap.size, 6, none⟩ = some (.int .i64 x) := cell_later hb1 (by simp [go_sem])
    have d7 : w1.cell? ⟨w.heap.size, 7, none⟩ = some (.int .i64 y) := cell_later hb1 (by simp [go_sem])
    have z1 : w.heap.size < w1.heap.size := by have := hb1.size; simp at this; omega
    have hb01 := (B1 _).trans (hb1.mono (B1 _).size)
    clear hb1
    go_wp2
    go_ret
    exact ⟨rfl, hb01⟩
  have CK := fun w' => standsForByte_any i.nd w'
  by_cases hk : 2 ≤ i.k ∧ i.k ≤ 5
  case neg =>
    rw [instF_kind ho hk]
    rw [decide_eq_false (show ¬ (2 ≤ i.nd.k ∧ i.nd.k ≤ 5) from hk)] at CK
    obtain ⟨o, k, c, s, l, r, x, y⟩ := i
    simp only at ho CK
    subst ho
    have HT : Hid _ := CT
    have HK : Hid _ := CK
    clear CT CK hh hk
    go_enter Try.func187, Try.ntmps187
    go_wp2_with fail
    refine (HT.out _).mono ?_
    rintro e w1 ⟨rfl, hb1⟩
    have d0 : w1.cell? ⟨w.heap.size, 0, none⟩ = some (.int .i64 1) := cell_later hb1 (by simp [go_sem])
    have d1 : w1.cell? ⟨w.heap.size, 1, none⟩ = some (.int .i64 k) := cell_later hb1 (by simp [go_sem])
    have d2 : w1.cell? ⟨w.heap.size, 2, none⟩ = some (.int .i64 c) := cell_later hb1 (by simp [go_sem])
    have d3 : w1.cell? ⟨w.heap.size, 3, none⟩ = some (.string s) := cell_later hb1 (by simp [go_sem])
    have d4 : w1.cell? ⟨w.heap.size, 4, none⟩ = some (.int .i64 l) := cell_later hb1 (by simp [go_sem])
    have d5 : w1.cell? ⟨w.heap.size, 5, none⟩ = some (.int .i64 r) := cell_later hb1 (by simp [go_sem])
    have d6 : w1.cell? ⟨w.heap.size, 6, none⟩ = some (.int .i64 x) := cell_later hb1 (by simp [go_sem])
    have d7 : w1.cell? ⟨w.heap.size, 7, none⟩ = some (.int .i64 y) := cell_later hb1 (by simp [go_sem])
    have z1 : w.heap.size < w1.heap.size := by have := hb1.size; simp at this; omega
    have hb01 := (B1 _).trans (hb1.mono (B1 _).size)
    clear hb1
    go_wp2_with fail
    refine (HK.out _).mono ?_
    rintro e w2 ⟨rfl, hb2⟩
    replace d0 := cell_later hb2 d0
    replace d1 := cell_later hb2 d1
    replace d2 := cell_later hb2 d2
    replace d3 := cell_later hb2 d3
    replace d4 := cell_later hb2 d4
    replace d5 := cell_later hb2 d5
    replace d6 := cell_later hb2 d6
    replace d7 := cell_later hb2 d7
    have hb02 := hb01.trans (hb2.mono hb01.size)
    have z2 : w.heap.size < w2.heap.size := by have := hb2.size; omega
    clear hb2
    go_wp2
    go_ret
    exact ⟨rfl, hb02⟩
  rw [decide_eq_true (show 2 ≤ i.nd.k ∧ i.nd.k ≤ 5 from hk)] at CK
  have CN := fun w' a ca h => implNodesFault_any a 1 ca [i.nd] w' h (by simpa [ndSum, In.nd] using hs) (by omega)
  rw [nodesFault_one (show 2 ≤ i.nd.k ∧ i.nd.k ≤ 5 from hk)] at CN
  by_cases hf : ¬ FormP i.nd
  · rw [instF_form ho hf]
    rw [if_pos hf] at CN
    obtain ⟨o, k, c, s, l, r, x, y⟩ := i
    simp only [In.nd] at ho CK CN
    subst ho
    have HT : Hid _ := CT
    have HK : Hid _ := CK
    have HN : Hid _ := CN
    clear CT CK CN hh hk hf
    go_enter Try.func187, Try.ntmps187
    go_wp2_with fail
    refine (HT.out _).mono ?_
    rintro e w1 ⟨rfl, hb1⟩
    have d0 : w1.cell? ⟨w.heap.size, 0, none⟩ = some (.int .i64 1) := cell_later hb1 (by simp [go_sem])
    have d1 : w1.cell? ⟨w.heap.size, 1, none⟩ = some (.int .i64 k) := cell_later hb1 (by simp [go_sem])
    have d2 : w1.cell? ⟨w.heap.size, 2, none⟩ = some (.int .i64 c) := cell_later hb1 (by simp [go_sem])
    have d3 : w1.cell? ⟨w.heap.size, 3, none⟩ = some (.string s) := cell_later hb1 (by simp [go_sem])
    have d4 : w1.cell? ⟨w.heap.size, 4, none⟩ = some (.int .i64 l) := cell_later hb1 (by simp [go_sem])
    have d5 : w1.cell? ⟨w.heap.size, 5, none⟩ = some (.int .i64 r) := cell_later hb1 (by simp [go_sem])
    have d6 : w1.cell? ⟨w.heap.size, 6, none⟩ = some (.int .i64 x) := cell_later hb1 (by simp [go_sem])
    have d7 : w1.cell? ⟨w.heap.size, 7, none⟩ = some (.int .i64 y) := cell_later hb1 (by simp [go_sem])
    have z1 : w.heap.size < w1.heap.size := by have := hb1.size; simp at this; omega
    have hb01 := (B1 _).trans (hb1.mono (B1 _).size)
    clear hb1
    go_wp2_with fail
    refine (HK.out _).mono ?_
    rintro e w2 ⟨rfl, hb2⟩
    replace d0 := cell_later hb2 d0
    replace d1 := cell_later hb2 d1
    replace d2 := cell_later hb2 d2
    replace d3 := cell_later hb2 d3
    replace d4 := cell_later hb2 d4
    replace d5 := cell_later hb2 d5
    replace d6 := cell_later hb2 d6
    replace d7 := cell_later hb2 d7
    have hb02 := hb01.trans (hb2.mono hb01.size)
    have z2 : w.heap.size < w2.heap.size := by have := hb2.size; omega
    clear hb2
    go_wp2_with fail
    refine (HN.out _ _ _ (one_rd _ _ _ _ _ _)).mono ?_
    rintro e w3 ⟨rfl, hb3⟩
    replace d0 : w3.cell? ⟨w.heap.size, 0, none⟩ = some (.int .i64 1) := cell_later hb3 (by simp [go_sem, d0, z2])
    replace d1 : w3.cell? ⟨w.heap.size, 1, none⟩ = some (.int .i64 k) := cell_later hb3 (by simp [go_sem, d1, z2])
    replace d2 : w3.cell? ⟨w.heap.size, 2, none⟩ = some (.int .i64 c) := cell_later hb3 (by simp [go_sem, d2, z2])
    replace d3 : w3.cell? ⟨w.heap.size, 3, none⟩ = some (.string s) := cell_later hb3 (by simp [go_sem, d3, z2])
    replace d4 : w3.cell? ⟨w.heap.size, 4, none⟩ = some (.int .i64 l) := cell_later hb3 (by simp [go_sem, d4, z2])
    replace d5 : w3.cell? ⟨w.heap.size, 5, none⟩ = some (.int .i64 r) := cell_later hb3 (by simp [go_sem, d5, z2])
    replace d6 : w3.cell? ⟨w.heap.size, 6, none⟩ = some (.int .i64 x) := cell_later hb3 (by simp [go_sem, d6, z2])
    replace d7 : w3.cell? ⟨w.heap.size, 7, none⟩ = some (.int .i64 y) := cell_later hb3 (by simp [go_sem, d7, z2])
    have hb03 := (hb02.alloc hb02.size _).trans (hb3.mono (hb02.alloc hb02.size _).size)
    clear hb3
    go_wp2
    go_ret
    exact ⟨rfl, hb03⟩
  rw [if_neg hf] at CN
  replace hf : FormP i.nd := Decidable.not_not.1 hf
  by_cases hr : rangeB i.nd = false
  · rw [instF_range hh ho hk hf hr]
    rw [if_pos hr] at CN
    obtain ⟨o, k, c, s, l, r, x, y⟩ := i
    simp only [In.nd] at ho CK CN
    subst ho
    have HT : Hid _ := CT
    have HK : Hid _ := CK
    have HN : Hid _ := CN
    clear CT CK CN hh hk hf hr
    go_enter Try.func187, Try.ntmps187
    go_wp2_with fail
    refine (HT.out _).mono ?_
    rintro e w1 ⟨rfl, hb1⟩
    have d0 : w1.cell? ⟨w.heap.size, 0, none⟩ = some (.int .i64 1) := cell_later hb1 (by simp [go_sem])
    have d1 : w1.cell? ⟨w.heap.size, 1, none⟩ = some (.int .i64 k) := cell_later hb1 (by simp [go_sem])
    have d2 : w1.cell? ⟨w.heap.size, 2, none⟩ = some (.int .i64 c) := cell_later hb1 (by simp [go_sem])
    have d3 : w1.cell? ⟨w.heap.size, 3, none⟩ = some (.string s) := cell_later hb1 (by simp [go_sem])
    have d4 : w1.cell? ⟨w.heap.size, 4, none⟩ = some (.int .i64 l) := cell_later hb1 (by simp [go_sem])
    have d5 : w1.cell? ⟨w.heap.size, 5, none⟩ = some (.int .i64 r) := cell_later hb1 (by simp [go_sem])
    have d6 : w1.cell? ⟨w.heap.size, 6, none⟩ = some (.int .i64 x) := cell_later hb1 (by simp [go_sem])
    have d7 : w1.cell? ⟨w.heap.size, 7, none⟩ = some (.int .i64 y) := cell_later hb1 (by simp [go_sem])
    have z1 : w.heap.size < w1.heap.size := by have := hb1.size; simp at this; omega
    have hb01 := (B1 _).trans (hb1.mono (B1 _).size)
    clear hb1
    go_wp2_with fail
    refine (HK.out _).mono ?_
    rintro e w2 ⟨rfl, hb2⟩
    replace d0 := cell_later hb2 d0
    replace d1 := cell_later hb2 d1
    replace d2 := cell_later hb2 d2
    replace d3 := cell_later hb2 d3
    replace d4 := cell_later hb2 d4
    replace d5 := cell_later hb2 d5
    replace d6 := cell_later hb2 d6
    replace d7 := cell_later hb2 d7
    have hb02 := hb01.trans (hb2.mono hb01.size)
    have z2 : w.heap.size < w2.heap.size := by have := hb2.size; omega
    clear hb2
    go_wp2_with fail
    refine (HN.out _ _ _ (one_rd _ _ _ _ _ _)).mono ?_
    rintro e w3 ⟨rfl, hb3⟩
    replace d0 : w3.cell? ⟨w.heap.size, 0, none⟩ = some (.int .i64 1) := cell_later hb3 (by simp [go_sem, d0, z2])
    replace d1 : w3.cell? ⟨w.heap.size, 1, none⟩ = some (.int .i64 k) := cell_later hb3 (by simp [go_sem, d1, z2])
    replace d2 : w3.cell? ⟨w.heap.size, 2, none⟩ = some (.int .i64 c) := cell_later hb3 (by simp [go_sem, d2, z2])
    replace d3 : w3.cell? ⟨w.heap.size, 3, none⟩ = some (.string s) := cell_later hb3 (by simp [go_sem, d3, z2])
    replace d4 : w3.cell? ⟨w.heap.size, 4, none⟩ = some (.int .i64 l) := cell_later hb3 (by simp [go_sem, d4, z2])
    replace d5 : w3.cell? ⟨w.heap.size, 5, none⟩ = some (.int .i64 r) := cell_later hb3 (by simp [go_sem, d5, z2])
    replace d6 : w3.cell? ⟨w.heap.size, 6, none⟩ = some (.int .i64 x) := cell_later hb3 (by simp [go_sem, d6, z2])
    replace d7 : w3.cell? ⟨w.heap.size, 7, none⟩ = some (.int .i64 y) := cell_later hb3 (by simp [go_sem, d7, z2])
    have hb03 := (hb02.alloc hb02.size _).trans (hb3.mono (hb02.alloc hb02.size _).size)
    clear hb3
    go_wp2
    go_ret
    exact ⟨rfl, hb03⟩
  rw [if_neg hr] at CN
  replace hr : rangeB i.nd = true := by simpa using hr
  rw [instF_byte hh ho hk hf hr]
  obtain ⟨o, k, c, s, l, r, x, y⟩ := i
  simp only [In.nd] at ho CK CN ⊢
  subst ho
  have HT : Hid _ := CT
  have HK : Hid _ := CK
  have HN : Hid _ := CN
  clear CT CK CN hh hk hf hr
  by_cases hx0 : x < 0
  · rw [if_pos (by omega)]
    go_enter Try.func187, Try.ntmps187
    go_wp2_with fail
    refine (HT.out _).mono ?_
    rintro e w1 ⟨rfl, hb1⟩
    have d0 : w1.cell? ⟨w.heap.size, 0, none⟩ = some (.int .i64 1) := cell_later hb1 (by simp [go_sem])
    have d1 : w1.cell? ⟨w.heap.size, 1, none⟩ = some (.int .i64 k) := cell_later hb1 (by simp [go_sem])
    have d2 : w1.cell? ⟨w.heap.size, 2, none⟩ = some (.int .i64 c) := cell_later hb1 (by simp [go_sem])
    have d3 : w1.cell? ⟨w.heap.size, 3, none⟩ = some (.string s) := cell_later hb1 (by simp [go_sem])
    have d4 : w1.cell? ⟨w.heap.size, 4, none⟩ = some (.int .i64 l) := cell_later hb1 (by simp [go_sem])
    have d5 : w1.cell? ⟨w.heap.size, 5, none⟩ = some (.int .i64 r) := cell_later hb1 (by simp [go_sem])
    have d6 : w1.cell? ⟨w.heap.size, 6, none⟩ = some (.int .i64 x) := cell_later hb1 (by simp [go_sem])
    have d7 : w1.cell? ⟨w.heap.size, 7, none⟩ = some (.int .i64 y) := cell_later hb1 (by simp [go_sem])
    have z1 : w.heap.size < w1.heap.size := by have := hb1.size; simp at this; omega
    have hb01 := (B1 _).trans (hb1.mono (B1 _).size)
    clear hb1
    go_wp2_with fail
    refine (HK.out _).mono ?_
    rintro e w2 ⟨rfl, hb2⟩
    replace d0 := cell_later hb2 d0
    replace d1 := cell_later hb2 d1
    replace d2 := cell_later hb2 d2
    replace d3 := cell_later hb2 d3
    replace d4 := cell_later hb2 d4
    replace d5 := cell_later hb2 d5
    replace d6 := cell_later hb2 d6
    replace d7 := cell_later hb2 d7
    have hb02 := hb01.trans (hb2.mono hb01.size)
    have z2 : w.heap.size < w2.heap.size := by have := hb2.size; omega
    clear hb2
    go_wp2_with fail
    refine (HN.out _ _ _ (one_rd _ _ _ _ _ _)).mono ?_
    rintro e w3 ⟨rfl, hb3⟩
    replace d0 : w3.cell? ⟨w.heap.size, 0, none⟩ = some (.int .i64 1) := cell_later hb3 (by simp [go_sem, d0, z2])
    replace d1 : w3.cell? ⟨w.heap.size, 1, none⟩ = some (.int .i64 k) := cell_later hb3 (by simp [go_sem, d1, z2])
    replace d2 : w3.cell? ⟨w.heap.size, 2, none⟩ = some (.int .i64 c) := cell_later hb3 (by simp [go_sem, d2, z2])
    replace d3 : w3.cell? ⟨w.heap.size, 3, none⟩ = some (.string s) := cell_later hb3 (by simp [go_sem, d3, z2])
    replace d4 : w3.cell? ⟨w.heap.size, 4, none⟩ = some (.int .i64 l) := cell_later hb3 (by simp [go_sem, d4, z2])
    replace d5 : w3.cell? ⟨w.heap.size, 5, none⟩ = some (.int .i64 r) := cell_later hb3 (by simp [go_sem, d5, z2])
    replace d6 : w3.cell? ⟨w.heap.size, 6, none⟩ = some (.int .i64 x) := cell_later hb3 (by simp [go_sem, d6, z2])
    replace d7 : w3.cell? ⟨w.heap.size, 7, none⟩ = some (.int .i64 y) := cell_later hb3 (by simp [go_sem, d7, z2])
    have hb03 := (hb02.alloc hb02.size _).trans (hb3.mono (hb02.alloc hb02.size _).size)
    clear hb3
    go_wp2
    go_ret
    exact ⟨rfl, hb03⟩
  by_cases hxn : n ≤ x
  · rw [if_pos (by omega)]
    go_enter Try.func187, Try.ntmps187
    go_wp2_with fail
    refine (HT.out _).mono ?_
    rintro e w1 ⟨rfl, hb1⟩
    have d0 : w1.cell? ⟨w.heap.size, 0, none⟩ = some (.int .i64 1) := cell_later hb1 (by simp [go_sem])
    have d1 : w1.cell? ⟨w.heap.size, 1, none⟩ = some (.int .i64 k) := cell_later hb1 (by simp [go_sem])
    have d2 : w1.cell? ⟨w.heap.size, 2, none⟩ = some (.int .i64 c) := cell_later hb1 (by simp [go_sem])
    have d3 : w1.cell? ⟨w.heap.size, 3, none⟩ = some (.string s) := cell_later hb1 (by simp [go_sem])
    have d4 : w1.cell? ⟨w.heap.size, 4, none⟩ = some (.int .i64 l) := cell_later hb1 (by simp [go_sem])
    have d5 : w1.cell? ⟨w.heap.size, 5, none⟩ = some (.int .i64 r) := cell_later hb1 (by simp [go_sem])
    have d6 : w1.cell? ⟨w.heap.size, 6, none⟩ = some (.int .i64 x) := cell_later hb1 (by simp [go_sem])
    have d7 : w1.cell? ⟨w.heap.size, 7, none⟩ = some (.int .i64 y) := cell_later hb1 (by simp [go_sem])
    have z1 : w.heap.size < w1.heap.size := by have := hb1.size; simp at this; omega
    have hb01 := (B1 _).trans (hb1.mono (B1 _).size)
    clear hb1
    go_wp2_with fail
    refine (HK.out _).mono ?_
    rintro e w2 ⟨rfl, hb2⟩
    replace d0 := cell_later hb2 d0
    replace d1 := cell_later hb2 d1
    replace d2 := cell_later hb2 d2
    replace d3 := cell_later hb2 d3
    replace d4 := cell_later hb2 d4
    replace d5 := cell_later hb2 d5
    replace d6 := cell_later hb2 d6
    replace d7 := cell_later hb2 d7
    have hb02 := hb01.trans (hb2.mono hb01.size)
    have z2 : w.heap.size < w2.heap.size := by have := hb2.size; omega
    clear hb2
    go_wp2_with fail
    refine (HN.out _ _ _ (one_rd _ _ _ _ _ _)).mono ?_
    rintro e w3 ⟨rfl, hb3⟩
    replace d0 : w3.cell? ⟨w.heap.size, 0, none⟩ = some (.int .i64 1) := cell_later hb3 (by simp [go_sem, d0, z2])
    replace d1 : w3.cell? ⟨w.heap.size, 1, none⟩ = some (.int .i64 k) := cell_later hb3 (by simp [go_sem, d1, z2])
    replace d2 : w3.cell? ⟨w.heap.size, 2, none⟩ = some (.int .i64 c) := cell_later hb3 (by simp [go_sem, d2, z2])
    replace d3 : w3.cell? ⟨w.heap.size, 3, none⟩ = some (.string s) := cell_later hb3 (by simp [go_sem, d3, z2])
    replace d4 : w3.cell? ⟨w.heap.size, 4, none⟩ = some (.int .i64 l) := cell_later hb3 (by simp [go_sem, d4, z2])
    replace d5 : w3.cell? ⟨w.heap.size, 5, none⟩ = some (.int .i64 r) := cell_later hb3 (by simp [go_sem, d5, z2])
    replace d6 : w3.cell? ⟨w.heap.size, 6, none⟩ = some (.int .i64 x) := cell_later hb3 (by simp [go_sem, d6, z2])
    replace d7 : w3.cell? ⟨w.heap.size, 7, none⟩ = some (.int .i64 y) := cell_later hb3 (by simp [go_sem, d7, z2])
    have hb03 := (hb02.alloc hb02.size _).trans (hb3.mono (hb02.alloc hb02.size _).size)
    clear hb3
    go_wp2
    go_ret
    exact ⟨rfl, hb03⟩
  by_cases hy0 : y < 0
  · rw [if_pos (by omega)]
    go_enter Try.func187, Try.ntmps187
    go_wp2_with fail
    refine (HT.out _).mono ?_
    rintro e w1 ⟨rfl, hb1⟩
    have d0 : w1.cell? ⟨w.heap.size, 0, none⟩ = some (.int .i64 1) := cell_later hb1 (by simp [go_sem])
    have d1 : w1.cell? ⟨w.heap.size, 1, none⟩ = some (.int .i64 k) := cell_later hb1 (by simp [go_sem])
    have d2 : w1.cell? ⟨w.heap.size, 2, none⟩ = some (.int .i64 c) := cell_later hb1 (by simp [go_sem])
    have d3 : w1.cell? ⟨w.heap.size, 3, none⟩ = some (.string s) := cell_later hb1 (by simp [go_sem])
    have d4 : w1.cell? ⟨w.heap.size, 4, none⟩ = some (.int .i64 l) := cell_later hb1 (by simp [go_sem])
    have d5 : w1.cell? ⟨w.heap.size, 5, none⟩ = some (.int .i64 r) := cell_later hb1 (by simp [go_sem])
    have d6 : w1.cell? ⟨w.heap.size, 6, none⟩ = some (.int .i64 x) := cell_later hb1 (by simp [go_sem])
    have d7 : w1.cell? ⟨w.heap.size, 7, none⟩ = some (.int .i64 y) := cell_later hb1 (by simp [go_sem])
    have z1 : w.heap.size < w1.heap.size := by have := hb1.size; simp at this; omega
    have hb01 := (B1 _).trans (hb1.mono (B1 _).size)
    clear hb1
    go_wp2_with fail
    refine (HK.out _).mono ?_
    rintro e w2 ⟨rfl, hb2⟩
    replace d0 := cell_later hb2 d0
    replace d1 := cell_later hb2 d1
    replace d2 := cell_later hb2 d2
    replace d3 := cell_later hb2 d3
    replace d4 := cell_later hb2 d4
    replace d5 := cell_later hb2 d5
    replace d6 := cell_later hb2 d6
    replace d7 := cell_later hb2 d7
    have hb02 := hb01.trans (hb2.mono hb01.size)
    have z2 : w.heap.size < w2.heap.size := by have := hb2.size; omega
    clear hb2
    go_wp2_with fail
    refine (HN.out _ _ _ (one_rd _ _ _ _ _ _)).mono ?_
    rintro e w3 ⟨rfl, hb3⟩
    replace d0 : w3.cell? ⟨w.heap.size, 0, none⟩ = some (.int .i64 1) := cell_later hb3 (by simp [go_sem, d0, z2])
    replace d1 : w3.cell? ⟨w.heap.size, 1, none⟩ = some (.int .i64 k) := cell_later hb3 (by simp [go_sem, d1, z2])
    replace d2 : w3.cell? ⟨w.heap.size, 2, none⟩ = some (.int .i64 c) := cell_later hb3 (by simp [go_sem, d2, z2])
    replace d3 : w3.cell? ⟨w.heap.size, 3, none⟩ = some (.string s) := cell_later hb3 (by simp [go_sem, d3, z2])
    replace d4 : w3.cell? ⟨w.heap.size, 4, none⟩ = some (.int .i64 l) := cell_later hb3 (by simp [go_sem, d4, z2])
    replace d5 : w3.cell? ⟨w.heap.size, 5, none⟩ = some (.int .i64 r) := cell_later hb3 (by simp [go_sem, d5, z2])
    replace d6 : w3.cell? ⟨w.heap.size, 6, none⟩ = some (.int .i64 x) := cell_later hb3 (by simp [go_sem, d6, z2])
    replace d7 : w3.cell? ⟨w.heap.size, 7, none⟩ = some (.int .i64 y) := cell_later hb3 (by simp [go_sem, d7, z2])
    have hb03 := (hb02.alloc hb02.size _).trans (hb3.mono (hb02.alloc hb02.size _).size)
    clear hb3
    go_wp2
    go_ret
    exact ⟨rfl, hb03⟩
  by_cases hyn : n ≤ y
  · rw [if_pos (by omega)]
    go_enter Try.func187, Try.ntmps187
    go_wp2_with fail
    refine (HT.out _).mono ?_
    rintro e w1 ⟨rfl, hb1⟩
    have d0 : w1.cell? ⟨w.heap.size, 0, none⟩ = some (.int .i64 1) := cell_later hb1 (by simp [go_sem])
    have d1 : w1.cell? ⟨w.heap.size, 1, none⟩ = some (.int .i64 k) := cell_later hb1 (by simp [go_sem])
    have d2 : w1.cell? ⟨w.heap.size, 2, none⟩ = some (.int .i64 c) := cell_later hb1 (by simp [go_sem])
    have d3 : w1.cell? ⟨w.heap.size, 3, none⟩ = some (.string s) := cell_later hb1 (by simp [go_sem])
    have d4 : w1.cell? ⟨w.heap.size, 4, none⟩ = some (.int .i64 l) := cell_later hb1 (by simp [go_sem])
    have d5 : w1.cell? ⟨w.heap.size, 5, none⟩ = some (.int .i64 r) := cell_later hb1 (by simp [go_sem])
    have d6 : w1.cell? ⟨w.heap.size, 6, none⟩ = some (.int .i64 x) := cell_later hb1 (by simp [go_sem])
    have d7 : w1.cell? ⟨w.heap.size, 7, none⟩ = some (.int .i64 y) := cell_later hb1 (by simp [go_sem])
    have z1 : w.heap.size < w1.heap.size := by have := hb1.size; simp at this; omega
    have hb01 := (B1 _).trans (hb1.mono (B1 _).size)
    clear hb1
    go_wp2_with fail
    refine (HK.out _).mono ?_
    rintro e w2 ⟨rfl, hb2⟩
    replace d0 := cell_later hb2 d0
    replace d1 := cell_later hb2 d1
    replace d2 := cell_later hb2 d2
    replace d3 := cell_later hb2 d3
    replace d4 := cell_later hb2 d4
    replace d5 := cell_later hb2 d5
    replace d6 := cell_later hb2 d6
    replace d7 := cell_later hb2 d7
    have hb02 := hb01.trans (hb2.mono hb01.size)
    have z2 : w.heap.size < w2.heap.size := by have := hb2.size; omega
    clear hb2
    go_wp2_with fail
    refine (HN.out _ _ _ (one_rd _ _ _ _ _ _)).mono ?_
    rintro e w3 ⟨rfl, hb3⟩
    replace d0 : w3.cell? ⟨w.heap.size, 0, none⟩ = some (.int .i64 1) := cell_later hb3 (by simp [go_sem, d0, z2])
    replace d1 : w3.cell? ⟨w.heap.size, 1, none⟩ = some (.int .i64 k) := cell_later hb3 (by simp [go_sem, d1, z2])
    replace d2 : w3.cell? ⟨w.heap.size, 2, none⟩ = some (.int .i64 c) := cell_later hb3 (by simp [go_sem, d2, z2])
    replace d3 : w3.cell? ⟨w.heap.size, 3, none⟩ = some (.string s) := cell_later hb3 (by simp [go_sem, d3, z2])
    replace d4 : w3.cell? ⟨w.heap.size, 4, none⟩ = some (.int .i64 l) := cell_later hb3 (by simp [go_sem, d4, z2])
    replace d5 : w3.cell? ⟨w.heap.size, 5, none⟩ = some (.int .i64 r) := cell_later hb3 (by simp [go_sem, d5, z2])
    replace d6 : w3.cell? ⟨w.heap.size, 6, none⟩ = some (.int .i64 x) := cell_later hb3 (by simp [go_sem, d6, z2])
    replace d7 : w3.cell? ⟨w.heap.size, 7, none⟩ = some (.int .i64 y) := cell_later hb3 (by simp [go_sem, d7, z2])
    have hb03 := (hb02.alloc hb02.size _).trans (hb3.mono (hb02.alloc hb02.size _).size)
    clear hb3
    go_wp2
    go_ret
    exact ⟨rfl, hb03⟩
  rw [if_neg (by omega)]
  go_enter Try.func187, Try.ntmps187
  go_wp2_with fail
  refine (HT.out _).mono ?_
  rintro e w1 ⟨rfl, hb1⟩
  have d0 : w1.cell? ⟨w.heap.size, 0, none⟩ = some (.int .i64 1) := cell_later hb1 (by simp [go_sem])
  have d1 : w1.cell? ⟨w.heap.size, 1, none⟩ = some (.int .i64 k) := cell_later hb1 (by simp [go_sem])
  have d2 : w1.cell? ⟨w.heap.size, 2, none⟩ = some (.int .i64 c) := cell_later hb1 (by simp [go_sem])
  have d3 : w1.cell? ⟨w.heap.size, 3, none⟩ = some (.string s) := cell_later hb1 (by simp [go_sem])
  have d4 : w1.cell? ⟨w.heap.size, 4, none⟩ = some (.int .i64 l) := cell_later hb1 (by simp [go_sem])
  have d5 : w1.cell? ⟨w.heap.size, 5, none⟩ = some (.int .i64 r) := cell_later hb1 (by simp [go_sem])
  have d6 : w1.cell? ⟨w.heap.size, 6, none⟩ = some (.int .i64 x) := cell_later hb1 (by simp [go_sem])
  have d7 : w1.cell? ⟨w.heap.size, 7, none⟩ = some (.int .i64 y) := cell_later hb1 (by simp [go_sem])
  have z1 : w.heap.size < w1.heap.size := by have := hb1.size; simp at this; omega
  have hb01 := (B1 _).trans (hb1.mono (B1 _).size)
  clear hb1
  go_wp2_with fail
  refine (HK.out _).mono ?_
  rintro e w2 ⟨rfl, hb2⟩
  replace d0 := cell_later hb2 d0
  replace d1 := cell_later hb2 d1
  replace d2 := cell_later hb2 d2
  replace d3 := cell_later hb2 d3
  replace d4 := cell_later hb2 d4
  replace d5 := cell_later hb2 d5
  replace d6 := cell_later hb2 d6
  replace d7 := cell_later hb2 d7
  have hb02 := hb01.trans (hb2.mono hb01.size)
  have z2 : w.heap.size < w2.heap.size := by have := hb2.size; omega
  clear hb2
  go_wp2_with fail
  refine (HN.out _ _ _ (one_rd _ _ _ _ _ _)).mono ?_
  rintro e w3 ⟨rfl, hb3⟩
  replace d0 : w3.cell? ⟨w.heap.size, 0, none⟩ = some (.int .i64 1) := cell_later hb3 (by simp [go_sem, d0, z2])
  replace d1 : w3.cell? ⟨w.heap.size, 1, none⟩ = some (.int .i64 k) := cell_later hb3 (by simp [go_sem, d1, z2])
  replace d2 : w3.cell? ⟨w.heap.size, 2, none⟩ = some (.int .i64 c) := cell_later hb3 (by simp [go_sem, d2, z2])
  replace d3 : w3.cell? ⟨w.heap.size, 3, none⟩ = some (.string s) := cell_later hb3 (by simp [go_sem, d3, z2])
  replace d4 : w3.cell? ⟨w.heap.size, 4, none⟩ = some (.int .i64 l) := cell_later hb3 (by simp [go_sem, d4, z2])
  replace d5 : w3.cell? ⟨w.heap.size, 5, none⟩ = some (.int .i64 r) := cell_later hb3 (by simp [go_sem, d5, z2])
  replace d6 : w3.cell? ⟨w.heap.size, 6, none⟩ = some (.int .i64 x) := cell_later hb3 (by simp [go_sem, d6, z2])
  replace d7 : w3.cell? ⟨w.heap.size, 7, none⟩ = some (.int .i64 y) := cell_later hb3 (by simp [go_sem, d7, z2])
  have hb03 := (hb02.alloc hb02.size _).trans (hb3.mono (hb02.alloc hb02.size _).size)
  clear hb3
  go_wp2
  go_ret
  exact ⟨rfl, hb03⟩

set_option maxHeartbeats 1600000 in
theorem implProgFault_any (a : Option Addr) (n ca : Nat) (cs : List In) (w : World) (ha : RdR inE 8 w a n cs) (hs : inSum cs ≤ 1048576) (h1 : n ≤ 1048576) :
    Calls Try.prog 109 #[.slice a n ca] w fun e w' => e = .returned (.int .i64 (progFault cs)) ∧ Below w.heap.size w w' := by
  have hlen := ha.1
  by_cases h0 : n < 1
  · have e : progFault cs = 2 := by unfold progFault; rw [if_pos (by omega)]
    rw [e]
    have h0' : (n : Int) < 1 := by omega
    go_enter Try.func109, Try.ntmps109
    go_wp2
    go_ret
    exact ⟨rfl, Below.refl _ _⟩
  have h0' : ¬ (n : Int) < 1 := by omega
  by_cases h80 : 80 < n
  · have e : progFault cs = 2 := by unfold progFault; rw [if_pos (by omega)]
    rw [e]
    have h80' : (80 : Int) < (n : Int) := by omega
    go_enter Try.func109, Try.ntmps109
    go_wp2
    go_ret
    exact ⟨rfl, Below.refl _ _⟩
  have h80' : ¬ (80 : Int) < (n : Int) := by omega
  obtain ⟨R, hR⟩ : ∃ R, R = progFault cs := ⟨_, rfl⟩
  rw [← hR]
  have HT0 : progGo n (cs.drop 0) = R := by rw [hR]; unfold progFault; rw [if_neg (by omega), hlen]; rfl
  have HT : Hid (progGo n (cs.drop 0) = R) := HT0
  clear HT0
  have HL : Hid _ := hlen
  have HS : Hid _ := hs
  clear hR hlen hs
  go_enter Try.func109, Try.ntmps109
  go_wp2
  go_loopw [16] (fun i wr => ∃ k : Nat, k ≤ n ∧ i = .int .i64 k ∧ Hid (progGo n (cs.drop k) = R) ∧ Below w.heap.size w wr) (fun i _ => n - (intOf i).toNat)
  case atStart => exact ⟨0, Nat.zero_le _, rfl, HT, Below.refl _ _⟩
  case round =>
    obtain ⟨k, hk, rfl, ht, hbw⟩ := hrel
    clear HT
    by_cases hlt : k < n
    · obtain ⟨b1, o1, i, rfl, hx, hc1⟩ := (ha.below hbw).at hlt
      obtain ⟨c0, c1, c2, c3, c4, c5, c6, c7⟩ := eight hc1
      have hsz := inSum_at (List.mem_of_getElem? hx)
      have hss := HS.out
      have CA : Hid _ := fun w' => faultAmong_any i n w' (by omega)
      have ht2 := ht.out
      rw [progGo_at hx] at ht2
      clear hx hc1 hsz hss ht
      have hB1 : ∀ o, Below w.heap.size w (wr.alloc o) := fun o => hbw.alloc hbw.size o
      have hlt' : (k : Int) < (n : Int) := by omega
      generalize instF n i = F at CA ht2
      obtain ⟨o, k', c, s, l, r, x, y⟩ := i
      simp only at c0 c1 c2 c3 c4 c5 c6 c7 CA
      by_cases hF : F = 0
      · subst hF
        rw [if_pos rfl] at ht2
        have HT2 : Hid _ := ht2
        clear ht2
        go_wp2_with fail
        refine (CA.out _).mono ?_
        rintro e w2 ⟨rfl, hb2⟩
        go_wp2
        go_roundw
        case rel => exact ⟨k + 1, by omega, by go_num, HT2, (hB1 _).trans (hb2.mono (hB1 _).size)⟩
        case measure => simp [intOf]; omega
      · rw [if_neg hF] at ht2
        subst ht2
        have hF' : (F == 0) = false := by simpa using hF
        go_wp2_with fail
        refine (CA.out _).mono ?_
        rintro e w2 ⟨rfl, hb2⟩
        go_wp2
        go_ret
        exact ⟨rfl, (hB1 _).trans (hb2.mono (hB1 _).size)⟩
    · have ht2 := ht.out
      rw [progGo_end (by rw [HL.out]; omega)] at ht2
      subst ht2
      go_wp2
      go_ret
      exact ⟨rfl, hbw⟩

set_option maxHeartbeats 1600000 in
theorem implSetFault_any (a : Option Addr) (n ca : Nat) (cs : List In) (b : Option Addr) (m cb : Nat) (xs : List Int) (w : World) (ha : RdR inE 8 w a n cs) (hb : Rd .i64 w b m xs) (hs : inSum cs ≤ 1048576) (h1 : n ≤ 1048576) (h2 : m ≤ 1048576) :
    Calls Try.prog 35 #[.slice a n ca, .slice b m cb] w fun e w' => e = .returned (.int .i64 (setFault cs xs)) ∧ Below w.heap.size w w' := by
  have CP := fun w' h' => implProgFault_any a n ca cs w' h' hs h1
  have hlen := ha.1
  have hlenx := hb.1
  by_cases hp : progFault cs = 0
  case neg =>
    have e : setFault cs xs = progFault cs := by unfold setFault; rw [if_pos hp]
    rw [e]
    generalize progFault cs = P at *
    have hp' : (P == 0) = false := by simpa using hp
    have HP : Hid _ := CP
    clear CP hlen hlenx
    go_enter Try.func35, Try.ntmps35
    go_wp2_with fail
    refine (HP.out _ ha).mono ?_
    rintro e w1 ⟨rfl, hb1⟩
    go_wp2
    go_ret
    exact ⟨rfl, hb1⟩
  have hn80 := (progFault_ok hp).2.1
  rw [hp] at CP
  by_cases hm80 : 80 < m
  · have e : setFault cs xs = 2 := by unfold setFault; rw [if_neg (by simp [hp]), if_pos (by omega)]
    rw [e]
    have HP : Hid _ := CP
    clear CP hlen hlenx hp
    have hm80' : (80 : Int) < (m : Int) := by omega
    go_enter Try.func35, Try.ntmps35
    go_wp2_with fail
    refine (HP.out _ ha).mono ?_
    rintro e w1 ⟨rfl, hb1⟩
    go_wp2
    go_ret
    exact ⟨rfl, hb1⟩
  have hm80' : ¬ (80 : Int) < (m : Int) := by omega
  obtain ⟨R, hR⟩ : ∃ R, R = setFault cs xs := ⟨_, rfl⟩
  rw [← hR]
  have HT0 : setGo n (-1) (xs.drop 0) = R := by rw [hR]; unfold setFault; rw [if_neg (by simp [hp]), if_neg (by omega), hlen]; rfl
  have HT : Hid (setGo n (-1) (xs.drop 0) = R) := HT0
  clear HT0
  have HP : Hid _ := CP
  have HL : Hid _ := hlen
  have HX : Hid _ := hlenx
  clear hR hlen hlenx hp CP
  go_enter Try.func35, Try.ntmps35
  go_wp2_with fail
  refine (HP.out _ ha).mono ?_
  rintro e w1 ⟨rfl, hb1⟩
  replace hb := hb.below hb1
  go_wp2
  go_loopw [6, 19] (fun p i wr => ∃ (k : Nat) (P : Int), k ≤ m ∧ i = .int .i64 k ∧ p = .int .i64 P ∧ Hid (setGo n P (xs.drop k) = R) ∧ Below w1.heap.size w1 wr) (fun _ i _ => m - (intOf i).toNat)
  case atStart => exact ⟨0, -1, Nat.zero_le _, rfl, rfl, HT, Below.refl _ _⟩
  case round =>
    obtain ⟨k, P, hk, rfl, rfl, ht, hbw⟩ := hrel
    clear HT
    by_cases hlt : k < m
    · obtain ⟨b1, o1, rfl, hc1⟩ := (hb.below hbw).at hlt
      have ck := hc1 k hlt
      have ht2 := ht.out
      rw [setGo_at (by rw [HX.out]; exact hlt)] at ht2
      clear hc1 ht
      have hlt' : (k : Int) < (m : Int) := by omega
      generalize xs.getD k 0 = X at ck ht2
      by_cases hle : X ≤ P
      · rw [if_pos (.inl hle)] at ht2
        subst ht2
        go_wp2
        go_ret
        exact ⟨rfl, hb1.trans (hbw.mono hb1.size)⟩
      · by_cases hge : (n : Int) ≤ X
        · rw [if_pos (.inr hge)] at ht2
          subst ht2
          go_wp2
          go_ret
          exact ⟨rfl, hb1.trans (hbw.mono hb1.size)⟩
        · rw [if_neg (by omega)] at ht2
          have HT2 : Hid _ := ht2
          clear ht2
          go_wp2
          go_roundw
          case rel => exact ⟨k + 1, X, by omega, by go_num, rfl, HT2, hbw⟩
          case measure => simp [intOf]; omega
    · have ht2 := ht.out
      rw [setGo_end (by rw [HX.out]; omega)] at ht2
      subst ht2
      go_wp2
      go_ret
      exact ⟨rfl, hb1.trans (hbw.mono hb1.size)⟩
end Go.Proofs.Ytocophekfbhfbaa

namespace Go.Proofs.Ytocophekfbhfbaa
open Go.RowKit
set_option linter.unusedVariables false
set_option linter.unusedSimpArgs false

/-- The program's set at a place, ahead of its closing. -/
def preI (is : List In) (text : List Int) : Nat → List Bool
  | 0 => List.replicate 80 false
  | k + 1 => stepI is (text.getD k 0) (placesTo (usI is text k) is.length)
theorem preI_len (is : List In) (text : List Int) (k : Nat) : (preI is text k).length = 80 := by
  cases k with
  | zero => simp [preI]
  | succ k => exact stepI_len _ _ _
theorem usI_pre (is : List In) (text : List Int) (k : Nat) : usI is text k = closeI is (decide (k = 0)) (decide (k = text.length)) (placesOf ((preI is text k).set 0 true)) := by
  cases k with
  | zero => rfl
  | succ k => rw [usI, preI, show decide (k + 1 = 0) = false by simp]
theorem preI_below {is : List In} {text : List Int} (hin : Inside is) (h1 : 1 ≤ is.length) (h80 : is.length ≤ 80) (k : Nat) : BelowN ((preI is text k).set 0 true) is.length := by
  cases k with
  | zero =>
    intro q hq
    rcases getD_set_true hq with rfl | h
    · omega
    · rw [preI, rep_false] at h; cases h
  | succ k => exact (usI_len (text := text) hin h1 h80 k).2.2 false _

theorem bytes_at9 {xs : List Int} {k : Nat} (h : Bytes xs) (hk : k < xs.length) : 0 ≤ xs.getD k 0 ∧ xs.getD k 0 < 256 := by
  have hm : xs.getD k 0 ∈ xs := by
    rw [List.getD_eq_getElem?_getD, List.getElem?_eq_getElem hk, Option.getD_some]
    exact List.getElem_mem hk
  have := h _ hm
  omega

set_option maxHeartbeats 6400000 in
set_option maxRecDepth 20000 in
theorem isDoneIn_any (a : Option Addr) (n ca : Nat) (is : List In) (x : Option Addr) (m cx : Nat) (xs : List Int) (hin : Inside is) (h1 : 1 ≤ n) (h2 : n ≤ 80) (hm : m ≤ 400) (hB : Bytes xs) (w : World) (ha : RdR inE 8 w a n is) (hx : Rd .u8 w x m xs) :
    Calls Try.prog 138 #[.slice a n ca, .slice x m cx] w fun r w' => r = .returned (.bool (hasV is xs)) ∧ Below w.heap.size w w' := by
  obtain ⟨R, hR⟩ : ∃ R, R = hasV is xs := ⟨_, rfl⟩
  rw [← hR]
  have hln := ha.1
  have hlx := hx.1
  have HYES : Hid (∀ k, k ≤ m → doneL is (placesTo (usI is xs k) n) = true → R = true) := hid (fun k hk h => by rw [hR]; exact usI_yes hin (by omega) (by omega) (i := k) (by omega) (by rw [hln]; exact h))
  have HNO : Hid ((∀ k, k ≤ m → doneL is (placesTo (usI is xs k) n) = false) → R = false) := hid (fun h => by rw [hR]; exact usI_no hin (by omega) (by omega) (fun k hk => by rw [hln]; exact h k (by omega)))
  have HBY : Hid _ := hid hB
  have HLN : Hid _ := hid hln
  have HLX : Hid _ := hid hlx
  obtain ⟨Z, hZ⟩ : ∃ Z, Z = boolsA (List.replicate 80 false) := ⟨_, rfl⟩
  have hzv := zero80
  rw [← hZ] at hzv
  have HZS : Hid (Z.size = 80) := by rw [hZ]; exact size_set80 (by simp)
  have HZ : Hid _ := hid hZ
  clear hR hB hln hlx hZ
  obtain ⟨B, hBB⟩ : ∃ B, B = w.heap.size := ⟨_, rfl⟩
  go_enter Try.func138, Try.ntmps138
  go_wp2
  go_loopw [7] (fun i wr => ∃ k : Nat, k ≤ m ∧ i = .int .i64 k ∧ Hid (Blk wr B (boolsA (preI is xs k)) 157) ∧ Below w.heap.size w wr ∧ Hid (∀ j, j < k → doneL is (placesTo (usI is xs j) n) = false)) (fun i _ => m + 1 - (intOf i).toNat)
  case atStart =>
    refine ⟨0, Nat.zero_le _, rfl, ?_, (Below.refl _ _).alloc (Nat.le_refl _) _, hid (fun j hj => absurd hj (Nat.not_lt_zero _))⟩
    rw [hBB, HZ.out]
    exact hid (Blk.new w _ _)
  case round =>
    obtain ⟨k, hk, rfl, HBk, hbw, HND⟩ := hrel
    simp only [← hBB]
    have hBw : B ≤ w.heap.size := by omega
    have hBw2 : w.heap.size ≤ B := by omega
    clear hBB
    have hpl := preI_len is xs k
    have hpb := preI_below (text := xs) hin (by have := HLN.out; omega) (by have := HLN.out; omega) k
    rw [HLN.out] at hpb
    have c0 := HBk.out.cell 0
    rw [boolsA_at _ 0 (by omega)] at c0
    have cf0 := HBk.out.frozen 0
    have hix : ∀ w', (Instr.indexAt 157 (.pointer (some ⟨B, 0, none⟩)) (.int .i64 0)).run Try.prog w' = .ok (.pointer (some ⟨B, 0, none⟩)) w' := fun w' => indexAt80 B 0 (by omega) w'
    have HB1 : Hid (Blk (wr.setCell ⟨B, 0, none⟩ (.bool true)) B (boolsA ((preI is xs k).set 0 true)) 157) := hid (HBk.out.mark 0 true)
    have HW1 : Hid (Below w.heap.size w (wr.setCell ⟨B, 0, none⟩ (.bool true))) := hid (hbw.setCell (by show w.heap.size ≤ B; omega) _)
    obtain ⟨B0, hB0⟩ : ∃ B, B = decide (k = 0) := ⟨_, rfl⟩
    obtain ⟨E0, hE0⟩ : ∃ E, E = decide (k = xs.length) := ⟨_, rfl⟩
    have hus := usI_pre is xs k
    rw [← hB0, ← hE0] at hus
    have hB1 : ((k : Int) == 0) = B0 := by rw [hB0, Bool.eq_iff_iff]; simp
    have hB2 : decide ((k : Int) = 0) = B0 := by rw [hB0, decide_eq_decide]; omega
    have hE1 : ((k : Int) == (m : Int)) = E0 := by rw [hE0, Bool.eq_iff_iff]; simp only [beq_iff_eq, decide_eq_true_eq]; have := HLX.out; omega
    have hE2 : decide ((k : Int) = (m : Int)) = E0 := by rw [hE0, decide_eq_decide]; have := HLX.out; omega
    have hul := (usI_len (text := xs) hin (by have := HLN.out; omega) (by have := HLN.out; omega) k).1
    have HC0 := hid (fun w' h' => closed_any a n ca is B0 E0 hin h2 ((preI is xs k).set 0 true) w' (by rw [List.length_set]; exact hpl) hpb h')
    rw [← hus] at HC0
    have HDN := hid (fun w' h' => isDone_any a n ca is h2 (usI is xs k) w' hul h')
    obtain ⟨D, hD⟩ : ∃ D, D = doneL is (placesTo (usI is xs k) n) := ⟨_, rfl⟩
    rw [← hD] at HDN
    have HD := hid hD
    obtain ⟨A1, hA1⟩ : ∃ q, q = boolsA ((preI is xs k).set 0 true) := ⟨_, rfl⟩
    have HS1 : Hid (A1.size = 80) := by rw [hA1]; exact size_set80 (by rw [List.length_set]; exact hpl)
    rw [← hA1] at HB1 HC0
    obtain ⟨A2, hA2⟩ : ∃ q, q = boolsA (usI is xs k) := ⟨_, rfl⟩
    have HS2 : Hid (A2.size = 80) := by rw [hA2]; exact size_set80 hul
    have HO2 : Hid (A2.all (·.oneCell') = true) := by rw [hA2]; exact boolsA_one _
    rw [← hA2] at HC0 HDN
    have HA2 := hid hA2
    have HUL := hid hul
    have HEK : Hid (E0 = true ↔ k = m) := hid (by rw [hE0, decide_eq_true_eq]; have := HLX.out; omega)
    clear hpl hpb hB0 hE0 hus hul hD hA1 hA2
    go_wp2_with (first | ((with_reducible show wpList _ _ _ (({ dst := _, op := .load 157 _, type := _, pos := _, after := _, guard := _ } : Oper) :: _) _ _); refine wpList_load_row rfl 157 _ rfl _ rfl 157 (A1) (0, 0) _ HB1.out under80 rfl (size80 HS1.out) ?_) | ((with_reducible show wpList _ _ _ (({ dst := _, op := .store 157 _ _, type := _, pos := _, after := _, guard := _ } : Oper) :: _) _ _); refine wpList_store_row rfl 157 _ _ rfl _ (A1) rfl rfl 157 (A1) HB1.out (size80 HS1.out) (HS1.out.trans HS1.out.symm) HO2.out ?_))
    refine (HC0.out _ (ha.below HW1.out)).mono ?_
    rintro r w3 ⟨rfl, hb3⟩
    have HB3 : Hid (Blk w3 B A1 157) := hid (HB1.out.below hb3)
    have HW3 := hid (HW1.out.trans (hb3.mono HW1.out.size))
    have HW4 : Hid (Below w.heap.size w (w3.setRow B A2)) := hid (below_setRow HW3.out (by omega) _)
    have HB4 : Hid (Blk (w3.setRow B A2) B A2 157) := hid (HB3.out.setRow A2)
    clear hb3
    clear c0 cf0 hix
    go_wp2_with (first | ((with_reducible show wpList _ _ _ (({ dst := _, op := .load 157 _, type := _, pos := _, after := _, guard := _ } : Oper) :: _) _ _); refine wpList_load_row rfl 157 _ rfl _ rfl 157 (A2) (0, 0) _ HB4.out under80 rfl (size80 HS2.out) ?_) | ((with_reducible show wpList _ _ _ (({ dst := _, op := .store 157 _ _, type := _, pos := _, after := _, guard := _ } : Oper) :: _) _ _); refine wpList_store_row rfl 157 _ _ rfl _ (A2) rfl rfl 157 (A1) HB3.out (size80 HS2.out) (HS1.out.trans HS2.out.symm) HO2.out ?_))
    refine (HDN.out _ (ha.below HW4.out)).mono ?_
    rintro r w5 ⟨rfl, hb5⟩
    have HB5 : Hid (Blk w5 B A2 157) := hid (HB4.out.below hb5)
    have HW5 := hid (HW4.out.trans (hb5.mono HW4.out.size))
    clear hb5
    cases D
    case true =>
      go_wp2
      go_ret
      exact ⟨ret_bool (HYES.out k hk HD.out.symm).symm, HW5.out⟩
    have HND2 : Hid (∀ j, j < k + 1 → doneL is (placesTo (usI is xs j) n) = false) := hid (fun j hj => by
      by_cases e : j = k
      · subst e; exact HD.out.symm
      · exact HND.out j (by omega))
    cases E0
    case true =>
      go_wp2
      go_ret
      exact ⟨ret_bool (HNO.out (fun j hj => HND2.out j (by have := HEK.out.1 (by simp); omega))).symm, HW5.out⟩
    have hkm : k < m := by
      by_cases e : k = m
      · have := HEK.out.2 e; cases this
      · omega
    have hkmi : (k : Int) < (m : Int) := by omega
    obtain ⟨bx, ox, rfl, hcx⟩ := (hx.below HW5.out).at hkm
    have ck := hcx k hkm
    have hdd := bytes_at9 HBY.out (show k < xs.length by have := HLX.out; omega)
    have HST := hid (fun w' h' => stepped_any a n ca is hin (xs.getD k 0) hdd.1 hdd.2 h2 (usI is xs k) w' HUL.out h')
    have hpre : preI is xs (k + 1) = stepI is (xs.getD k 0) (placesTo (usI is xs k) n) := by rw [preI, HLN.out]
    rw [← hpre, ← HA2.out] at HST
    obtain ⟨A6, hA6⟩ : ∃ q, q = boolsA (preI is xs (k + 1)) := ⟨_, rfl⟩
    have HS6 : Hid (A6.size = 80) := by rw [hA6]; exact size_set80 (preI_len _ _ _)
    have HO6 : Hid (A6.all (·.oneCell') = true) := by rw [hA6]; exact boolsA_one _
    rw [← hA6] at HST
    have HA6 := hid hA6
    generalize xs.getD k 0 = d at ck HST
    have hwr : IntKind.i64.wrap ((k : Int) + 1) = (k : Int) + 1 := by rw [IntKind.wrap_i64]; omega
    have hbxw : bx < w.heap.size := block_lt_of_cell ((hx.at hkm).choose_spec.choose_spec.2 k hkm |> fun h => by obtain ⟨b', o', e', h'⟩ := hx.at hkm; simp only [Option.some.injEq, Addr.mk.injEq] at e'; obtain ⟨rfl, rfl, -⟩ := e'; exact h' k hkm)
    clear hcx hdd hpre hA6
    go_wp2
    · refine wp_region_held_drew (S := fun w' => (∃ u, Blk w' B u 157) ∧ w'.cell? ⟨bx, ox + k, none⟩ = some (.int .u8 d)) (by kernel_rfl) (by exact ⟨⟨A2, HB5.out⟩, ck⟩) (fun hS => ?_)
      refine wpAnyH_take (i := 1) (v := (.slice a n ca)) rfl (by as_aux_lemma => kernel_rfl) (by as_aux_lemma => kernel_rfl) (by as_aux_lemma => kernel_rfl) (fun _ _ _ h => h) (Or.inl ⟨by kernel_rfl, ?_⟩) hS ?_
      · intro w hSw; (try dsimp only at hSw); go_simp
      (try simp only [Act.put, List.getElem_toArray, List.getElem_cons_zero, List.getElem_cons_succ, List.setIfInBounds_toArray, List.set_cons_zero, List.set_cons_succ])
      refine wpAnyH_take (i := 2) (v := (.slice (some ⟨bx, ox, none⟩) m cx)) rfl (by as_aux_lemma => kernel_rfl) (by as_aux_lemma => kernel_rfl) (by as_aux_lemma => kernel_rfl) (fun _ _ _ h => h) (Or.inl ⟨by kernel_rfl, ?_⟩) hS ?_
      · intro w hSw; (try dsimp only at hSw); go_simp
      (try simp only [Act.put, List.getElem_toArray, List.getElem_cons_zero, List.getElem_cons_succ, List.setIfInBounds_toArray, List.set_cons_zero, List.set_cons_succ])
      refine wpAnyH_take (i := 3) (v := (.int .i64 (k : Int))) rfl (by as_aux_lemma => kernel_rfl) (by as_aux_lemma => kernel_rfl) (by as_aux_lemma => kernel_rfl) (fun _ _ _ h => h) (Or.inl ⟨by kernel_rfl, ?_⟩) hS ?_
      · intro w hSw; (try dsimp only at hSw); go_simp
      (try simp only [Act.put, List.getElem_toArray, List.getElem_cons_zero, List.getElem_cons_succ, List.setIfInBounds_toArray, List.set_cons_zero, List.set_cons_succ])
      refine wpAnyH_take (i := 4) (v := (.pointer (some ⟨bx, ox + k, none⟩))) rfl (by as_aux_lemma => kernel_rfl) (by as_aux_lemma => kernel_rfl) (by as_aux_lemma => kernel_rfl) (fun _ _ _ h => h) (Or.inl ⟨by kernel_rfl, ?_⟩) hS ?_
      · intro w hSw; (try dsimp only at hSw); go_simp
      (try simp only [Act.put, List.getElem_toArray, List.getElem_cons_zero, List.getElem_cons_succ, List.setIfInBounds_toArray, List.set_cons_zero, List.set_cons_succ])
      refine wpAnyH_take (i := 5) (v := (.int .u8 d)) rfl (by as_aux_lemma => kernel_rfl) (by as_aux_lemma => kernel_rfl) (by as_aux_lemma => kernel_rfl) (fun _ _ _ h => h) (Or.inl ⟨by kernel_rfl, ?_⟩) hS ?_
      · intro w hSw; (try dsimp only at hSw); go_simp
      (try simp only [Act.put, List.getElem_toArray, List.getElem_cons_zero, List.getElem_cons_succ, List.setIfInBounds_toArray, List.set_cons_zero, List.set_cons_succ])
      refine wpAnyH_ready (rs := [0]) (by as_aux_lemma => kernel_rfl) (by simp) ?_
      refine AllReadyH.cons rfl (fun K hK => ?_) AllReadyH.nil
      refine wp_load_row 157 _ rfl B rfl 157 A2 (0, 0) _ (show Blk w5.drew B A2 157 from HB5.out) under80 rfl (size80 HS2.out) ?_
      refine hK.out _ _ hS (fun hS => ?_)
      clear hK K
      (try simp only [Act.put, List.getElem_toArray, List.getElem_cons_zero, List.getElem_cons_succ, List.setIfInBounds_toArray, List.set_cons_zero, List.set_cons_succ])
      refine wpAnyH_ready (rs := [6]) (by as_aux_lemma => kernel_rfl) (by simp) ?_
      refine AllReadyH.cons rfl (fun K hK => ?_) AllReadyH.nil
      go_simp
      refine (HST.out _ (ha.below HW5.out.drew)).mono ?_
      rintro r6 w6 ⟨rfl, hb6⟩
      have HB6 : Hid (Blk w6 B A2 157) := hid ((show Blk w5.drew B A2 157 from HB5.out).below hb6)
      refine hK.out _ _ ⟨⟨A2, HB6.out⟩, cell_later hb6 hS.2⟩ (fun hS5 => ?_)
      clear hK K hS
      have hS := hS5
      clear hS5
      have hbw6 := HW5.out.drew.trans (hb6.mono HW5.out.size)
      clear hb6
      (try simp only [Act.put, List.getElem_toArray, List.getElem_cons_zero, List.getElem_cons_succ, List.setIfInBounds_toArray, List.set_cons_zero, List.set_cons_succ])
      refine wpAnyH_ready (rs := [7]) (by as_aux_lemma => kernel_rfl) (by simp) ?_
      refine AllReadyH.cons rfl (fun K hK => ?_) AllReadyH.nil
      refine wp_store_row 157 _ _ rfl B A6 rfl rfl 157 A2 HB6.out (size80 HS6.out) (HS2.out.trans HS6.out.symm) HO6.out ?_
      have ck6 : (w6.setRow B A6).cell? ⟨bx, ox + k, none⟩ = some (.int .u8 d) := (World.cell?_of_block (setRow_other w6 B bx A6 (by omega))).trans hS.2
      refine hK.out _ _ ⟨⟨A6, HB6.out.setRow A6⟩, ck6⟩ (fun hS7 => ?_)
      clear hK K hS
      have hS := hS7
      clear hS7
      (try simp only [Act.put, List.getElem_toArray, List.getElem_cons_zero, List.getElem_cons_succ, List.setIfInBounds_toArray, List.set_cons_zero, List.set_cons_succ])
      refine wpAnyH_done (by kernel_rfl) ?_ _
      have hb7 : Below w.heap.size w (w6.setRow B A6) := below_setRow hbw6 (by omega) _
      have HB7 : Hid (Blk (w6.setRow B A6) B (boolsA (preI is xs (k + 1))) 157) := by rw [← HA6.out]; exact hid (HB6.out.setRow A6)
      clear hS hbw6 ck ck6
      go_wp2
      go_roundw
      case rel => exact ⟨k + 1, by omega, by go_num, HB7, (by first | exact hb7 | exact hb7.mono (by omega)), HND2⟩
      case measure => simp [intOf]; omega

set_option maxHeartbeats 1600000 in
theorem implLineHas_any (a : Option Addr) (n ca : Nat) (is : List In) (x : Option Addr) (m cx : Nat) (xs : List Int) (hB : Bytes xs) (w : World) (ha : RdR inE 8 w a n is) (hx : Rd .u8 w x m xs) (hs : inSum is ≤ 1048576) (h1 : n ≤ 1048576) (h2 : m ≤ 1048576) :
    Calls Try.prog 61 #[.slice a n ca, .slice x m cx] w fun r w' => r = .returned (.bool (lineHas is xs)) ∧ Below w.heap.size w w' := by
  have HP := hid (fun w' h' => implProgFault_any a n ca is w' h' hs h1)
  have hlx := hx.1
  obtain ⟨R, hR⟩ : ∃ R, R = lineHas is xs := ⟨_, rfl⟩
  rw [← hR]
  unfold lineHas at hR
  by_cases hp : progFault is = 0
  case neg =>
    have hr : R = false := by rw [hR]; simp [hp]
    subst hr
    generalize progFault is = P at *
    have hp' : (P == 0) = false := by simpa using hp
    have hp'' : decide (P = 0) = false := by simpa using hp
    clear hR hlx hp
    go_enter Try.func61, Try.ntmps61
    go_wp2_with fail
    refine Calls.mono (HP.out _ ha) ?_
    rintro r w1 ⟨rfl, hb1⟩
    go_wp2
    go_ret
    exact ⟨rfl, hb1⟩
  have hpo := progFault_ok hp
  have hin := inside_of hp
  rw [hp] at HP
  by_cases h4 : m ≤ 400
  case neg =>
    have hr : R = false := by rw [hR]; simp; intro _ h; omega
    subst hr
    have h4' : ¬ (m : Int) ≤ 400 := by omega
    clear hR hlx hp hpo hin
    go_enter Try.func61, Try.ntmps61
    go_wp2_with fail
    refine Calls.mono (HP.out _ ha) ?_
    rintro r w1 ⟨rfl, hb1⟩
    go_wp2
    go_ret
    exact ⟨rfl, hb1⟩
  have hr : R = hasV is xs := by rw [hR, hp]; simp; intro _; omega
  have HD := hid (fun w' h' k' => isDoneIn_any a n ca is x m cx xs hin (by have := ha.1; omega) (by have := ha.1; omega) h4 hB w' h' k')
  rw [← hr] at HD
  have h4' : (m : Int) ≤ 400 := by omega
  clear hR hlx hp hpo hin hr hB
  go_enter Try.func61, Try.ntmps61
  go_wp2_with fail
  refine Calls.mono (HP.out _ ha) ?_
  rintro r w1 ⟨rfl, hb1⟩
  go_wp2_with fail
  refine Calls.mono (HD.out _ (ha.below hb1) (hx.below hb1)) ?_
  rintro r w2 ⟨rfl, hb2⟩
  have hb := hb1.trans (hb2.mono hb1.size)
  clear hb1 hb2
  go_wp2
  go_ret
  exact ⟨rfl, hb⟩
end Go.Proofs.Ytocophekfbhfbaa

namespace Go.Proofs.Ytocophekfbhfbaa
open Go.RowKit Go.Shelf
set_option linter.unusedVariables false
attribute [local go_sem] Oper.semAt_some

theorem byte_ten (x : Int) (h0 : 0 ≤ x) (h1 : x ≤ 255) : (UInt8.ofNat x.toNat == (10 : Int).toNat.toUInt8) = (x == 10) := by
  obtain ⟨n, rfl⟩ : ∃ n : Nat, x = (n : Int) := ⟨x.toNat, by omega⟩
  have hn : n < 256 := by omega
  rw [Bool.eq_iff_iff]
  simp only [Int.toNat_natCast, beq_iff_eq]
  constructor
  · intro h
    have := congrArg UInt8.toNat h
    simp [UInt8.toNat_ofNat, Nat.mod_eq_of_lt hn] at this
    omega
  · intro h
    have : n = 10 := by omega
    subst this
    rfl

/-- What IndexByte tells of a line feed. -/
theorem indexByte_ten : ∀ (xs : List Int), Bytes xs → Lib.indexByte (Lib.bytesOf xs) (10 : Int).toNat.toUInt8 = if lnSize xs < xs.length then (lnSize xs : Int) else -1
  | [], _ => by simp [Lib.bytesOf, Lib.indexByte, lnSize]
  | x :: xs, h => by
    have hx := h x (by simp)
    have ih := indexByte_ten xs (fun y hy => h y (by simp [hy]))
    have e : Lib.bytesOf (x :: xs) = UInt8.ofNat x.toNat :: Lib.bytesOf xs := rfl
    rw [e, Lib.indexByte, byte_ten x hx.1 hx.2, ih]
    by_cases h10 : x = 10
    · subst h10
      have : lnSize ((10 : Int) :: xs) = 0 := by simp [lnSize, List.findIdx_cons]
      simp [this]
    · have h10' : (x == 10) = false := by simpa using h10
      have : lnSize (x :: xs) = lnSize xs + 1 := by simp [lnSize, List.findIdx_cons, h10']
      rw [this, h10']
      by_cases hl : lnSize xs < xs.length
      · rw [if_pos hl]
        have h2 : ((lnSize xs : Int) == -1) = false := by simp
        simp [h2, hl]
      · rw [if_neg hl]
        simp
        omega

set_option maxHeartbeats 1000000 in
set_option maxRecDepth 100000 in
theorem indexByte_any (b o n c : Nat) (xs : List Int) (w : World) (hx : xs.length = n) (hc : ∀ i, i < n → w.cell? ⟨b, o + i, none⟩ = some (.int .u8 (xs.getD i 0))) (hB : Bytes xs) :
    Calls Try.prog 208 #[.slice (some ⟨b, o, none⟩) n c, .int .u8 10] w fun e w' => e = .returned (.int .i64 (if lnSize xs < xs.length then (lnSize xs : Int) else -1)) ∧ w' = w := by
  rw [← indexByte_ten xs hB]
  go_enter Try.func208, Try.ntmps208
  go_wp2
  rw [run_callFunc_extern Try.func236 (by kernel_rfl) (by kernel_rfl) (by kernel_rfl) (e := Extern.BytealgIndexByte.indexByte) (by kernel_rfl), Lib.run_indexByteSlice w b o n c xs hx hc 10]
  simp only [Result.andThen]
  rw [Oper.upon_value]
  go_wp2
  go_ret
  exact ⟨rfl, rfl⟩

/-- What a round keeps: all below n₀, and the block Bn. -/
def Kept2 (n₀ Bn : Nat) (W W' : World) : Prop := Below n₀ W W' ∧ W'.heap[Bn]? = W.heap[Bn]?
theorem Kept2.trans {n₀ Bn : Nat} {A B C : World} (h : Kept2 n₀ Bn A B) (k : Kept2 n₀ Bn B C) : Kept2 n₀ Bn A C := ⟨h.1.trans k.1, k.2.trans h.2⟩

/-- A text that lies below n₀. -/
def TextAt (n₀ : Nat) (W : World) (a : Option Addr) (n : Nat) (xs : List Int) : Prop := Rd .u8 W a n xs ∧ (n = 0 ∨ ∃ b off, a = some ⟨b, off, none⟩ ∧ b < n₀)
theorem TextAt.below {n₀ : Nat} {W W' : World} {a : Option Addr} {n : Nat} {xs : List Int} (h : TextAt n₀ W a n xs) (hb : Below n₀ W W') : TextAt n₀ W' a n xs := by
  obtain ⟨⟨h1, h2⟩, h3⟩ := h
  refine ⟨⟨h1, ?_⟩, h3⟩
  rcases h2 with h2 | ⟨b, off, ha, hc⟩
  · exact .inl h2
  · rcases h3 with h3 | ⟨b', off', ha', hb'⟩
    · exact .inl h3
    · rw [ha] at ha'
      simp only [Option.some.injEq, Addr.mk.injEq, and_true] at ha'
      obtain ⟨rfl, rfl⟩ := ha'
      exact .inr ⟨b, off, ha, fun j hj => (hb.cell (p := ⟨b, off + j, none⟩) hb').trans (hc j hj)⟩
theorem TextAt.of {w : World} {a : Option Addr} {n : Nat} {xs : List Int} (h : Rd .u8 w a n xs) : TextAt w.heap.size w a n xs := by
  refine ⟨h, ?_⟩
  by_cases h0 : n = 0
  · exact .inl h0
  · obtain ⟨b, off, ha, hc⟩ := h.at (show 0 < n by omega)
    exact .inr ⟨b, off, ha, World.block_lt_of_cell? _ _ (hc 0 (by omega))⟩

/-- A line that lies in n bytes. -/
def goodL (n : Nat) (x : Int × L2) : Prop := 0 ≤ x.2.1 ∧ 0 ≤ x.2.2 ∧ x.2.1 + x.2.2 ≤ n
def lineEncs (x : Int × L2) : Array Value := #[.int .i64 x.1, .agg #[.int .i64 x.2.1, .int .i64 x.2.2]]

set_option maxRecDepth 100000 in
set_option maxHeartbeats 4000000 in
theorem linesOf1_in (d : Nat) (hn : 1 ≤ d) (l Bn n₀ : Nat) (a : Option Addr) (n ca : Nat) (xs : List Int) (hB : Bytes xs) (h1 : n ≤ 400) (hca : n ≤ ca) (hcm : ca ≤ 9223372036854775807) (J Jx : List (Int × L2) → World → Prop)
    (hY : ∀ pre x W, goodL n x → J pre W → pre.length < (numL 0 (lns xs)).length → YieldAt Fence.wide (d - 1) Try.prog l (lineEncs x) W fun e W' =>
      (e = .returned (.bool true) ∧ J (pre ++ [x]) W' ∧ Kept2 n₀ Bn W W') ∨ (e = .returned (.bool false) ∧ Jx (pre ++ [x]) W'))
    (W : World) (hBn : W.cell? ⟨Bn, 0, none⟩ = some (.slice a n ca)) (hT : TextAt n₀ W a n xs) (h0 : J [] W) (hJd : ∀ pre W q, J pre W → J pre (W.drewN q)) :
    CallsIn Fence.wide d Try.prog 207 #[.func (.yield l) #[] #[], .pointer (some ⟨Bn, 0, none⟩)] W fun e W' => (∃ v, e = .returned v) ∧
      ((∃ ys, ys = numL 0 (lns xs) ∧ J ys W') ∨ (∃ pre, pre <+: numL 0 (lns xs) ∧ Jx pre W')) := by
  have hlen := hT.1.1
  refine callsIn_of_wp Try.func207 rfl trivial ?_ rfl
  simp only [Try.ntmps207, List.size_toArray, List.length_cons, List.length_nil, Nat.reduceAdd, Nat.reduceSub, Array.replicate_succ, Array.replicate_zero, List.push_toArray, List.append_toArray, List.nil_append, List.cons_append]
  gi_wp2
  gi_region
  gi_wp2
  gi_loopw [3, 5, 6] (fun F K z wr => ∃ (f k : Nat) (pre : List (Int × L2)), F = .int .i64 f ∧ K = .int .i64 k ∧ f ≤ n + 1 ∧ k ≤ f ∧ pre ++ numL k (lnsA f f (xs.drop f)) = numL 0 (lns xs) ∧ wr.cell? ⟨Bn, 0, none⟩ = some (.slice a n ca) ∧ TextAt n₀ wr a n xs ∧ J pre wr)
    (fun F _ _ _ => n + 1 - (intOf F).toNat)
  case atStart => exact ⟨0, 0, [], rfl, rfl, by omega, by omega, by simp [lns], hBn, hT, hJd _ _ 1 h0⟩
  case round =>
    obtain ⟨f, k, pre, rfl, rfl, hf, hkf, hx, hbn, ht, hJs⟩ := hrel
    have HX : Hid _ := hx
    clear hx
    by_cases hlt : f < n
    · have hlt' : (f : Int) < (n : Int) := by omega
      have hst := HX.out
      rw [lns_step xs f (by omega), numL] at hst
      have hzl := lnSize_le (xs.drop f)
      have hdl : (xs.drop f).length = n - f := by simp; omega
      obtain ⟨b, off, rfl, hb0⟩ : ∃ b off, a = some ⟨b, off, none⟩ ∧ b < n₀ := by
        rcases ht.2 with h | h
        · omega
        · exact h
      have hcc : ∀ i, i < n - f → wr.cell? ⟨b, off + f + i, none⟩ = some (.int .u8 ((xs.drop f).getD i 0)) := by
        obtain ⟨b', off', ha', hc'⟩ := ht.1.at hlt
        simp only [Option.some.injEq, Addr.mk.injEq, and_true] at ha'
        obtain ⟨rfl, rfl⟩ := ha'
        intro i hi
        rw [Nat.add_assoc, hc' (f + i) (by omega)]
        simp [List.getD_eq_getElem?_getD]
      have IB := indexByte_any b (off + f) (n - f) (ca - f) (xs.drop f) wr hdl hcc (fun y hy => hB y (List.mem_of_mem_drop hy))
      rw [hdl] at IB hzl
      generalize lnSize (xs.drop f) = z at *
      have hpl : pre.length < (numL 0 (lns xs)).length := by rw [← hst]; simp
      obtain ⟨fn, tmps, assign, body, hy, hR⟩ := hY pre ((k : Int), ((f : Int), (z : Int))) wr ⟨by simp, by simp, by simp; omega⟩ hJs hpl
      simp only [lineEncs] at hy
      have HS : Hid _ := hst
      have HIB : Hid _ := IB
      have HY : Hid _ := hY
      have HT : Hid _ := ht
      have hfc : f ≤ ca := by omega
      have hfc' : ¬ ca = f := by omega
      have hz4 : z ≤ 400 := by omega
      have hf4 : f ≤ 400 := by omega
      have hk4 : k ≤ 400 := by omega
      have hpre : pre ++ [((k : Int), ((f : Int), (z : Int)))] ++ numL (k + 1) (lnsA (f + z + 1) (f + z + 1) (xs.drop (f + z + 1))) = numL 0 (lns xs) := by rw [List.append_assoc]; exact hst
      have HP : Hid _ := hpre
      clear hst IB hY ht hcc hdl HX hpl hpre hBn hT h0 hlen
      by_cases hz : z < n - f
      · rw [if_pos hz] at HIB
        have hz0 : ¬ (z : Int) < 0 := by omega
        gi_wp2_with (refine ⟨trivial, ?_⟩; gi_at_call 208; refine (callsIn_wide.2 HIB.out).mono ?_; rintro e w' ⟨rfl, rfl⟩)
        refine hR.mono ?_
        rintro e W3 (⟨rfl, hJ3, hk3⟩ | ⟨rfl, hJx3⟩)
        · have hbn3 := (World.cell?_of_block (w := w') (a := ⟨Bn, 0, none⟩) hk3.2).trans hbn
          have ht3 : TextAt n₀ W3 (some ⟨b, off, none⟩) n xs := TextAt.below HT.out hk3.1
          gi_wp2
          go_roundw
          case rel => exact ⟨f + z + 1, k + 1, pre ++ [((k : Int), ((f : Int), (z : Int)))], by go_num, by go_num, by omega, by omega, HP.out, hbn3, ht3, hJ3⟩
          case measure => simp [intOf]; omega
        · gi_wp2
          refine bodyPost_ret (results_none rfl _ _ _) rfl ?_
          exact ⟨⟨_, rfl⟩, .inr ⟨pre ++ [((k : Int), ((f : Int), (z : Int)))], ⟨_, HP.out⟩, hJx3⟩⟩
      · rw [if_neg hz] at HIB
        have hzz : (n : Int) - (f : Int) = (z : Int) := by omega
        gi_wp2_with (refine ⟨trivial, ?_⟩; gi_at_call 208; refine (callsIn_wide.2 HIB.out).mono ?_; rintro e w' ⟨rfl, rfl⟩)
        refine hR.mono ?_
        rintro e W3 (⟨rfl, hJ3, hk3⟩ | ⟨rfl, hJx3⟩)
        · have hbn3 := (World.cell?_of_block (w := w') (a := ⟨Bn, 0, none⟩) hk3.2).trans hbn
          have ht3 : TextAt n₀ W3 (some ⟨b, off, none⟩) n xs := TextAt.below HT.out hk3.1
          gi_wp2
          go_roundw
          case rel => exact ⟨f + z + 1, k + 1, pre ++ [((k : Int), ((f : Int), (z : Int)))], by go_num, by go_num, by omega, by omega, HP.out, hbn3, ht3, hJ3⟩
          case measure => simp [intOf]; omega
        · gi_wp2
          refine bodyPost_ret (results_none rfl _ _ _) rfl ?_
          exact ⟨⟨_, rfl⟩, .inr ⟨pre ++ [((k : Int), ((f : Int), (z : Int)))], ⟨_, HP.out⟩, hJx3⟩⟩
    · gi_wp2
      go_end0
      have hx := HX.out
      rw [lns_end xs f (by omega)] at hx
      exact ⟨⟨_, rfl⟩, .inl ⟨pre, by simpa [numL] using hx, hJs⟩⟩

set_option maxHeartbeats 1000000 in
theorem linesOf_in (d : Nat) (a : Option Addr) (n ca : Nat) (w : World) :
    CallsIn Fence.wide d Try.prog 144 #[.slice a n ca] w fun e w' => e = .returned (.func (.func 207) #[] #[.pointer (some ⟨w.heap.size, 0, none⟩)]) ∧ w' = w.alloc (.cells #[.slice a n ca] 22) := by
  refine callsIn_of_wp Try.func144 rfl trivial ?_ rfl
  simp only [Try.ntmps144, List.size_toArray, List.length_cons, List.length_nil, Nat.reduceAdd, Nat.reduceSub, Array.replicate_succ, Array.replicate_zero, List.push_toArray, List.append_toArray, List.nil_append, List.cons_append]
  gi_wp2
  go_ret
  exact ⟨rfl, rfl⟩

theorem linesOf_stops (d : Nat) (hn : 1 ≤ d) (Bn n₀ : Nat) (a : Option Addr) (n ca : Nat) (xs : List Int) (hB : Bytes xs) (h1 : n ≤ 400) (hca : n ≤ ca) (hcm : ca ≤ 9223372036854775807) (w : World)
    (hBn : w.cell? ⟨Bn, 0, none⟩ = some (.slice a n ca)) (hT : TextAt n₀ w a n xs) (hn₀ : n₀ ≤ w.heap.size) :
    SeqStopsK Fence.wide d Try.prog 207 #[.pointer (some ⟨Bn, 0, none⟩)] lineEncs (Kept2 n₀ Bn) (fun ys => ys = numL 0 (lns xs)) (fun pre => pre <+: numL 0 (lns xs)) (numL 0 (lns xs)).length w :=
  fun l J Jx W hW hJ _ hY h0 => linesOf1_in d hn l Bn n₀ a n ca xs hB h1 hca hcm J Jx (fun pre x W _ => hY pre x W) W (cell_later hW hBn) (hT.below (hW.mono hn₀)) h0 (fun pre W q h => hJ pre W _ none h ⟨rfl, rfl, rfl, Nat.le_refl _, fun _ _ _ => rfl⟩ (fun r e => by cases e))

/-- The same, for a body that is told that its line lies in the text. -/
abbrev LineIn (n : Nat) := { x : Int × L2 // goodL n x }

theorem linesOf_stopsS (d : Nat) (hn : 1 ≤ d) (Bn n₀ : Nat) (a : Option Addr) (n ca : Nat) (xs : List Int) (hB : Bytes xs) (h1 : n ≤ 400) (hca : n ≤ ca) (hcm : ca ≤ 9223372036854775807) (w : World)
    (hBn : w.cell? ⟨Bn, 0, none⟩ = some (.slice a n ca)) (hT : TextAt n₀ w a n xs) (hn₀ : n₀ ≤ w.heap.size) :
    SeqStopsK Fence.wide d Try.prog 207 #[.pointer (some ⟨Bn, 0, none⟩)] (fun x : LineIn n => lineEncs x.1) (Kept2 n₀ Bn) (fun ys => ys.map (·.1) = numL 0 (lns xs)) (fun pre => pre.map (·.1) <+: numL 0 (lns xs)) (numL 0 (lns xs)).length w := by
  intro l J Jx W hW hJ _ hY h0
  have key := linesOf1_in d hn l Bn n₀ a n ca xs hB h1 hca hcm (fun pre W => ∃ p : List (LineIn n), p.map (·.1) = pre ∧ J p W) (fun pre W => ∃ p : List (LineIn n), p.map (·.1) = pre ∧ Jx p W) (fun pre x W1 hg ⟨p, hp, hJp⟩ hlt => by
      subst hp
      refine (hY p ⟨x, hg⟩ W1 hJp (by simpa using hlt)).mono ?_
      rintro e W' (⟨rfl, hJ', hk⟩ | ⟨rfl, hJx'⟩)
      · exact .inl ⟨rfl, ⟨p ++ [⟨x, hg⟩], by simp, hJ'⟩, hk⟩
      · exact .inr ⟨rfl, ⟨p ++ [⟨x, hg⟩], by simp, hJx'⟩⟩) W (cell_later hW hBn) (hT.below (hW.mono hn₀)) ⟨[], rfl, h0⟩
    (fun pre W q ⟨p, hp, h⟩ => ⟨p, hp, hJ p W _ none h ⟨rfl, rfl, rfl, Nat.le_refl _, fun _ _ _ => rfl⟩ (fun r e => by cases e)⟩)
  refine key.mono ?_
  rintro e W' ⟨hv, h⟩
  refine ⟨hv, ?_⟩
  rcases h with ⟨ys, hy, p, hp, hJp⟩ | ⟨pre, hpre, p, hp, hJp⟩
  · exact .inl ⟨p, hp.trans hy, hJp⟩
  · exact .inr ⟨p, by subst hp; exact hpre, hJp⟩
end Go.Proofs.Ytocophekfbhfbaa

namespace Go.Proofs.Ytocophekfbhfbaa
open Go.RowKit Go.Shelf
set_option linter.unusedVariables false
attribute [local go_sem] Oper.semAt_some lineEncs

theorem kept2_b {n₀ Bn : Nat} {w : World} (hn : n₀ ≤ w.heap.size) (hb : Bn < w.heap.size) (W : World) (l : Nat) (o o' : Obj) (hl : w.heap.size ≤ l) (h : W.heap[l]? = some o) (h1 : o.isCells = false) (h2 : o.isWalk = false) : Kept2 n₀ Bn W (W.putObj l o') :=
  ⟨belowK_b hn W l o o' hl h h1 h2, World.putObj_heap_other (by omega)⟩

set_option maxRecDepth 100000 in
set_option maxHeartbeats 4000000 in
theorem implLinesIn_any (a : Option Addr) (n ca : Nat) (xs : List Int) (w : World) (ha : Rd .u8 w a n xs) (hB : Bytes xs) (h1 : n ≤ 1073741824) (hca : n ≤ ca) (hcm : ca ≤ 9223372036854775807) :
    Calls Try.prog 60 #[.agg #[.slice a n ca]] w fun e w' => ∃ v, e = .returned (.agg #[.int .i64 (linCode xs), v]) ∧ RowS lineE 2 192 w' w.heap.size w'.heap.size v (linRes xs).length (linRes xs) ∧ Below w.heap.size w w' := by
  have hlen := ha.1
  have hbt := below_two w
  by_cases hf : 400 < n
  · have e0 : linCode xs = 2 := by unfold linCode; rw [if_pos (by omega)]
    have e2 : linRes xs = [] := by unfold linRes; rw [if_pos (by omega)]
    have e3 : fFault n = 2 := by unfold fFault; rw [if_pos hf]
    rw [e0, e2]
    clear e0 e2 hlen
    go_enter Try.func60, Try.ntmps60
    go_wp2_with fail
    refine (implFileFault_any a n ca _ h1).mono ?_
    rw [e3]
    rintro e w1 ⟨rfl, hb1⟩
    have d0 : w1.cell? ⟨w.heap.size + 1, 0, none⟩ = some (.int .i64 0) := cell_later hb1 (by simp [go_sem])
    have df0 : w1.frozen? ⟨w.heap.size + 1, 0, none⟩ = false := (hb1.frozen (p := ⟨w.heap.size + 1, 0, none⟩) (by simp)).trans (by simp [go_sem])
    have d1 : w1.cell? ⟨w.heap.size + 1, 1, none⟩ = some (.slice none 0 0) := cell_later hb1 (by simp [go_sem])
    have df1 : w1.frozen? ⟨w.heap.size + 1, 1, none⟩ = false := (hb1.frozen (p := ⟨w.heap.size + 1, 1, none⟩) (by simp)).trans (by simp [go_sem])
    have c0 : w1.cell? ⟨w.heap.size, 0, none⟩ = some (.slice a n ca) := cell_later hb1 (by simp [go_sem])
    have z1 : w.heap.size + 1 < w1.heap.size := by have := hb1.size; simp at this; omega
    have hb01 := (hbt _ _).trans (hb1.mono (by simp; omega))
    clear hb1 e3
    go_wp2
    exact bodyPost_ret (v := .agg #[.int .i64 2, .slice none 0 0]) (by simp [results, Try.results60, go_sem, d0, d1]) rfl ⟨_, rfl, RowS.nil _ _ _ _ _ _, (hb01.setCell (by simp) _).setCell (by simp) _⟩
  · obtain ⟨i0, hi, hz0, hz1, hz2⟩ := info_parts infoL
    have e0 : linCode xs = 0 := by unfold linCode; rw [if_neg (by omega)]
    have e2 : linRes xs = lns xs := by unfold linRes; rw [if_neg (by omega)]
    have e3 : fFault n = 0 := by unfold fFault; rw [if_neg hf]
    rw [e0, e2]
    clear e0 e2
    have hll := lns_len xs
    have FF := implFileFault_any a n ca
    rw [e3] at FF
    have HFF : Hid _ := FF
    clear FF e3
    refine (callsIn_wide (n := 3)).1 ?_
    refine callsIn_of_wp_marks Try.func60 rfl trivial ?_ rfl
    simp only [Try.ntmps60, List.size_toArray, List.length_cons, List.length_nil, Nat.reduceAdd, Nat.reduceSub, Array.replicate_succ, Array.replicate_zero, List.push_toArray, List.append_toArray, List.nil_append, List.cons_append]
    gi_wp2_with (first | (refine ⟨trivial, ?_⟩; gi_at_call 86; refine (callsIn_wide.2 (HFF.out _ h1)).mono ?_; rintro e w1 ⟨rfl, hb1⟩; have c0 : w1.cell? ⟨w.heap.size, 0, none⟩ = some (.slice a n ca) := cell_later hb1 (by simp [go_sem]); have z0 : w.heap.size < w1.heap.size := (by have := hb1.size; simp at this; omega)) | (refine ⟨trivial, ?_⟩; gi_at_call 144; refine (linesOf_in _ a n ca _).mono ?_; rintro e w2 ⟨rfl, rfl⟩))
    have z1 : w.heap.size + 1 < w1.heap.size := by have := hb1.size; simp at this; omega
    have bR : Blk w1 (w.heap.size + 1) #[.int .i64 0, .slice none 0 0] 101 := (hb1.block (w.heap.size + 1) (by simp)).trans (by have := Blk.new (w.alloc (.cells #[.slice a n ca] 28)) #[.int .i64 0, .slice none 0 0] 101; rw [World.size_alloc] at this; exact this)
    have hb01 := (hbt _ _).trans (hb1.mono (by simp; omega))
    clear hb1 hbt c0
    have bR0 := (bR.alloc (.cells #[.slice none 0 0] 99)).alloc (.cells #[.slice a n ca] 22)
    have bL0 := (Blk.new w1 #[.slice none 0 0] 99).alloc (.cells #[.slice a n ca] 22)
    have bN0 := Blk.new (w1.alloc (.cells #[.slice none 0 0] 99)) #[.slice a n ca] 22
    rw [World.size_alloc] at bN0
    have hB0 : Below w.heap.size w ((w1.alloc (.cells #[.slice none 0 0] 99)).alloc (.cells #[.slice a n ca] 22)) := (hb01.alloc hb01.size _).alloc (by have := hb01.size; simp; omega) _
    have hsz : ((w1.alloc (.cells #[.slice none 0 0] 99)).alloc (.cells #[.slice a n ca] 22)).heap.size = w1.heap.size + 2 := by simp
    obtain ⟨W0, hW0⟩ : ∃ W0, ((w1.alloc (.cells #[.slice none 0 0] 99)).alloc (.cells #[.slice a n ca] 22)) = W0 := ⟨_, rfl⟩
    rw [hW0] at bR0 bL0 bN0 hB0 hsz ⊢
    clear hW0 bR
    refine wpIn_rangeFunc_ownH rfl (by omega) (gf := 207) (lb := #[.pointer (some ⟨w1.heap.size + 1, 0, none⟩)]) rfl trivial (enters_of Try.func207 (by kernel_rfl) rfl)
      (linesOf_stops _ (by omega) (w1.heap.size + 1) w.heap.size a n ca xs hB (by omega) hca hcm W0 (by rw [bN0.cell]; rfl) (TextAt.below (TextAt.of ha) hB0) hB0.size) Kept2.trans (kept2_b hB0.size (by omega)) (Below.refl _ _) (fun _ => rfl)
      (fun pre W => (((∃ v, Blk W w1.heap.size #[v] 99 ∧ W.ownsRow w.heap.size 192 2 v pre.length ((pre.map (·.2)).flatMap lineE)) ∧ Blk W (w.heap.size + 1) #[.int .i64 0, .slice none 0 0] 101) ∧ Blk W (w1.heap.size + 1) #[.slice a n ca] 22) ∧ Below w.heap.size w W)
      (fun _ _ _ => False)
      (OwnFrom.and (OwnFrom.and (OwnFrom.and (by
        rintro s X Y row ⟨v, hv, hr⟩ hg hrow
        have h2 := (holdsRow_own w.heap.size w1.heap.size 99 192 2 (fun (pre : List (Int × L2)) => pre.length) (fun pre => (pre.map (·.2)).flatMap lineE) (fun _ _ => True)) s X Y row ⟨v, hv, hr, trivial⟩ hg (fun r e => (hrow r e).2)
        obtain ⟨v', h3, h4, _⟩ := h2
        exact ⟨v', h3, h4⟩) (blk_own _ _ _ _)) (blk_own _ _ _ _)) (ownFrom_below (Nat.le_refl _) (by omega)))
      (fun _ _ _ _ _ hs _ _ => hs)
      ⟨⟨⟨⟨_, bL0, World.ownsRow_nil _ _ _ _⟩, bR0⟩, bN0⟩, hB0⟩
      (fun x a' W => ∃ Bx, w1.heap.size + 1 < Bx ∧ Blk W Bx #[.int .i64 x.2.1, .int .i64 x.2.2] 192 ∧ a' = { tmps := #[.agg #[.slice a n ca], .pointer (some ⟨w.heap.size, 0, none⟩), .pointer (some ⟨w.heap.size + 1, 0, none⟩), .int .i64 0, .pointer (some ⟨w1.heap.size, 0, none⟩), undef, .pointer (some ⟨Bx, 0, none⟩), .agg #[.slice a n ca], .int .i64 0, .int .i64 0, .bool false, undef, undef, .pointer (some ⟨w.heap.size, 0, none⟩), .slice a n ca, .func (.func 207) #[] #[.pointer (some ⟨w1.heap.size + 1, 0, none⟩)], .int .i64 x.1, .agg #[.int .i64 x.2.1, .int .i64 x.2.2], undef, undef, undef, undef, undef, undef], defers := [] })
      (fun x a' _ X Y row hs hg hr => by obtain ⟨Bx, e1, e2, e3⟩ := hs; exact ⟨Bx, e1, blk_own (β := Unit) Bx (fun _ => #[.int .i64 x.2.1, .int .i64 x.2.2]) 192 _ () X Y row e2 hg hr, e3⟩)
      ?assign ?body ?done ?stop
    case assign =>
      rintro l pre x W K ⟨⟨⟨⟨v, bL, hrow⟩, bR⟩, bN⟩, hB1⟩ hK
      gi_wp2
      exact hK _ _ ((KeepsOthers.alloc _ _).from _) ⟨(Below.refl _ W).alloc hB1.size _, Below.heap_alloc W _ _ bN.lt⟩ ⟨⟨⟨⟨v, bL.alloc _, hrow.alloc _⟩, bR.alloc _⟩, bN.alloc _⟩, hB1.alloc hB1.size _⟩ ⟨W.heap.size, bN.lt, Blk.new W _ _, rfl⟩
    case body =>
      rintro l pre x a' W hl ⟨r, hr⟩ ⟨⟨⟨⟨v, bL, hrow⟩, bR⟩, bN⟩, hB1⟩ ⟨Bx, hBx, bX, rfl⟩ hlt
      have hpl : pre.length < 400 := by rw [numL_len] at hlt; omega
      have cL : W.cell? ⟨w1.heap.size, 0, none⟩ = some v := bL.cell 0
      have cX0 : W.cell? ⟨Bx, 0, none⟩ = some (.int .i64 x.2.1) := bX.cell 0
      have cX1 : W.cell? ⟨Bx, 1, none⟩ = some (.int .i64 x.2.2) := bX.cell 1
      have hsW := hB1.size
      gi_wp2_with (gi_at_builtin; refine wpListIn_append_own _ rfl _ _ 99 rfl w.heap.size 192 i0 (.agg #[.int .i64 0, .int .i64 0]) 2 16 Try.underlying99 hi hz0 hz1 hz2 rfl (by decide) _ _ _ rfl (hrow.alloc _) ⟨W.heap.size, 0, none⟩ 1 1 (lineE x.2) rfl rfl (cells_new W #[.int .i64 x.2.1, .int .i64 x.2.2] 192) (lineE_one _) (by unfold maxLen; omega) (by omega) (by simp; omega) ?_; intro v' w3 hown' hgrow _; obtain ⟨g', cap', rfl⟩ := ownsRow_succ hown'; obtain ⟨hv1, hv2, hr2, hk2, hb2⟩ := Boxed.appended bL (by decide) hrow hB1.size (by omega) hown' hgrow; have hc1 := hv1.cell; have hf1 := hv1.frozen)
      have bN3 := ((bN.alloc (.cells #[.int .i64 x.2.1, .int .i64 x.2.2] 192)).kept hgrow (Blk.not_row (bN.alloc (.cells #[.int .i64 x.2.1, .int .i64 x.2.2] 192)) (by decide) (hrow.alloc _))).other (B' := w1.heap.size) (i := 0) (by omega) (Value.slice (some ⟨g', 0, none⟩) (pre.length + 1) cap')
      have bR3 := ((bR.alloc (.cells #[.int .i64 x.2.1, .int .i64 x.2.2] 192)).kept hgrow (Blk.not_row (bR.alloc (.cells #[.int .i64 x.2.1, .int .i64 x.2.2] 192)) (by decide) (hrow.alloc _))).other (B' := w1.heap.size) (i := 0) (by omega) (Value.slice (some ⟨g', 0, none⟩) (pre.length + 1) cap')
      exact ⟨hk2.from _, ⟨hb2, Eq.trans (show _ = _ from bN3) (Eq.symm (show _ = _ from bN))⟩, ⟨⟨⟨_, hv2, by simpa using hr2⟩, bR3⟩, bN3⟩, hB1.trans hb2⟩
    case done =>
      rintro D ys W hD rfl ⟨⟨⟨⟨v, bL, hrow⟩, bR⟩, bN⟩, hB1⟩ hK
      rw [numL_len, numL_map] at hrow
      have ho : OwnR lineE 2 192 W w.heap.size v (lns xs).length (lns xs) := ⟨rfl, hrow⟩
      obtain ⟨av, cv, rfl, _⟩ := ho.rd lineE_len
      clear hrow
      have cL : W.cell? ⟨w1.heap.size, 0, none⟩ = some (.slice av (lns xs).length cv) := bL.cell 0
      have cR0 : W.cell? ⟨w.heap.size + 1, 0, none⟩ = some (.int .i64 0) := bR.cell 0
      have cR1 : W.cell? ⟨w.heap.size + 1, 1, none⟩ = some (.slice none 0 0) := bR.cell 1
      have fR0 := bR.frozen 0
      have fR1 := bR.frozen 1
      gi_wp2
      have n1 := Blk.not_row bR (by decide) ho.2
      have ho1 := ho.kept (setCell_grown W (w.heap.size + 1) 0 (.int .i64 0)) (fun j hj e => n1 (e.trans hj.symm))
      have bR1 := bR.set (i := 0) (.int .i64 0)
      have n2 := Blk.not_row bR1 (by decide) ho1.2
      have ho2 := ho1.kept (setCell_grown _ (w.heap.size + 1) 1 (.slice av (lns xs).length cv)) (fun j hj e => n2 (e.trans hj.symm))
      have bR2 := bR1.set (i := 1) (.slice av (lns xs).length cv)
      have hB2 := (hB1.setCell (p := ⟨w.heap.size + 1, 0, none⟩) (by simp) (.int .i64 0)).setCell (p := ⟨w.heap.size + 1, 1, none⟩) (by simp) (.slice av (lns xs).length cv)
      have hK2 := (Below.heap_setCell _ ⟨w.heap.size + 1, 1, none⟩ (.slice av (lns xs).length cv) D (by simp; omega)).trans ((Below.heap_setCell W ⟨w.heap.size + 1, 0, none⟩ (.int .i64 0) D (by simp; omega)).trans hK)
      generalize ((W.setCell ⟨w.heap.size + 1, 0, none⟩ (.int .i64 0)).setCell ⟨w.heap.size + 1, 1, none⟩ (.slice av (lns xs).length cv)) = W2 at *
      have bR3 := bR2.putObj (.deferred none) hK2 rfl
      have g0 : (W2.putObj D (.deferred none)).cell? ⟨w.heap.size + 1, 0, none⟩ = some (.int .i64 0) := bR3.cell 0
      have g1 : (W2.putObj D (.deferred none)).cell? ⟨w.heap.size + 1, 1, none⟩ = some (.slice av (lns xs).length cv) := bR3.cell 1
      refine ⟨by simp, .inl ⟨_, _, rfl, run_takeDeferred hK2, ?_⟩⟩
      refine ⟨.agg #[.int .i64 0, .slice av (lns xs).length cv], by simp [results, Try.results60, go_sem, g0, g1], _, rfl, RowS.of ⟨ho2.1, ownsRow_putObj ho2.2 _ hK2 rfl⟩, hB2.trans (belowK_b (w := w) (Nat.le_refl _) W2 D _ _ (by omega) hK2 rfl rfl)⟩
    case stop =>
      rintro D c pre W _ _ h _
      exact h.elim
end Go.Proofs.Ytocophekfbhfbaa

namespace Go.Proofs.Ytocophekfbhfbaa
open Go.RowKit
set_option linter.unusedVariables false
set_option linter.unusedSimpArgs false

set_option maxRecDepth 10000 in
set_option maxHeartbeats 3200000 in
theorem hitOne_any (bp bf : Nat) (pa : Option Addr) (pn pc : Nat) (is : List In) (a : Option Addr) (n ca f z : Nat) (xs : List Int) (w : World) (hpr : RdR inE 8 w pa pn is) (hin : Inside is) (hp1 : 1 ≤ pn) (hp2 : pn ≤ 80)
    (cP0 : w.cell? ⟨bp, 0, none⟩ = some (.slice pa pn pc)) (cF0 : w.cell? ⟨bf, 0, none⟩ = some (.slice a n ca)) (ha : Rd .u8 w a n xs) (hB : Bytes xs) (h1 : n ≤ 400) (hca : n ≤ ca) (hcm : ca ≤ maxLen) (hfz : f + z ≤ n) :
    Calls Try.prog 137 #[.agg #[.int .i64 (f : Int), .int .i64 (z : Int)], .pointer (some ⟨bp, 0, none⟩), .pointer (some ⟨bf, 0, none⟩)] w fun e w' => e = .returned (.bool (hasV is (cutOf xs ((f : Int), (z : Int))))) ∧ Below w.heap.size w w' := by
  have hlen := ha.1
  have zP := World.block_lt_of_cell? _ _ cP0
  have zF := World.block_lt_of_cell? _ _ cF0
  simp only at zP zF
  have hcut : cutOf xs ((f : Int), (z : Int)) = (xs.drop f).take z := by simp [cutOf]
  have hsz : Bytes ((xs.drop f).take z) := by rw [← hcut]; exact cutOf_bytes9 hB _
  have D := fun A CA w' h h2 => isDoneIn_any pa pn pc is A z CA ((xs.drop f).take z) hin hp1 hp2 (by omega) hsz w' h h2
  rw [← hcut] at D
  generalize hq : hasV is (cutOf xs ((f : Int), (z : Int))) = q at *
  rw [hcut] at D
  have HD : Hid _ := D
  unfold maxLen at hcm
  have hf4 : f ≤ 400 := by omega
  have hz4 : z ≤ 400 := by omega
  have hfc : f + z ≤ ca := by omega
  have hwz : IntKind.i64.wrap ((f : Int) + (z : Int)) = (f : Int) + (z : Int) := by rw [IntKind.wrap_i64] <;> omega
  have hcA : 0 ≤ (f : Int) + (z : Int) := by omega
  have hcB : (f : Int) + (z : Int) ≤ (ca : Int) := by omega
  have hcC : ((f : Int) + (z : Int)).toNat = f + z := by omega
  have hcD : f ≤ f + z := by omega
  clear D hq hcut hsz hB
  by_cases hcf : ca = f
  · have hz0 : z = 0 := by omega
    subst hz0
    subst hcf
    have hwc : IntKind.i64.wrap (ca : Int) = (ca : Int) := by rw [IntKind.wrap_i64] <;> omega
    have HC := hid (show 0 < 0 → ∀ g off, a = some ⟨g, off, none⟩ → a = some ⟨g, off + ca, none⟩ from fun h => absurd h (by omega))
    have hb : Below w.heap.size w w := Below.refl _ _
    go_enter Try.func137, Try.ntmps137
    go_wp2_with fail
    have bp : ∀ o0, Below w.heap.size w (w.alloc o0) := fun o0 => (Below.refl _ _).alloc (Nat.le_refl _) o0
    have hbt : ∀ o0, Below w.heap.size w (w.alloc o0) := fun o0 => hb.trans ((bp o0).mono hb.size)
    obtain ⟨w1, hw1⟩ : ∃ x, (w.alloc (.cells #[.int .i64 (ca : Int), .int .i64 (0 : Int)] 192)) = x := ⟨_, rfl⟩
    have hc : Below ((w.alloc (.cells #[.int .i64 (ca : Int), .int .i64 (0 : Int)] 192))).heap.size ((w.alloc (.cells #[.int .i64 (ca : Int), .int .i64 (0 : Int)] 192))) w1 := hw1 ▸ Below.refl _ _
    have s1 : w.heap.size + 1 ≤ w1.heap.size := by have := hc.size; simp at this; omega
    have bq : Below w.heap.size w w1 := (bp _).trans (hc.mono (bp _).size)
    replace cP0 := cell_later bq cP0
    replace zP := Nat.lt_of_lt_of_le zP bq.size
    replace cF0 := cell_later bq cF0
    replace zF := Nat.lt_of_lt_of_le zF bq.size
    have cL0 : w1.cell? ⟨w.heap.size, 0, none⟩ = some (.int .i64 (ca : Int)) := cell_later hc (by simp [go_sem])
    have cL1 : w1.cell? ⟨w.heap.size, 1, none⟩ = some (.int .i64 (0 : Int)) := cell_later hc (by simp [go_sem])
    have zL : w.heap.size < w1.heap.size := by omega
    replace hb := hb.trans (bq.mono hb.size)
    clear hc bq bp hbt
    rw [hw1]
    clear hw1
    have bd : Below w1.heap.size w1 w1.drew := (Below.refl _ _).drew
    refine wp_region_held_drew (S := fun w' => Below w.heap.size w w' ∧ w'.cell? ⟨bf, 0, none⟩ = some (.slice a n ca) ∧ w'.cell? ⟨w.heap.size, 0, none⟩ = some (.int .i64 (ca : Int)) ∧ w'.cell? ⟨w.heap.size, 1, none⟩ = some (.int .i64 (0 : Int)) ∧ w'.cell? ⟨bp, 0, none⟩ = some (.slice pa pn pc)) (by kernel_rfl) ⟨(hb.trans (bd.mono hb.size)), cell_later bd cF0, cell_later bd cL0, cell_later bd cL1, cell_later bd cP0⟩ (fun hS => ?_)
    obtain ⟨D1, hD⟩ : ∃ D, w1.drew = D := ⟨_, rfl⟩
    rw [hD] at hS bd ⊢
    have hc := bd
    clear hD bd
    have s2 : w1.heap.size ≤ D1.heap.size := hc.size
    have bq := hc
    replace cP0 := cell_later bq cP0
    replace zP := Nat.lt_of_lt_of_le zP bq.size
    replace cF0 := cell_later bq cF0
    replace zF := Nat.lt_of_lt_of_le zF bq.size
    replace cL0 := cell_later bq cL0
    replace cL1 := cell_later bq cL1
    replace zL := Nat.lt_of_lt_of_le zL bq.size
    replace hb := hb.trans (bq.mono hb.size)
    clear hc bq
    refine wpAnyH_take (i := 0) (v := (.slice pa pn pc)) rfl (by as_aux_lemma => kernel_rfl) (by as_aux_lemma => kernel_rfl) (by as_aux_lemma => kernel_rfl) (fun _ _ _ h => h) (Or.inl ⟨by kernel_rfl, ?_⟩) hS ?_
    · intro w hSw; (try dsimp only at hSw); obtain ⟨hSb, hl0, hl1, hl2, hl3⟩ := hSw; go_simp
    (try simp only [Act.put, List.getElem_toArray, List.getElem_cons_zero, List.getElem_cons_succ, List.setIfInBounds_toArray, List.set_cons_zero, List.set_cons_succ])
    refine wpAnyH_take (i := 1) (v := (.pointer (some ⟨bf, 0, none⟩))) rfl (by as_aux_lemma => kernel_rfl) (by as_aux_lemma => kernel_rfl) (by as_aux_lemma => kernel_rfl) (fun _ _ _ h => h) (Or.inl ⟨by kernel_rfl, ?_⟩) hS ?_
    · intro w hSw; (try dsimp only at hSw); go_simp
    (try simp only [Act.put, List.getElem_toArray, List.getElem_cons_zero, List.getElem_cons_succ, List.setIfInBounds_toArray, List.set_cons_zero, List.set_cons_succ])
    refine wpAnyH_take (i := 2) (v := (.slice a n ca)) rfl (by as_aux_lemma => kernel_rfl) (by as_aux_lemma => kernel_rfl) (by as_aux_lemma => kernel_rfl) (fun _ _ _ h => h) (Or.inl ⟨by kernel_rfl, ?_⟩) hS ?_
    · intro w hSw; (try dsimp only at hSw); obtain ⟨hSb, hl0, hl1, hl2, hl3⟩ := hSw; go_simp
    (try simp only [Act.put, List.getElem_toArray, List.getElem_cons_zero, List.getElem_cons_succ, List.setIfInBounds_toArray, List.set_cons_zero, List.set_cons_succ])
    refine wpAnyH_take (i := 3) (v := (.pointer (some ⟨w.heap.size, 0, none⟩))) rfl (by as_aux_lemma => kernel_rfl) (by as_aux_lemma => kernel_rfl) (by as_aux_lemma => kernel_rfl) (fun _ _ _ h => h) (Or.inl ⟨by kernel_rfl, ?_⟩) hS ?_
    · intro w hSw; (try dsimp only at hSw); go_simp
    (try simp only [Act.put, List.getElem_toArray, List.getElem_cons_zero, List.getElem_cons_succ, List.setIfInBounds_toArray, List.set_cons_zero, List.set_cons_succ])
    refine wpAnyH_take (i := 4) (v := (.int .i64 (ca : Int))) rfl (by as_aux_lemma => kernel_rfl) (by as_aux_lemma => kernel_rfl) (by as_aux_lemma => kernel_rfl) (fun _ _ _ h => h) (Or.inl ⟨by kernel_rfl, ?_⟩) hS ?_
    · intro w hSw; (try dsimp only at hSw); obtain ⟨hSb, hl0, hl1, hl2, hl3⟩ := hSw; go_simp
    (try simp only [Act.put, List.getElem_toArray, List.getElem_cons_zero, List.getElem_cons_succ, List.setIfInBounds_toArray, List.set_cons_zero, List.set_cons_succ])
    refine wpAnyH_take (i := 5) (v := (.pointer (some ⟨w.heap.size, 0, none⟩))) rfl (by as_aux_lemma => kernel_rfl) (by as_aux_lemma => kernel_rfl) (by as_aux_lemma => kernel_rfl) (fun _ _ _ h => h) (Or.inl ⟨by kernel_rfl, ?_⟩) hS ?_
    · intro w hSw; (try dsimp only at hSw); go_simp
    (try simp only [Act.put, List.getElem_toArray, List.getElem_cons_zero, List.getElem_cons_succ, List.setIfInBounds_toArray, List.set_cons_zero, List.set_cons_succ])
    refine wpAnyH_take (i := 6) (v := (.int .i64 (ca : Int))) rfl (by as_aux_lemma => kernel_rfl) (by as_aux_lemma => kernel_rfl) (by as_aux_lemma => kernel_rfl) (fun _ _ _ h => h) (Or.inl ⟨by kernel_rfl, ?_⟩) hS ?_
    · intro w hSw; (try dsimp only at hSw); obtain ⟨hSb, hl0, hl1, hl2, hl3⟩ := hSw; go_simp
    (try simp only [Act.put, List.getElem_toArray, List.getElem_cons_zero, List.getElem_cons_succ, List.setIfInBounds_toArray, List.set_cons_zero, List.set_cons_succ])
    refine wpAnyH_take (i := 7) (v := (.pointer (some ⟨w.heap.size, 1, none⟩))) rfl (by as_aux_lemma => kernel_rfl) (by as_aux_lemma => kernel_rfl) (by as_aux_lemma => kernel_rfl) (fun _ _ _ h => h) (Or.inl ⟨by kernel_rfl, ?_⟩) hS ?_
    · intro w hSw; (try dsimp only at hSw); go_simp
    (try simp only [Act.put, List.getElem_toArray, List.getElem_cons_zero, List.getElem_cons_succ, List.setIfInBounds_toArray, List.set_cons_zero, List.set_cons_succ])
    refine wpAnyH_take (i := 8) (v := (.int .i64 (0 : Int))) rfl (by as_aux_lemma => kernel_rfl) (by as_aux_lemma => kernel_rfl) (by as_aux_lemma => kernel_rfl) (fun _ _ _ h => h) (Or.inl ⟨by kernel_rfl, ?_⟩) hS ?_
    · intro w hSw; (try dsimp only at hSw); obtain ⟨hSb, hl0, hl1, hl2, hl3⟩ := hSw; go_simp
    (try simp only [Act.put, List.getElem_toArray, List.getElem_cons_zero, List.getElem_cons_succ, List.setIfInBounds_toArray, List.set_cons_zero, List.set_cons_succ])
    refine wpAnyH_take (i := 9) (v := (.int .i64 ((ca : Int) + (0 : Int)))) rfl (by as_aux_lemma => kernel_rfl) (by as_aux_lemma => kernel_rfl) (by as_aux_lemma => kernel_rfl) (fun _ _ _ h => h) (Or.inl ⟨by kernel_rfl, ?_⟩) hS ?_
    · intro w hSw; (try dsimp only at hSw); go_simp
    (try simp only [Act.put, List.getElem_toArray, List.getElem_cons_zero, List.getElem_cons_succ, List.setIfInBounds_toArray, List.set_cons_zero, List.set_cons_succ])
    refine wpAnyH_take (i := 10) (v := (.slice a 0 0)) rfl (by as_aux_lemma => kernel_rfl) (by as_aux_lemma => kernel_rfl) (by as_aux_lemma => kernel_rfl) (fun _ _ _ h => h) (Or.inl ⟨by kernel_rfl, ?_⟩) hS ?_
    · intro w hSw; (try dsimp only at hSw); go_simp
    (try simp only [Act.put, List.getElem_toArray, List.getElem_cons_zero, List.getElem_cons_succ, List.setIfInBounds_toArray, List.set_cons_zero, List.set_cons_succ])
    refine wpAnyH_ready (rs := [11]) (by as_aux_lemma => kernel_rfl) (by simp) ?_
    refine AllReadyH.cons rfl (fun K hK => ?_) AllReadyH.nil
    go_simp
    refine Calls.mono (HD.out _ _ _ (hpr.below hb) ((ha.below hb).cut ca 0 hfz _ HC.out)) ?_
    rintro e w3 ⟨rfl, hc⟩
    have s3 : D1.heap.size ≤ w3.heap.size := hc.size
    have bq := hc
    replace cP0 := cell_later bq cP0
    replace zP := Nat.lt_of_lt_of_le zP bq.size
    replace cF0 := cell_later bq cF0
    replace zF := Nat.lt_of_lt_of_le zF bq.size
    replace cL0 := cell_later bq cL0
    replace cL1 := cell_later bq cL1
    replace zL := Nat.lt_of_lt_of_le zL bq.size
    replace hb := hb.trans (bq.mono hb.size)
    clear hc bq
    refine hK.out _ _ (⟨hb, cF0, cL0, cL1, cP0⟩) (fun hS => ?_)
    clear hK K
    (try simp only [Act.put, List.getElem_toArray, List.getElem_cons_zero, List.getElem_cons_succ, List.setIfInBounds_toArray, List.set_cons_zero, List.set_cons_succ])
    refine wpAnyH_take (i := 12) (v := (.bool q)) rfl (by as_aux_lemma => kernel_rfl) (by as_aux_lemma => kernel_rfl) (by as_aux_lemma => kernel_rfl) (fun _ _ _ h => h) (Or.inl ⟨by kernel_rfl, ?_⟩) hS ?_
    · intro w hSw; (try dsimp only at hSw); go_simp
    (try simp only [Act.put, List.getElem_toArray, List.getElem_cons_zero, List.getElem_cons_succ, List.setIfInBounds_toArray, List.set_cons_zero, List.set_cons_succ])
    refine wpAnyH_done (by kernel_rfl) ?_ _
    clear hS
    go_wp2
    go_ret
    exact ⟨rfl, hb⟩
  · have hcg : 0 < ca - f := by omega
    rcases a with _ | ⟨g, off, sub⟩
    · have hn0 : n = 0 := by
        rcases ha.2 with h | ⟨b1, o1, h, -⟩
        · exact h
        · cases h
      have HC := hid (show 0 < z → ∀ g off, (none : Option Addr) = some ⟨g, off, none⟩ → (none : Option Addr) = some ⟨g, off + f, none⟩ from fun h => absurd h (by omega))
      have hb : Below w.heap.size w w := Below.refl _ _
      go_enter Try.func137, Try.ntmps137
      go_wp2_with fail
      have bp : ∀ o0, Below w.heap.size w (w.alloc o0) := fun o0 => (Below.refl _ _).alloc (Nat.le_refl _) o0
      have hbt : ∀ o0, Below w.heap.size w (w.alloc o0) := fun o0 => hb.trans ((bp o0).mono hb.size)
      obtain ⟨w1, hw1⟩ : ∃ x, (w.alloc (.cells #[.int .i64 (f : Int), .int .i64 (z : Int)] 192)) = x := ⟨_, rfl⟩
      have hc : Below ((w.alloc (.cells #[.int .i64 (f : Int), .int .i64 (z : Int)] 192))).heap.size ((w.alloc (.cells #[.int .i64 (f : Int), .int .i64 (z : Int)] 192))) w1 := hw1 ▸ Below.refl _ _
      have s1 : w.heap.size + 1 ≤ w1.heap.size := by have := hc.size; simp at this; omega
      have bq : Below w.heap.size w w1 := (bp _).trans (hc.mono (bp _).size)
      replace cP0 := cell_later bq cP0
      replace zP := Nat.lt_of_lt_of_le zP bq.size
      replace cF0 := cell_later bq cF0
      replace zF := Nat.lt_of_lt_of_le zF bq.size
      have cL0 : w1.cell? ⟨w.heap.size, 0, none⟩ = some (.int .i64 (f : Int)) := cell_later hc (by simp [go_sem])
      have cL1 : w1.cell? ⟨w.heap.size, 1, none⟩ = some (.int .i64 (z : Int)) := cell_later hc (by simp [go_sem])
      have zL : w.heap.size < w1.heap.size := by omega
      replace hb := hb.trans (bq.mono hb.size)
      clear hc bq bp hbt
      rw [hw1]
      clear hw1
      have bd : Below w1.heap.size w1 w1.drew := (Below.refl _ _).drew
      refine wp_region_held_drew (S := fun w' => Below w.heap.size w w' ∧ w'.cell? ⟨bf, 0, none⟩ = some (.slice none n ca) ∧ w'.cell? ⟨w.heap.size, 0, none⟩ = some (.int .i64 (f : Int)) ∧ w'.cell? ⟨w.heap.size, 1, none⟩ = some (.int .i64 (z : Int)) ∧ w'.cell? ⟨bp, 0, none⟩ = some (.slice pa pn pc)) (by kernel_rfl) ⟨(hb.trans (bd.mono hb.size)), cell_later bd cF0, cell_later bd cL0, cell_later bd cL1, cell_later bd cP0⟩ (fun hS => ?_)
      obtain ⟨D1, hD⟩ : ∃ D, w1.drew = D := ⟨_, rfl⟩
      rw [hD] at hS bd ⊢
      have hc := bd
      clear hD bd
      have s2 : w1.heap.size ≤ D1.heap.size := hc.size
      have bq := hc
      replace cP0 := cell_later bq cP0
      replace zP := Nat.lt_of_lt_of_le zP bq.size
      replace cF0 := cell_later bq cF0
      replace zF := Nat.lt_of_lt_of_le zF bq.size
      replace cL0 := cell_later bq cL0
      replace cL1 := cell_later bq cL1
      replace zL := Nat.lt_of_lt_of_le zL bq.size
      replace hb := hb.trans (bq.mono hb.size)
      clear hc bq
      refine wpAnyH_take (i := 0) (v := (.slice pa pn pc)) rfl (by as_aux_lemma => kernel_rfl) (by as_aux_lemma => kernel_rfl) (by as_aux_lemma => kernel_rfl) (fun _ _ _ h => h) (Or.inl ⟨by kernel_rfl, ?_⟩) hS ?_
      · intro w hSw; (try dsimp only at hSw); obtain ⟨hSb, hl0, hl1, hl2, hl3⟩ := hSw; go_simp
      (try simp only [Act.put, List.getElem_toArray, List.getElem_cons_zero, List.getElem_cons_succ, List.setIfInBounds_toArray, List.set_cons_zero, List.set_cons_succ])
      refine wpAnyH_take (i := 1) (v := (.pointer (some ⟨bf, 0, none⟩))) rfl (by as_aux_lemma => kernel_rfl) (by as_aux_lemma => kernel_rfl) (by as_aux_lemma => kernel_rfl) (fun _ _ _ h => h) (Or.inl ⟨by kernel_rfl, ?_⟩) hS ?_
      · intro w hSw; (try dsimp only at hSw); go_simp
      (try simp only [Act.put, List.getElem_toArray, List.getElem_cons_zero, List.getElem_cons_succ, List.setIfInBounds_toArray, List.set_cons_zero, List.set_cons_succ])
      refine wpAnyH_take (i := 2) (v := (.slice none n ca)) rfl (by as_aux_lemma => kernel_rfl) (by as_aux_lemma => kernel_rfl) (by as_aux_lemma => kernel_rfl) (fun _ _ _ h => h) (Or.inl ⟨by kernel_rfl, ?_⟩) hS ?_
      · intro w hSw; (try dsimp only at hSw); obtain ⟨hSb, hl0, hl1, hl2, hl3⟩ := hSw; go_simp
      (try simp only [Act.put, List.getElem_toArray, List.getElem_cons_zero, List.getElem_cons_succ, List.setIfInBounds_toArray, List.set_cons_zero, List.set_cons_succ])
      refine wpAnyH_take (i := 3) (v := (.pointer (some ⟨w.heap.size, 0, none⟩))) rfl (by as_aux_lemma => kernel_rfl) (by as_aux_lemma => kernel_rfl) (by as_aux_lemma => kernel_rfl) (fun _ _ _ h => h) (Or.inl ⟨by kernel_rfl, ?_⟩) hS ?_
      · intro w hSw; (try dsimp only at hSw); go_simp
      (try simp only [Act.put, List.getElem_toArray, List.getElem_cons_zero, List.getElem_cons_succ, List.setIfInBounds_toArray, List.set_cons_zero, List.set_cons_succ])
      refine wpAnyH_take (i := 4) (v := (.int .i64 (f : Int))) rfl (by as_aux_lemma => kernel_rfl) (by as_aux_lemma => kernel_rfl) (by as_aux_lemma => kernel_rfl) (fun _ _ _ h => h) (Or.inl ⟨by kernel_rfl, ?_⟩) hS ?_
      · intro w hSw; (try dsimp only at hSw); obtain ⟨hSb, hl0, hl1, hl2, hl3⟩ := hSw; go_simp
      (try simp only [Act.put, List.getElem_toArray, List.getElem_cons_zero, List.getElem_cons_succ, List.setIfInBounds_toArray, List.set_cons_zero, List.set_cons_succ])
      refine wpAnyH_take (i := 5) (v := (.pointer (some ⟨w.heap.size, 0, none⟩))) rfl (by as_aux_lemma => kernel_rfl) (by as_aux_lemma => kernel_rfl) (by as_aux_lemma => kernel_rfl) (fun _ _ _ h => h) (Or.inl ⟨by kernel_rfl, ?_⟩) hS ?_
      · intro w hSw; (try dsimp only at hSw); go_simp
      (try simp only [Act.put, List.getElem_toArray, List.getElem_cons_zero, List.getElem_cons_succ, List.setIfInBounds_toArray, List.set_cons_zero, List.set_cons_succ])
      refine wpAnyH_take (i := 6) (v := (.int .i64 (f : Int))) rfl (by as_aux_lemma => kernel_rfl) (by as_aux_lemma => kernel_rfl) (by as_aux_lemma => kernel_rfl) (fun _ _ _ h => h) (Or.inl ⟨by kernel_rfl, ?_⟩) hS ?_
      · intro w hSw; (try dsimp only at hSw); obtain ⟨hSb, hl0, hl1, hl2, hl3⟩ := hSw; go_simp
      (try simp only [Act.put, List.getElem_toArray, List.getElem_cons_zero, List.getElem_cons_succ, List.setIfInBounds_toArray, List.set_cons_zero, List.set_cons_succ])
      refine wpAnyH_take (i := 7) (v := (.pointer (some ⟨w.heap.size, 1, none⟩))) rfl (by as_aux_lemma => kernel_rfl) (by as_aux_lemma => kernel_rfl) (by as_aux_lemma => kernel_rfl) (fun _ _ _ h => h) (Or.inl ⟨by kernel_rfl, ?_⟩) hS ?_
      · intro w hSw; (try dsimp only at hSw); go_simp
      (try simp only [Act.put, List.getElem_toArray, List.getElem_cons_zero, List.getElem_cons_succ, List.setIfInBounds_toArray, List.set_cons_zero, List.set_cons_succ])
      refine wpAnyH_take (i := 8) (v := (.int .i64 (z : Int))) rfl (by as_aux_lemma => kernel_rfl) (by as_aux_lemma => kernel_rfl) (by as_aux_lemma => kernel_rfl) (fun _ _ _ h => h) (Or.inl ⟨by kernel_rfl, ?_⟩) hS ?_
      · intro w hSw; (try dsimp only at hSw); obtain ⟨hSb, hl0, hl1, hl2, hl3⟩ := hSw; go_simp
      (try simp only [Act.put, List.getElem_toArray, List.getElem_cons_zero, List.getElem_cons_succ, List.setIfInBounds_toArray, List.set_cons_zero, List.set_cons_succ])
      refine wpAnyH_take (i := 9) (v := (.int .i64 ((f : Int) + (z : Int)))) rfl (by as_aux_lemma => kernel_rfl) (by as_aux_lemma => kernel_rfl) (by as_aux_lemma => kernel_rfl) (fun _ _ _ h => h) (Or.inl ⟨by kernel_rfl, ?_⟩) hS ?_
      · intro w hSw; (try dsimp only at hSw); go_simp
      (try simp only [Act.put, List.getElem_toArray, List.getElem_cons_zero, List.getElem_cons_succ, List.setIfInBounds_toArray, List.set_cons_zero, List.set_cons_succ])
      refine wpAnyH_take (i := 10) (v := (.slice none z (ca - f))) rfl (by as_aux_lemma => kernel_rfl) (by as_aux_lemma => kernel_rfl) (by as_aux_lemma => kernel_rfl) (fun _ _ _ h => h) (Or.inl ⟨by kernel_rfl, ?_⟩) hS ?_
      · intro w hSw; (try dsimp only at hSw); go_simp
      (try simp only [Act.put, List.getElem_toArray, List.getElem_cons_zero, List.getElem_cons_succ, List.setIfInBounds_toArray, List.set_cons_zero, List.set_cons_succ])
      refine wpAnyH_ready (rs := [11]) (by as_aux_lemma => kernel_rfl) (by simp) ?_
      refine AllReadyH.cons rfl (fun K hK => ?_) AllReadyH.nil
      go_simp
      refine Calls.mono (HD.out _ _ _ (hpr.below hb) ((ha.below hb).cut f z hfz _ HC.out)) ?_
      rintro e w3 ⟨rfl, hc⟩
      have s3 : D1.heap.size ≤ w3.heap.size := hc.size
      have bq := hc
      replace cP0 := cell_later bq cP0
      replace zP := Nat.lt_of_lt_of_le zP bq.size
      replace cF0 := cell_later bq cF0
      replace zF := Nat.lt_of_lt_of_le zF bq.size
      replace cL0 := cell_later bq cL0
      replace cL1 := cell_later bq cL1
      replace zL := Nat.lt_of_lt_of_le zL bq.size
      replace hb := hb.trans (bq.mono hb.size)
      clear hc bq
      refine hK.out _ _ (⟨hb, cF0, cL0, cL1, cP0⟩) (fun hS => ?_)
      clear hK K
      (try simp only [Act.put, List.getElem_toArray, List.getElem_cons_zero, List.getElem_cons_succ, List.setIfInBounds_toArray, List.set_cons_zero, List.set_cons_succ])
      refine wpAnyH_take (i := 12) (v := (.bool q)) rfl (by as_aux_lemma => kernel_rfl) (by as_aux_lemma => kernel_rfl) (by as_aux_lemma => kernel_rfl) (fun _ _ _ h => h) (Or.inl ⟨by kernel_rfl, ?_⟩) hS ?_
      · intro w hSw; (try dsimp only at hSw); go_simp
      (try simp only [Act.put, List.getElem_toArray, List.getElem_cons_zero, List.getElem_cons_succ, List.setIfInBounds_toArray, List.set_cons_zero, List.set_cons_succ])
      refine wpAnyH_done (by kernel_rfl) ?_ _
      clear hS
      go_wp2
      go_ret
      exact ⟨rfl, hb⟩
    · have HC := hid (show 0 < z → ∀ g' off', some (⟨g, off, sub⟩ : Addr) = some ⟨g', off', none⟩ → some ((⟨g, off, sub⟩ : Addr).add f) = some ⟨g', off' + f, none⟩ from fun _ g' off' h => by cases h; simp [Addr.add])
      have hb : Below w.heap.size w w := Below.refl _ _
      go_enter Try.func137, Try.ntmps137
      go_wp2_with fail
      have bp : ∀ o0, Below w.heap.size w (w.alloc o0) := fun o0 => (Below.refl _ _).alloc (Nat.le_refl _) o0
      have hbt : ∀ o0, Below w.heap.size w (w.alloc o0) := fun o0 => hb.trans ((bp o0).mono hb.size)
      obtain ⟨w1, hw1⟩ : ∃ x, (w.alloc (.cells #[.int .i64 (f : Int), .int .i64 (z : Int)] 192)) = x := ⟨_, rfl⟩
      have hc : Below ((w.alloc (.cells #[.int .i64 (f : Int), .int .i64 (z : Int)] 192))).heap.size ((w.alloc (.cells #[.int .i64 (f : Int), .int .i64 (z : Int)] 192))) w1 := hw1 ▸ Below.refl _ _
      have s1 : w.heap.size + 1 ≤ w1.heap.size := by have := hc.size; simp at this; omega
      have bq : Below w.heap.size w w1 := (bp _).trans (hc.mono (bp _).size)
      replace cP0 := cell_later bq cP0
      replace zP := Nat.lt_of_lt_of_le zP bq.size
      replace cF0 := cell_later bq cF0
      replace zF := Nat.lt_of_lt_of_le zF bq.size
      have cL0 : w1.cell? ⟨w.heap.size, 0, none⟩ = some (.int .i64 (f : Int)) := cell_later hc (by simp [go_sem])
      have cL1 : w1.cell? ⟨w.heap.size, 1, none⟩ = some (.int .i64 (z : Int)) := cell_later hc (by simp [go_sem])
      have zL : w.heap.size < w1.heap.size := by omega
      replace hb := hb.trans (bq.mono hb.size)
      clear hc bq bp hbt
      rw [hw1]
      clear hw1
      have bd : Below w1.heap.size w1 w1.drew := (Below.refl _ _).drew
      refine wp_region_held_drew (S := fun w' => Below w.heap.size w w' ∧ w'.cell? ⟨bf, 0, none⟩ = some (.slice (some ⟨g, off, sub⟩) n ca) ∧ w'.cell? ⟨w.heap.size, 0, none⟩ = some (.int .i64 (f : Int)) ∧ w'.cell? ⟨w.heap.size, 1, none⟩ = some (.int .i64 (z : Int)) ∧ w'.cell? ⟨bp, 0, none⟩ = some (.slice pa pn pc)) (by kernel_rfl) ⟨(hb.trans (bd.mono hb.size)), cell_later bd cF0, cell_later bd cL0, cell_later bd cL1, cell_later bd cP0⟩ (fun hS => ?_)
      obtain ⟨D1, hD⟩ : ∃ D, w1.drew = D := ⟨_, rfl⟩
      rw [hD] at hS bd ⊢
      have hc := bd
      clear hD bd
      have s2 : w1.heap.size ≤ D1.heap.size := hc.size
      have bq := hc
      replace cP0 := cell_later bq cP0
      replace zP := Nat.lt_of_lt_of_le zP bq.size
      replace cF0 := cell_later bq cF0
      replace zF := Nat.lt_of_lt_of_le zF bq.size
      replace cL0 := cell_later bq cL0
      replace cL1 := cell_later bq cL1
      replace zL := Nat.lt_of_lt_of_le zL bq.size
      replace hb := hb.trans (bq.mono hb.size)
      clear hc bq
      refine wpAnyH_take (i := 0) (v := (.slice pa pn pc)) rfl (by as_aux_lemma => kernel_rfl) (by as_aux_lemma => kernel_rfl) (by as_aux_lemma => kernel_rfl) (fun _ _ _ h => h) (Or.inl ⟨by kernel_rfl, ?_⟩) hS ?_
      · intro w hSw; (try dsimp only at hSw); obtain ⟨hSb, hl0, hl1, hl2, hl3⟩ := hSw; go_simp
      (try simp only [Act.put, List.getElem_toArray, List.getElem_cons_zero, List.getElem_cons_succ, List.setIfInBounds_toArray, List.set_cons_zero, List.set_cons_succ])
      refine wpAnyH_take (i := 1) (v := (.pointer (some ⟨bf, 0, none⟩))) rfl (by as_aux_lemma => kernel_rfl) (by as_aux_lemma => kernel_rfl) (by as_aux_lemma => kernel_rfl) (fun _ _ _ h => h) (Or.inl ⟨by kernel_rfl, ?_⟩) hS ?_
      · intro w hSw; (try dsimp only at hSw); go_simp
      (try simp only [Act.put, List.getElem_toArray, List.getElem_cons_zero, List.getElem_cons_succ, List.setIfInBounds_toArray, List.set_cons_zero, List.set_cons_succ])
      refine wpAnyH_take (i := 2) (v := (.slice (some ⟨g, off, sub⟩) n ca)) rfl (by as_aux_lemma => kernel_rfl) (by as_aux_lemma => kernel_rfl) (by as_aux_lemma => kernel_rfl) (fun _ _ _ h => h) (Or.inl ⟨by kernel_rfl, ?_⟩) hS ?_
      · intro w hSw; (try dsimp only at hSw); obtain ⟨hSb, hl0, hl1, hl2, hl3⟩ := hSw; go_simp
      (try simp only [Act.put, List.getElem_toArray, List.getElem_cons_zero, List.getElem_cons_succ, List.setIfInBounds_toArray, List.set_cons_zero, List.set_cons_succ])
      refine wpAnyH_take (i := 3) (v := (.pointer (some ⟨w.heap.size, 0, none⟩))) rfl (by as_aux_lemma => kernel_rfl) (by as_aux_lemma => kernel_rfl) (by as_aux_lemma => kernel_rfl) (fun _ _ _ h => h) (Or.inl ⟨by kernel_rfl, ?_⟩) hS ?_
      · intro w hSw; (try dsimp only at hSw); go_simp
      (try simp only [Act.put, List.getElem_toArray, List.getElem_cons_zero, List.getElem_cons_succ, List.setIfInBounds_toArray, List.set_cons_zero, List.set_cons_succ])
      refine wpAnyH_take (i := 4) (v := (.int .i64 (f : Int))) rfl (by as_aux_lemma => kernel_rfl) (by as_aux_lemma => kernel_rfl) (by as_aux_lemma => kernel_rfl) (fun _ _ _ h => h) (Or.inl ⟨by kernel_rfl, ?_⟩) hS ?_
      · intro w hSw; (try dsimp only at hSw); obtain ⟨hSb, hl0, hl1, hl2, hl3⟩ := hSw; go_simp
      (try simp only [Act.put, List.getElem_toArray, List.getElem_cons_zero, List.getElem_cons_succ, List.setIfInBounds_toArray, List.set_cons_zero, List.set_cons_succ])
      refine wpAnyH_take (i := 5) (v := (.pointer (some ⟨w.heap.size, 0, none⟩))) rfl (by as_aux_lemma => kernel_rfl) (by as_aux_lemma => kernel_rfl) (by as_aux_lemma => kernel_rfl) (fun _ _ _ h => h) (Or.inl ⟨by kernel_rfl, ?_⟩) hS ?_
      · intro w hSw; (try dsimp only at hSw); go_simp
      (try simp only [Act.put, List.getElem_toArray, List.getElem_cons_zero, List.getElem_cons_succ, List.setIfInBounds_toArray, List.set_cons_zero, List.set_cons_succ])
      refine wpAnyH_take (i := 6) (v := (.int .i64 (f : Int))) rfl (by as_aux_lemma => kernel_rfl) (by as_aux_lemma => kernel_rfl) (by as_aux_lemma => kernel_rfl) (fun _ _ _ h => h) (Or.inl ⟨by kernel_rfl, ?_⟩) hS ?_
      · intro w hSw; (try dsimp only at hSw); obtain ⟨hSb, hl0, hl1, hl2, hl3⟩ := hSw; go_simp
      (try simp only [Act.put, List.getElem_toArray, List.getElem_cons_zero, List.getElem_cons_succ, List.setIfInBounds_toArray, List.set_cons_zero, List.set_cons_succ])
      refine wpAnyH_take (i := 7) (v := (.pointer (some ⟨w.heap.size, 1, none⟩))) rfl (by as_aux_lemma => kernel_rfl) (by as_aux_lemma => kernel_rfl) (by as_aux_lemma => kernel_rfl) (fun _ _ _ h => h) (Or.inl ⟨by kernel_rfl, ?_⟩) hS ?_
      · intro w hSw; (try dsimp only at hSw); go_simp
      (try simp only [Act.put, List.getElem_toArray, List.getElem_cons_zero, List.getElem_cons_succ, List.setIfInBounds_toArray, List.set_cons_zero, List.set_cons_succ])
      refine wpAnyH_take (i := 8) (v := (.int .i64 (z : Int))) rfl (by as_aux_lemma => kernel_rfl) (by as_aux_lemma => kernel_rfl) (by as_aux_lemma => kernel_rfl) (fun _ _ _ h => h) (Or.inl ⟨by kernel_rfl, ?_⟩) hS ?_
      · intro w hSw; (try dsimp only at hSw); obtain ⟨hSb, hl0, hl1, hl2, hl3⟩ := hSw; go_simp
      (try simp only [Act.put, List.getElem_toArray, List.getElem_cons_zero, List.getElem_cons_succ, List.setIfInBounds_toArray, List.set_cons_zero, List.set_cons_succ])
      refine wpAnyH_take (i := 9) (v := (.int .i64 ((f : Int) + (z : Int)))) rfl (by as_aux_lemma => kernel_rfl) (by as_aux_lemma => kernel_rfl) (by as_aux_lemma => kernel_rfl) (fun _ _ _ h => h) (Or.inl ⟨by kernel_rfl, ?_⟩) hS ?_
      · intro w hSw; (try dsimp only at hSw); go_simp
      (try simp only [Act.put, List.getElem_toArray, List.getElem_cons_zero, List.getElem_cons_succ, List.setIfInBounds_toArray, List.set_cons_zero, List.set_cons_succ])
      refine wpAnyH_take (i := 10) (v := (.slice (some ((⟨g, off, sub⟩ : Addr).add f)) z (ca - f))) rfl (by as_aux_lemma => kernel_rfl) (by as_aux_lemma => kernel_rfl) (by as_aux_lemma => kernel_rfl) (fun _ _ _ h => h) (Or.inl ⟨by kernel_rfl, ?_⟩) hS ?_
      · intro w hSw; (try dsimp only at hSw); go_simp
      (try simp only [Act.put, List.getElem_toArray, List.getElem_cons_zero, List.getElem_cons_succ, List.setIfInBounds_toArray, List.set_cons_zero, List.set_cons_succ])
      refine wpAnyH_ready (rs := [11]) (by as_aux_lemma => kernel_rfl) (by simp) ?_
      refine AllReadyH.cons rfl (fun K hK => ?_) AllReadyH.nil
      go_simp
      refine Calls.mono (HD.out _ _ _ (hpr.below hb) ((ha.below hb).cut f z hfz _ HC.out)) ?_
      rintro e w3 ⟨rfl, hc⟩
      have s3 : D1.heap.size ≤ w3.heap.size := hc.size
      have bq := hc
      replace cP0 := cell_later bq cP0
      replace zP := Nat.lt_of_lt_of_le zP bq.size
      replace cF0 := cell_later bq cF0
      replace zF := Nat.lt_of_lt_of_le zF bq.size
      replace cL0 := cell_later bq cL0
      replace cL1 := cell_later bq cL1
      replace zL := Nat.lt_of_lt_of_le zL bq.size
      replace hb := hb.trans (bq.mono hb.size)
      clear hc bq
      refine hK.out _ _ (⟨hb, cF0, cL0, cL1, cP0⟩) (fun hS => ?_)
      clear hK K
      (try simp only [Act.put, List.getElem_toArray, List.getElem_cons_zero, List.getElem_cons_succ, List.setIfInBounds_toArray, List.set_cons_zero, List.set_cons_succ])
      refine wpAnyH_take (i := 12) (v := (.bool q)) rfl (by as_aux_lemma => kernel_rfl) (by as_aux_lemma => kernel_rfl) (by as_aux_lemma => kernel_rfl) (fun _ _ _ h => h) (Or.inl ⟨by kernel_rfl, ?_⟩) hS ?_
      · intro w hSw; (try dsimp only at hSw); go_simp
      (try simp only [Act.put, List.getElem_toArray, List.getElem_cons_zero, List.getElem_cons_succ, List.setIfInBounds_toArray, List.set_cons_zero, List.set_cons_succ])
      refine wpAnyH_done (by kernel_rfl) ?_ _
      clear hS
      go_wp2
      go_ret
      exact ⟨rfl, hb⟩

set_option maxRecDepth 10000 in
set_option maxHeartbeats 3200000 in
theorem hitsAmong_any (al : Option Addr) (cl bp bf : Nat) (pa : Option Addr) (pn pc : Nat) (is : List In) (a : Option Addr) (n ca : Nat) (xs : List Int) (w : World) (hpr : RdR inE 8 w pa pn is) (hin : Inside is) (hp1 : 1 ≤ pn) (hp2 : pn ≤ 80)
    (cP0 : w.cell? ⟨bp, 0, none⟩ = some (.slice pa pn pc)) (cF0 : w.cell? ⟨bf, 0, none⟩ = some (.slice a n ca)) (ha : Rd .u8 w a n xs) (hB : Bytes xs) (h1 : n ≤ 400) (hca : n ≤ ca) (hcm : ca ≤ maxLen) (hl : RdR lineE 2 w al (lns xs).length (lns xs)) :
    Calls Try.prog 136 #[.slice al (lns xs).length cl, .func (.func 137) #[] #[.pointer (some ⟨bp, 0, none⟩), .pointer (some ⟨bf, 0, none⟩)]] w fun e w' => ∃ v, e = .returned v ∧ RowI .i64 2 w' w.heap.size w'.heap.size v (hits is xs).length (hits is xs) ∧ Below w.heap.size w w' := by
  obtain ⟨i0, hi, hz0, hz1, hz2⟩ := info_parts info64f
  have hlen := ha.1
  have hll := lns_len xs
  have HM : Hid _ := hcm
  have HWa : Hid (Rd .u8 w a n xs ∧ w.cell? ⟨bp, 0, none⟩ = some (.slice pa pn pc) ∧ w.cell? ⟨bf, 0, none⟩ = some (.slice a n ca) ∧ RdR inE 8 w pa pn is ∧ RdR lineE 2 w al (lns xs).length (lns xs)) := ⟨ha, cP0, cF0, hpr, hl⟩
  have hE1 : Own .i64 2 w w.heap.size (.slice none 0 0) 0 [] := Own.nil _ _
  clear hcm cP0 cF0 hpr hl ha
  go_enter Try.func136, Try.ntmps136
  go_wp2
  go_loopw [5, 10] (fun v i wr => ∃ k : Nat, k ≤ (lns xs).length ∧ i = .int .i64 k ∧ Own .i64 2 wr w.heap.size v (hitsN is xs k).length (hitsN is xs k) ∧ Below w.heap.size w wr) (fun _ i _ => (lns xs).length - (intOf i).toNat)
  case atStart => exact ⟨0, Nat.zero_le _, rfl, hE1, Below.refl _ _⟩
  case round =>
    obtain ⟨k, hk, rfl, hO, hbr⟩ := hrel
    by_cases hlt : k < (lns xs).length
    · have hlk : (lns xs)[k]? = some (lns xs)[k] := List.getElem?_eq_getElem hlt
      have hgd : (lns xs).getD k (0, 0) = (lns xs)[k] := by rw [List.getD_eq_getElem?_getD, hlk]; rfl
      have hin2 := lns_in xs _ (List.mem_of_getElem? hlk)
      have hst : hitsN is xs (k + 1) = hitsN is xs k ++ (if hasV is (cutOf xs (lns xs)[k]) then [(k : Int)] else []) := by rw [hitsN, hgd]
      obtain ⟨⟨f', z'⟩, hl⟩ : ∃ l, l = (lns xs)[k] := ⟨_, rfl⟩
      rw [← hl] at hlk hin2 hst
      simp only at hin2
      obtain ⟨f, rfl⟩ : ∃ f : Nat, f' = (f : Int) := ⟨f'.toNat, by omega⟩
      obtain ⟨z, rfl⟩ : ∃ z : Nat, z' = (z : Int) := ⟨z'.toNat, by omega⟩
      clear hl hgd
      have hfz : f + z ≤ n := by omega
      obtain ⟨B, o, x, hax, hx, hcx⟩ := (HWa.out.2.2.2.2.below hbr).at hlt
      rw [hlk] at hx
      obtain rfl := Option.some.inj hx
      subst hax
      have l0 := hcx 0 _ rfl
      have l1 := hcx 1 _ rfl
      simp only [Nat.add_zero] at l0
      clear hcx hx hin2
      have hlt' : (k : Int) < ((lns xs).length : Int) := by omega
      have QC := fun w' h0 h1' h2 h3 => hitOne_any bp bf pa pn pc is a n ca f z xs w' h0 hin hp1 hp2 h1' h2 h3 hB h1 hca HM.out hfz
      have HO := hid hO
      have hkl := hitsN_len (is := is) (xs := xs) k
      clear hO hlk
      have hwB : w.heap.size ≤ wr.heap.size := hbr.size
      have bq : ∀ o, Below wr.heap.size wr (wr.alloc o) := fun o => (Below.refl _ _).alloc (Nat.le_refl _) o
      generalize hLn : (lns xs).length = L at *
      generalize hHL : (hitsN is xs k).length = HL at *
      by_cases hhit : hasV is (cutOf xs ((f : Int), (z : Int))) = true
      · rw [hhit] at QC
        rw [if_pos hhit] at hst
        have HQC : Hid _ := QC
        have HST := hid hst
        clear QC hst hhit
        go_wp2_with fail
        have hbb : ∀ o, Below w.heap.size w (wr.alloc o) := fun o => hbr.trans ((bq o).mono hwB)
        refine Calls.mono (HQC.out _ (HWa.out.2.2.2.1.below (hbb _)) (cell_later (hbb _) HWa.out.2.1) (cell_later (hbb _) HWa.out.2.2.1) (HWa.out.1.below (hbb _))) ?_
        rintro e w3 ⟨rfl, hc⟩
        have hO3 := (HO.out.below (bq _)).below hc
        have hb3 := (hbb _).trans (hc.mono (hbb _).size)
        clear hc
        have ba : Below w3.heap.size w3 (w3.alloc (.cells #[.int .i64 (k : Int)] 2)) := (Below.refl _ _).alloc (Nat.le_refl _) _
        have hO4 := hO3.below ba
        have hb4 := hb3.trans (ba.mono hb3.size)
        go_wp2_with (at_builtin; refine wpList_append_rd rfl _ _ 60 rfl .i64 w.heap.size 2 i0 8 Try.underlying60 hi hz0 hz1 hz2 _ HL _ rfl hO4 (some ⟨w3.heap.size, 0, none⟩) 1 1 [(k : Int)] rfl (rd_one9 w3 k 2) (by unfold maxLen; omega) (by omega) hb4.size ?_)
        intro v5 w5 hO5 hg5
        have hb5 := hb4.grown hg5 hb4.size (fun j hj => (hO4.lt j hj).1)
        rw [← HST.out] at hO5
        have hHS : (hitsN is xs (k + 1)).length = HL + 1 := by rw [HST.out, List.length_append, hHL]; rfl
        rw [← hHS] at hO5
        have HO5 := hid hO5
        clear hO3 hb3 ba hO4 hb4 hg5 hO5 hHS
        go_wp2
        go_roundw
        case rel => exact ⟨k + 1, by omega, by go_num, HO5.out, hb5⟩
        case measure => simp [intOf]; omega
      · have hhf : hasV is (cutOf xs ((f : Int), (z : Int))) = false := by simpa using hhit
        rw [hhf] at QC
        rw [if_neg hhit, List.append_nil] at hst
        have HQC : Hid _ := QC
        have HST := hid hst
        clear QC hst hhit hhf
        go_wp2_with fail
        have hbb : ∀ o, Below w.heap.size w (wr.alloc o) := fun o => hbr.trans ((bq o).mono hwB)
        refine Calls.mono (HQC.out _ (HWa.out.2.2.2.1.below (hbb _)) (cell_later (hbb _) HWa.out.2.1) (cell_later (hbb _) HWa.out.2.2.1) (HWa.out.1.below (hbb _))) ?_
        rintro e w3 ⟨rfl, hc⟩
        have hO3 := (HO.out.below (bq _)).below hc
        have hb3 := (hbb _).trans (hc.mono (hbb _).size)
        clear hc
        rw [← hHL, ← HST.out] at hO3
        have HO5 := hid hO3
        clear hO3
        go_wp2
        go_roundw
        case rel => exact ⟨k + 1, by omega, by go_num, HO5.out, hb3⟩
        case measure => simp [intOf]; omega
    · obtain rfl : k = (lns xs).length := by omega
      have hlt' : ¬ ((lns xs).length : Int) < ((lns xs).length : Int) := by omega
      go_wp2
      go_ret
      exact ⟨_, rfl, RowI.of hO, hbr⟩

set_option maxRecDepth 10000 in
set_option maxHeartbeats 3200000 in
theorem implFindLine_any (pa : Option Addr) (pn pc : Nat) (is : List In) (a : Option Addr) (n ca : Nat) (xs : List Int) (F N : Int) (B : Bool) (w : World) (hpr : RdR inE 8 w pa pn is) (hs : inSum is ≤ 1048576) (hpn : pn ≤ 1048576)
    (ha : Rd .u8 w a n xs) (hB : Bytes xs) (h1 : n ≤ 1073741824) (hca : n ≤ ca) (hcm : ca ≤ maxLen) :
    Calls Try.prog 58 #[.slice pa pn pc, .agg #[.slice a n ca], .int .i64 F, .int .i64 N, .bool B] w fun e w' => e = .returned (.agg #[.int .i64 (fdC is xs F N), .int .i64 (fdV is xs F N B)]) ∧ Below w.heap.size w w' := by
  have hlen := ha.1
  have PF := fun w' h' => implProgFault_any pa pn pc is w' h' hs hpn
  by_cases hP : progFault is = 0
  case neg =>
    have e1 : fdC is xs F N = progFault is := by unfold fdC; rw [if_pos hP]
    have e2 : fdV is xs F N B = 0 := by unfold fdV; rw [if_neg (by rw [e1]; exact hP)]
    rw [e1, e2]
    generalize progFault is = P at *
    have HPF : Hid _ := PF
    clear PF e1 e2
    go_enter Try.func58, Try.ntmps58
    have hb : Below w.heap.size w w := Below.refl _ _
    go_wp2_with fail
    have bp : ∀ o0 o1 o2, Below w.heap.size w (((w.alloc o0).alloc o1).alloc o2) := fun o0 o1 o2 => (((Below.refl _ _).alloc (Nat.le_refl _) o0).alloc (by simp) o1).alloc (by simp; omega) o2
    have hbt : ∀ o0 o1 o2, Below w.heap.size w (((w.alloc o0).alloc o1).alloc o2) := fun o0 o1 o2 => hb.trans ((bp o0 o1 o2).mono hb.size)
    refine Calls.mono (HPF.out _ (hpr.below (hbt _ _ _))) ?_
    rintro e w1 ⟨rfl, hc⟩
    have s1 : w.heap.size + 3 ≤ w1.heap.size := by have := hc.size; simp at this; omega
    have bq : Below w.heap.size w w1 := (bp _ _ _).trans (hc.mono (bp _ _ _).size)
    have cp0 : w1.cell? ⟨w.heap.size, 0, none⟩ = some (.slice pa pn pc) := cell_later hc (by simp [go_sem])
    have zp : w.heap.size < w1.heap.size := by omega
    have cf0 : w1.cell? ⟨w.heap.size + 1, 0, none⟩ = some (.slice a n ca) := cell_later hc (by simp [go_sem])
    have zf : w.heap.size + 1 < w1.heap.size := by omega
    have cR0 : w1.cell? ⟨w.heap.size + 1 + 1, 0, none⟩ = some (.int .i64 0) := cell_later hc (by simp [go_sem])
    have fR0 : w1.frozen? ⟨w.heap.size + 1 + 1, 0, none⟩ = false := (hc.frozen (p := ⟨w.heap.size + 1 + 1, 0, none⟩) (by first | (simp; done) | (simp; omega))).trans (by simp [go_sem])
    have cR1 : w1.cell? ⟨w.heap.size + 1 + 1, 1, none⟩ = some (.int .i64 0) := cell_later hc (by simp [go_sem])
    have fR1 : w1.frozen? ⟨w.heap.size + 1 + 1, 1, none⟩ = false := (hc.frozen (p := ⟨w.heap.size + 1 + 1, 1, none⟩) (by first | (simp; done) | (simp; omega))).trans (by simp [go_sem])
    have zR : w.heap.size + 1 + 1 < w1.heap.size := by omega
    replace hb := hb.trans (bq.mono hb.size)
    clear hc bq bp hbt
    go_wp2
    exact bodyPost_ret (v := .agg #[.int .i64 P, .int .i64 0]) (by simp [results, Try.results58, go_sem, cR0, cR1]) rfl ⟨rfl, ((hb.setCell (by first | omega | (simp; omega) | simp) _).setCell (by first | omega | (simp; omega) | simp) _)⟩
  have hpo := progFault_ok hP
  have hin := inside_of hP
  have hpl := hpr.1
  rw [hP] at PF
  have HPF : Hid _ := PF
  have LI := fun w' h' => implLinesIn_any a n ca xs w' h' hB h1 hca (by unfold maxLen at hcm; omega)
  unfold linCode linRes at LI
  by_cases hn : 400 < n
  · have e1 : fdC is xs F N = 2 := by unfold fdC; rw [if_neg (by omega), if_pos (by omega)]
    have e2 : fdV is xs F N B = 0 := by unfold fdV; rw [if_neg (by omega)]
    rw [e1, e2]
    rw [if_pos (by omega), if_pos (by omega)] at LI
    have HLI : Hid _ := LI
    clear PF LI e1 e2 hpo hin hP
    go_enter Try.func58, Try.ntmps58
    have hb : Below w.heap.size w w := Below.refl _ _
    go_wp2_with fail
    have bp : ∀ o0 o1 o2, Below w.heap.size w (((w.alloc o0).alloc o1).alloc o2) := fun o0 o1 o2 => (((Below.refl _ _).alloc (Nat.le_refl _) o0).alloc (by simp) o1).alloc (by simp; omega) o2
    have hbt : ∀ o0 o1 o2, Below w.heap.size w (((w.alloc o0).alloc o1).alloc o2) := fun o0 o1 o2 => hb.trans ((bp o0 o1 o2).mono hb.size)
    refine Calls.mono (HPF.out _ (hpr.below (hbt _ _ _))) ?_
    rintro e w1 ⟨rfl, hc⟩
    have s1 : w.heap.size + 3 ≤ w1.heap.size := by have := hc.size; simp at this; omega
    have bq : Below w.heap.size w w1 := (bp _ _ _).trans (hc.mono (bp _ _ _).size)
    have cp0 : w1.cell? ⟨w.heap.size, 0, none⟩ = some (.slice pa pn pc) := cell_later hc (by simp [go_sem])
    have zp : w.heap.size < w1.heap.size := by omega
    have cf0 : w1.cell? ⟨w.heap.size + 1, 0, none⟩ = some (.slice a n ca) := cell_later hc (by simp [go_sem])
    have zf : w.heap.size + 1 < w1.heap.size := by omega
    have cR0 : w1.cell? ⟨w.heap.size + 1 + 1, 0, none⟩ = some (.int .i64 0) := cell_later hc (by simp [go_sem])
    have fR0 : w1.frozen? ⟨w.heap.size + 1 + 1, 0, none⟩ = false := (hc.frozen (p := ⟨w.heap.size + 1 + 1, 0, none⟩) (by first | (simp; done) | (simp; omega))).trans (by simp [go_sem])
    have cR1 : w1.cell? ⟨w.heap.size + 1 + 1, 1, none⟩ = some (.int .i64 0) := cell_later hc (by simp [go_sem])
    have fR1 : w1.frozen? ⟨w.heap.size + 1 + 1, 1, none⟩ = false := (hc.frozen (p := ⟨w.heap.size + 1 + 1, 1, none⟩) (by first | (simp; done) | (simp; omega))).trans (by simp [go_sem])
    have zR : w.heap.size + 1 + 1 < w1.heap.size := by omega
    replace hb := hb.trans (bq.mono hb.size)
    clear hc bq bp hbt
    go_wp2_with fail
    refine Calls.mono (HLI.out _ (ha.below hb)) ?_
    rintro e w2 ⟨vl, rfl, rl, hc⟩
    obtain ⟨al, cl, rfl, -, -⟩ := RowS.shape lineE_len rl
    have s2 : w1.heap.size ≤ w2.heap.size := hc.size
    have bq := hc
    replace cp0 := cell_later bq cp0
    replace zp := Nat.lt_of_lt_of_le zp bq.size
    replace cf0 := cell_later bq cf0
    replace zf := Nat.lt_of_lt_of_le zf bq.size
    replace cR0 := cell_later bq cR0
    replace fR0 := (bq.frozen (p := ⟨w.heap.size + 1 + 1, 0, none⟩) zR).trans fR0
    replace cR1 := cell_later bq cR1
    replace fR1 := (bq.frozen (p := ⟨w.heap.size + 1 + 1, 1, none⟩) zR).trans fR1
    replace zR := Nat.lt_of_lt_of_le zR bq.size
    replace hb := hb.trans (bq.mono hb.size)
    clear hc bq
    go_wp2
    exact bodyPost_ret (v := .agg #[.int .i64 2, .int .i64 0]) (by simp [results, Try.results58, go_sem, cR0, cR1, zR]) rfl ⟨rfl, (((hb.setCell (by first | omega | (simp; omega) | simp) _).setCell (by first | omega | (simp; omega) | simp) _).alloc (by have := hb.size; simp; omega) _)⟩
  rw [if_neg (by omega), if_neg (by omega)] at LI
  have hll := lns_len xs
  have HA := fun al cl w' h0 c0 c1 h hl => hitsAmong_any al cl w.heap.size (w.heap.size + 1) pa pn pc is a n ca xs w' h0 hin (by omega) (by omega) c0 c1 h hB (by omega) hca hcm hl
  have hhl := hits_le is xs
  have hpw : (hits is xs).Pairwise (· < ·) := hitsN_pw _
  have FI := fun A CA w' h h5 h6 h7 => hitFrom_any A (hits is xs).length CA (hits is xs) F N B w' h h5 (by omega) hpw h6 h7
  generalize hLn : (lns xs).length = L at *
  have HLI : Hid _ := LI
  clear PF LI hpo hcm hca
  by_cases hF1 : F < -1
  · skip
    have e1 : fdC is xs F N = 3 := by unfold fdC; rw [if_neg (by omega), if_neg (by omega), if_pos (by omega)]
    have e2 : fdV is xs F N B = 0 := by unfold fdV; rw [if_neg (by omega)]
    rw [e1, e2]
    clear e1 e2 HA FI hin
    go_enter Try.func58, Try.ntmps58
    have hb : Below w.heap.size w w := Below.refl _ _
    go_wp2_with fail
    have bp : ∀ o0 o1 o2, Below w.heap.size w (((w.alloc o0).alloc o1).alloc o2) := fun o0 o1 o2 => (((Below.refl _ _).alloc (Nat.le_refl _) o0).alloc (by simp) o1).alloc (by simp; omega) o2
    have hbt : ∀ o0 o1 o2, Below w.heap.size w (((w.alloc o0).alloc o1).alloc o2) := fun o0 o1 o2 => hb.trans ((bp o0 o1 o2).mono hb.size)
    refine Calls.mono (HPF.out _ (hpr.below (hbt _ _ _))) ?_
    rintro e w1 ⟨rfl, hc⟩
    have s1 : w.heap.size + 3 ≤ w1.heap.size := by have := hc.size; simp at this; omega
    have bq : Below w.heap.size w w1 := (bp _ _ _).trans (hc.mono (bp _ _ _).size)
    have cp0 : w1.cell? ⟨w.heap.size, 0, none⟩ = some (.slice pa pn pc) := cell_later hc (by simp [go_sem])
    have zp : w.heap.size < w1.heap.size := by omega
    have cf0 : w1.cell? ⟨w.heap.size + 1, 0, none⟩ = some (.slice a n ca) := cell_later hc (by simp [go_sem])
    have zf : w.heap.size + 1 < w1.heap.size := by omega
    have cR0 : w1.cell? ⟨w.heap.size + 1 + 1, 0, none⟩ = some (.int .i64 0) := cell_later hc (by simp [go_sem])
    have fR0 : w1.frozen? ⟨w.heap.size + 1 + 1, 0, none⟩ = false := (hc.frozen (p := ⟨w.heap.size + 1 + 1, 0, none⟩) (by first | (simp; done) | (simp; omega))).trans (by simp [go_sem])
    have cR1 : w1.cell? ⟨w.heap.size + 1 + 1, 1, none⟩ = some (.int .i64 0) := cell_later hc (by simp [go_sem])
    have fR1 : w1.frozen? ⟨w.heap.size + 1 + 1, 1, none⟩ = false := (hc.frozen (p := ⟨w.heap.size + 1 + 1, 1, none⟩) (by first | (simp; done) | (simp; omega))).trans (by simp [go_sem])
    have zR : w.heap.size + 1 + 1 < w1.heap.size := by omega
    replace hb := hb.trans (bq.mono hb.size)
    clear hc bq bp hbt
    go_wp2_with fail
    refine Calls.mono (HLI.out _ (ha.below hb)) ?_
    rintro e w2 ⟨vl, rfl, rl, hc⟩
    obtain ⟨al, cl, rfl, -, -⟩ := RowS.shape lineE_len rl
    have s2 : w1.heap.size ≤ w2.heap.size := hc.size
    have bq := hc
    replace cp0 := cell_later bq cp0
    replace zp := Nat.lt_of_lt_of_le zp bq.size
    replace cf0 := cell_later bq cf0
    replace zf := Nat.lt_of_lt_of_le zf bq.size
    replace cR0 := cell_later bq cR0
    replace fR0 := (bq.frozen (p := ⟨w.heap.size + 1 + 1, 0, none⟩) zR).trans fR0
    replace cR1 := cell_later bq cR1
    replace fR1 := (bq.frozen (p := ⟨w.heap.size + 1 + 1, 1, none⟩) zR).trans fR1
    replace zR := Nat.lt_of_lt_of_le zR bq.size
    replace hb := hb.trans (bq.mono hb.size)
    clear hc bq
    go_wp2
    exact bodyPost_ret (v := .agg #[.int .i64 3, .int .i64 0]) (by simp [results, Try.results58, go_sem, cR0, cR1, zR]) rfl ⟨rfl, (((hb.setCell (by first | omega | (simp; omega) | simp) _).setCell (by first | omega | (simp; omega) | simp) _).alloc (by have := hb.size; simp; omega) _)⟩
  by_cases hF2 : (L : Int) < F
  · skip
    have e1 : fdC is xs F N = 3 := by unfold fdC; rw [if_neg (by omega), if_neg (by omega), if_pos (by omega)]
    have e2 : fdV is xs F N B = 0 := by unfold fdV; rw [if_neg (by omega)]
    rw [e1, e2]
    clear e1 e2 HA FI hin
    go_enter Try.func58, Try.ntmps58
    have hb : Below w.heap.size w w := Below.refl _ _
    go_wp2_with fail
    have bp : ∀ o0 o1 o2, Below w.heap.size w (((w.alloc o0).alloc o1).alloc o2) := fun o0 o1 o2 => (((Below.refl _ _).alloc (Nat.le_refl _) o0).alloc (by simp) o1).alloc (by simp; omega) o2
    have hbt : ∀ o0 o1 o2, Below w.heap.size w (((w.alloc o0).alloc o1).alloc o2) := fun o0 o1 o2 => hb.trans ((bp o0 o1 o2).mono hb.size)
    refine Calls.mono (HPF.out _ (hpr.below (hbt _ _ _))) ?_
    rintro e w1 ⟨rfl, hc⟩
    have s1 : w.heap.size + 3 ≤ w1.heap.size := by have := hc.size; simp at this; omega
    have bq : Below w.heap.size w w1 := (bp _ _ _).trans (hc.mono (bp _ _ _).size)
    have cp0 : w1.cell? ⟨w.heap.size, 0, none⟩ = some (.slice pa pn pc) := cell_later hc (by simp [go_sem])
    have zp : w.heap.size < w1.heap.size := by omega
    have cf0 : w1.cell? ⟨w.heap.size + 1, 0, none⟩ = some (.slice a n ca) := cell_later hc (by simp [go_sem])
    have zf : w.heap.size + 1 < w1.heap.size := by omega
    have cR0 : w1.cell? ⟨w.heap.size + 1 + 1, 0, none⟩ = some (.int .i64 0) := cell_later hc (by simp [go_sem])
    have fR0 : w1.frozen? ⟨w.heap.size + 1 + 1, 0, none⟩ = false := (hc.frozen (p := ⟨w.heap.size + 1 + 1, 0, none⟩) (by first | (simp; done) | (simp; omega))).trans (by simp [go_sem])
    have cR1 : w1.cell? ⟨w.heap.size + 1 + 1, 1, none⟩ = some (.int .i64 0) := cell_later hc (by simp [go_sem])
    have fR1 : w1.frozen? ⟨w.heap.size + 1 + 1, 1, none⟩ = false := (hc.frozen (p := ⟨w.heap.size + 1 + 1, 1, none⟩) (by first | (simp; done) | (simp; omega))).trans (by simp [go_sem])
    have zR : w.heap.size + 1 + 1 < w1.heap.size := by omega
    replace hb := hb.trans (bq.mono hb.size)
    clear hc bq bp hbt
    go_wp2_with fail
    refine Calls.mono (HLI.out _ (ha.below hb)) ?_
    rintro e w2 ⟨vl, rfl, rl, hc⟩
    obtain ⟨al, cl, rfl, -, -⟩ := RowS.shape lineE_len rl
    have s2 : w1.heap.size ≤ w2.heap.size := hc.size
    have bq := hc
    replace cp0 := cell_later bq cp0
    replace zp := Nat.lt_of_lt_of_le zp bq.size
    replace cf0 := cell_later bq cf0
    replace zf := Nat.lt_of_lt_of_le zf bq.size
    replace cR0 := cell_later bq cR0
    replace fR0 := (bq.frozen (p := ⟨w.heap.size + 1 + 1, 0, none⟩) zR).trans fR0
    replace cR1 := cell_later bq cR1
    replace fR1 := (bq.frozen (p := ⟨w.heap.size + 1 + 1, 1, none⟩) zR).trans fR1
    replace zR := Nat.lt_of_lt_of_le zR bq.size
    replace hb := hb.trans (bq.mono hb.size)
    clear hc bq
    go_wp2
    exact bodyPost_ret (v := .agg #[.int .i64 3, .int .i64 0]) (by simp [results, Try.results58, go_sem, cR0, cR1, zR]) rfl ⟨rfl, (((hb.setCell (by first | omega | (simp; omega) | simp) _).setCell (by first | omega | (simp; omega) | simp) _).alloc (by have := hb.size; simp; omega) _)⟩
  by_cases hN1 : N < 1
  · skip
    have e1 : fdC is xs F N = 3 := by unfold fdC; rw [if_neg (by omega), if_neg (by omega), if_pos (by omega)]
    have e2 : fdV is xs F N B = 0 := by unfold fdV; rw [if_neg (by omega)]
    rw [e1, e2]
    clear e1 e2 HA FI hin
    go_enter Try.func58, Try.ntmps58
    have hb : Below w.heap.size w w := Below.refl _ _
    go_wp2_with fail
    have bp : ∀ o0 o1 o2, Below w.heap.size w (((w.alloc o0).alloc o1).alloc o2) := fun o0 o1 o2 => (((Below.refl _ _).alloc (Nat.le_refl _) o0).alloc (by simp) o1).alloc (by simp; omega) o2
    have hbt : ∀ o0 o1 o2, Below w.heap.size w (((w.alloc o0).alloc o1).alloc o2) := fun o0 o1 o2 => hb.trans ((bp o0 o1 o2).mono hb.size)
    refine Calls.mono (HPF.out _ (hpr.below (hbt _ _ _))) ?_
    rintro e w1 ⟨rfl, hc⟩
    have s1 : w.heap.size + 3 ≤ w1.heap.size := by have := hc.size; simp at this; omega
    have bq : Below w.heap.size w w1 := (bp _ _ _).trans (hc.mono (bp _ _ _).size)
    have cp0 : w1.cell? ⟨w.heap.size, 0, none⟩ = some (.slice pa pn pc) := cell_later hc (by simp [go_sem])
    have zp : w.heap.size < w1.heap.size := by omega
    have cf0 : w1.cell? ⟨w.heap.size + 1, 0, none⟩ = some (.slice a n ca) := cell_later hc (by simp [go_sem])
    have zf : w.heap.size + 1 < w1.heap.size := by omega
    have cR0 : w1.cell? ⟨w.heap.size + 1 + 1, 0, none⟩ = some (.int .i64 0) := cell_later hc (by simp [go_sem])
    have fR0 : w1.frozen? ⟨w.heap.size + 1 + 1, 0, none⟩ = false := (hc.frozen (p := ⟨w.heap.size + 1 + 1, 0, none⟩) (by first | (simp; done) | (simp; omega))).trans (by simp [go_sem])
    have cR1 : w1.cell? ⟨w.heap.size + 1 + 1, 1, none⟩ = some (.int .i64 0) := cell_later hc (by simp [go_sem])
    have fR1 : w1.frozen? ⟨w.heap.size + 1 + 1, 1, none⟩ = false := (hc.frozen (p := ⟨w.heap.size + 1 + 1, 1, none⟩) (by first | (simp; done) | (simp; omega))).trans (by simp [go_sem])
    have zR : w.heap.size + 1 + 1 < w1.heap.size := by omega
    replace hb := hb.trans (bq.mono hb.size)
    clear hc bq bp hbt
    go_wp2_with fail
    refine Calls.mono (HLI.out _ (ha.below hb)) ?_
    rintro e w2 ⟨vl, rfl, rl, hc⟩
    obtain ⟨al, cl, rfl, -, -⟩ := RowS.shape lineE_len rl
    have s2 : w1.heap.size ≤ w2.heap.size := hc.size
    have bq := hc
    replace cp0 := cell_later bq cp0
    replace zp := Nat.lt_of_lt_of_le zp bq.size
    replace cf0 := cell_later bq cf0
    replace zf := Nat.lt_of_lt_of_le zf bq.size
    replace cR0 := cell_later bq cR0
    replace fR0 := (bq.frozen (p := ⟨w.heap.size + 1 + 1, 0, none⟩) zR).trans fR0
    replace cR1 := cell_later bq cR1
    replace fR1 := (bq.frozen (p := ⟨w.heap.size + 1 + 1, 1, none⟩) zR).trans fR1
    replace zR := Nat.lt_of_lt_of_le zR bq.size
    replace hb := hb.trans (bq.mono hb.size)
    clear hc bq
    go_wp2
    exact bodyPost_ret (v := .agg #[.int .i64 3, .int .i64 0]) (by simp [results, Try.results58, go_sem, cR0, cR1, zR]) rfl ⟨rfl, (((hb.setCell (by first | omega | (simp; omega) | simp) _).setCell (by first | omega | (simp; omega) | simp) _).alloc (by have := hb.size; simp; omega) _)⟩
  by_cases hN2 : 999 < N
  · skip
    have e1 : fdC is xs F N = 3 := by unfold fdC; rw [if_neg (by omega), if_neg (by omega), if_pos (by omega)]
    have e2 : fdV is xs F N B = 0 := by unfold fdV; rw [if_neg (by omega)]
    rw [e1, e2]
    clear e1 e2 HA FI hin
    go_enter Try.func58, Try.ntmps58
    have hb : Below w.heap.size w w := Below.refl _ _
    go_wp2_with fail
    have bp : ∀ o0 o1 o2, Below w.heap.size w (((w.alloc o0).alloc o1).alloc o2) := fun o0 o1 o2 => (((Below.refl _ _).alloc (Nat.le_refl _) o0).alloc (by simp) o1).alloc (by simp; omega) o2
    have hbt : ∀ o0 o1 o2, Below w.heap.size w (((w.alloc o0).alloc o1).alloc o2) := fun o0 o1 o2 => hb.trans ((bp o0 o1 o2).mono hb.size)
    refine Calls.mono (HPF.out _ (hpr.below (hbt _ _ _))) ?_
    rintro e w1 ⟨rfl, hc⟩
    have s1 : w.heap.size + 3 ≤ w1.heap.size := by have := hc.size; simp at this; omega
    have bq : Below w.heap.size w w1 := (bp _ _ _).trans (hc.mono (bp _ _ _).size)
    have cp0 : w1.cell? ⟨w.heap.size, 0, none⟩ = some (.slice pa pn pc) := cell_later hc (by simp [go_sem])
    have zp : w.heap.size < w1.heap.size := by omega
    have cf0 : w1.cell? ⟨w.heap.size + 1, 0, none⟩ = some (.slice a n ca) := cell_later hc (by simp [go_sem])
    have zf : w.heap.size + 1 < w1.heap.size := by omega
    have cR0 : w1.cell? ⟨w.heap.size + 1 + 1, 0, none⟩ = some (.int .i64 0) := cell_later hc (by simp [go_sem])
    have fR0 : w1.frozen? ⟨w.heap.size + 1 + 1, 0, none⟩ = false := (hc.frozen (p := ⟨w.heap.size + 1 + 1, 0, none⟩) (by first | (simp; done) | (simp; omega))).trans (by simp [go_sem])
    have cR1 : w1.cell? ⟨w.heap.size + 1 + 1, 1, none⟩ = some (.int .i64 0) := cell_later hc (by simp [go_sem])
    have fR1 : w1.frozen? ⟨w.heap.size + 1 + 1, 1, none⟩ = false := (hc.frozen (p := ⟨w.heap.size + 1 + 1, 1, none⟩) (by first | (simp; done) | (simp; omega))).trans (by simp [go_sem])
    have zR : w.heap.size + 1 + 1 < w1.heap.size := by omega
    replace hb := hb.trans (bq.mono hb.size)
    clear hc bq bp hbt
    go_wp2_with fail
    refine Calls.mono (HLI.out _ (ha.below hb)) ?_
    rintro e w2 ⟨vl, rfl, rl, hc⟩
    obtain ⟨al, cl, rfl, -, -⟩ := RowS.shape lineE_len rl
    have s2 : w1.heap.size ≤ w2.heap.size := hc.size
    have bq := hc
    replace cp0 := cell_later bq cp0
    replace zp := Nat.lt_of_lt_of_le zp bq.size
    replace cf0 := cell_later bq cf0
    replace zf := Nat.lt_of_lt_of_le zf bq.size
    replace cR0 := cell_later bq cR0
    replace fR0 := (bq.frozen (p := ⟨w.heap.size + 1 + 1, 0, none⟩) zR).trans fR0
    replace cR1 := cell_later bq cR1
    replace fR1 := (bq.frozen (p := ⟨w.heap.size + 1 + 1, 1, none⟩) zR).trans fR1
    replace zR := Nat.lt_of_lt_of_le zR bq.size
    replace hb := hb.trans (bq.mono hb.size)
    clear hc bq
    go_wp2
    exact bodyPost_ret (v := .agg #[.int .i64 3, .int .i64 0]) (by simp [results, Try.results58, go_sem, cR0, cR1, zR]) rfl ⟨rfl, (((hb.setCell (by first | omega | (simp; omega) | simp) _).setCell (by first | omega | (simp; omega) | simp) _).alloc (by have := hb.size; simp; omega) _)⟩
  by_cases hE : hits is xs = []
  · have e1 : fdC is xs F N = 4 := by unfold fdC; rw [if_neg (by omega), if_neg (by omega), if_neg (by omega), if_pos hE]
    have e2 : fdV is xs F N B = 0 := by unfold fdV; rw [if_neg (by omega)]
    rw [e1, e2]
    have hm0 : (hits is xs).length = 0 := by rw [hE]; rfl
    rw [hm0] at HA
    have HHA : Hid _ := HA
    clear e1 e2 HA FI hE hin hm0 hpw
    go_enter Try.func58, Try.ntmps58
    have hb : Below w.heap.size w w := Below.refl _ _
    go_wp2_with fail
    have bp : ∀ o0 o1 o2, Below w.heap.size w (((w.alloc o0).alloc o1).alloc o2) := fun o0 o1 o2 => (((Below.refl _ _).alloc (Nat.le_refl _) o0).alloc (by simp) o1).alloc (by simp; omega) o2
    have hbt : ∀ o0 o1 o2, Below w.heap.size w (((w.alloc o0).alloc o1).alloc o2) := fun o0 o1 o2 => hb.trans ((bp o0 o1 o2).mono hb.size)
    refine Calls.mono (HPF.out _ (hpr.below (hbt _ _ _))) ?_
    rintro e w1 ⟨rfl, hc⟩
    have s1 : w.heap.size + 3 ≤ w1.heap.size := by have := hc.size; simp at this; omega
    have bq : Below w.heap.size w w1 := (bp _ _ _).trans (hc.mono (bp _ _ _).size)
    have cp0 : w1.cell? ⟨w.heap.size, 0, none⟩ = some (.slice pa pn pc) := cell_later hc (by simp [go_sem])
    have zp : w.heap.size < w1.heap.size := by omega
    have cf0 : w1.cell? ⟨w.heap.size + 1, 0, none⟩ = some (.slice a n ca) := cell_later hc (by simp [go_sem])
    have zf : w.heap.size + 1 < w1.heap.size := by omega
    have cR0 : w1.cell? ⟨w.heap.size + 1 + 1, 0, none⟩ = some (.int .i64 0) := cell_later hc (by simp [go_sem])
    have fR0 : w1.frozen? ⟨w.heap.size + 1 + 1, 0, none⟩ = false := (hc.frozen (p := ⟨w.heap.size + 1 + 1, 0, none⟩) (by first | (simp; done) | (simp; omega))).trans (by simp [go_sem])
    have cR1 : w1.cell? ⟨w.heap.size + 1 + 1, 1, none⟩ = some (.int .i64 0) := cell_later hc (by simp [go_sem])
    have fR1 : w1.frozen? ⟨w.heap.size + 1 + 1, 1, none⟩ = false := (hc.frozen (p := ⟨w.heap.size + 1 + 1, 1, none⟩) (by first | (simp; done) | (simp; omega))).trans (by simp [go_sem])
    have zR : w.heap.size + 1 + 1 < w1.heap.size := by omega
    replace hb := hb.trans (bq.mono hb.size)
    clear hc bq bp hbt
    go_wp2_with fail
    refine Calls.mono (HLI.out _ (ha.below hb)) ?_
    rintro e w2 ⟨vl, rfl, rl, hc⟩
    obtain ⟨al, cl, rfl, -, -⟩ := RowS.shape lineE_len rl
    have s2 : w1.heap.size ≤ w2.heap.size := hc.size
    have bq := hc
    replace cp0 := cell_later bq cp0
    replace zp := Nat.lt_of_lt_of_le zp bq.size
    replace cf0 := cell_later bq cf0
    replace zf := Nat.lt_of_lt_of_le zf bq.size
    replace cR0 := cell_later bq cR0
    replace fR0 := (bq.frozen (p := ⟨w.heap.size + 1 + 1, 0, none⟩) zR).trans fR0
    replace cR1 := cell_later bq cR1
    replace fR1 := (bq.frozen (p := ⟨w.heap.size + 1 + 1, 1, none⟩) zR).trans fR1
    replace zR := Nat.lt_of_lt_of_le zR bq.size
    replace hb := hb.trans (bq.mono hb.size)
    clear hc bq
    go_wp2_with fail
    have bp : ∀ o0, Below w2.heap.size w2 (w2.alloc o0) := fun o0 => (Below.refl _ _).alloc (Nat.le_refl _) o0
    have hbt : ∀ o0, Below w.heap.size w (w2.alloc o0) := fun o0 => hb.trans ((bp o0).mono hb.size)
    refine Calls.mono (HHA.out al cl _ (hpr.below (hbt _)) (cell_later (bp _) cp0) (cell_later (bp _) cf0) (ha.below (hbt _)) (RowS.read lineE_len (rl.below (bp _)))) ?_
    rintro e w3 ⟨vh, rfl, rh, hc⟩
    obtain ⟨ah, kh, rfl, -⟩ := rh.shape
    replace rh := rh.read
    have s3 : w2.heap.size + 1 ≤ w3.heap.size := by have := hc.size; simp at this; omega
    have bq : Below w2.heap.size w2 w3 := (bp _).trans (hc.mono (bp _).size)
    replace cp0 := cell_later bq cp0
    replace zp := Nat.lt_of_lt_of_le zp bq.size
    replace cf0 := cell_later bq cf0
    replace zf := Nat.lt_of_lt_of_le zf bq.size
    replace cR0 := cell_later bq cR0
    replace fR0 := (bq.frozen (p := ⟨w.heap.size + 1 + 1, 0, none⟩) zR).trans fR0
    replace cR1 := cell_later bq cR1
    replace fR1 := (bq.frozen (p := ⟨w.heap.size + 1 + 1, 1, none⟩) zR).trans fR1
    replace zR := Nat.lt_of_lt_of_le zR bq.size
    have cL0 : w3.cell? ⟨w2.heap.size, 0, none⟩ = some (.int .i64 0) := cell_later hc (by simp [go_sem])
    have cL1 : w3.cell? ⟨w2.heap.size, 1, none⟩ = some (.slice al L cl) := cell_later hc (by simp [go_sem])
    have zL : w2.heap.size < w3.heap.size := by omega
    replace rl := rl.below bq
    replace hb := hb.trans (bq.mono hb.size)
    clear hc bq bp hbt
    go_wp2
    exact bodyPost_ret (v := .agg #[.int .i64 4, .int .i64 0]) (by simp [results, Try.results58, go_sem, cR0, cR1]) rfl ⟨rfl, ((hb.setCell (by first | omega | (simp; omega) | simp) _).setCell (by first | omega | (simp; omega) | simp) _)⟩
  · have e1 : fdC is xs F N = 0 := by unfold fdC; rw [if_neg (by omega), if_neg (by omega), if_neg (by omega), if_neg hE]
    have e2 : fdV is xs F N B = (hits is xs).getD (fndAt (hits is xs) F N B).toNat 0 := by unfold fdV; rw [if_pos e1]
    rw [e1, e2]
    have hmp : 0 < (hits is xs).length := List.length_pos_iff.2 hE
    have FI2 := fun A CA w' h => (FI A CA w' h (by omega) (by omega) (by omega)).mono (fun e w'' h => (⟨h.1, h.2 ▸ Below.refl _ _⟩ : _ ∧ Below w'.heap.size w' w''))
    generalize (hits is xs).getD (fndAt (hits is xs) F N B).toNat 0 = V at *
    generalize hits is xs = hs2 at *
    generalize hm : hs2.length = m at *
    have hm0 : ¬ (m : Int) = 0 := by omega
    have hm1 : ((m : Int) == 0) = false := by simp; omega
    have HFI : Hid _ := FI2
    have HHA : Hid _ := HA
    clear e1 e2 HA FI FI2 hE hin hpw
    go_enter Try.func58, Try.ntmps58
    have hb : Below w.heap.size w w := Below.refl _ _
    go_wp2_with fail
    have bp : ∀ o0 o1 o2, Below w.heap.size w (((w.alloc o0).alloc o1).alloc o2) := fun o0 o1 o2 => (((Below.refl _ _).alloc (Nat.le_refl _) o0).alloc (by simp) o1).alloc (by simp; omega) o2
    have hbt : ∀ o0 o1 o2, Below w.heap.size w (((w.alloc o0).alloc o1).alloc o2) := fun o0 o1 o2 => hb.trans ((bp o0 o1 o2).mono hb.size)
    refine Calls.mono (HPF.out _ (hpr.below (hbt _ _ _))) ?_
    rintro e w1 ⟨rfl, hc⟩
    have s1 : w.heap.size + 3 ≤ w1.heap.size := by have := hc.size; simp at this; omega
    have bq : Below w.heap.size w w1 := (bp _ _ _).trans (hc.mono (bp _ _ _).size)
    have cp0 : w1.cell? ⟨w.heap.size, 0, none⟩ = some (.slice pa pn pc) := cell_later hc (by simp [go_sem])
    have zp : w.heap.size < w1.heap.size := by omega
    have cf0 : w1.cell? ⟨w.heap.size + 1, 0, none⟩ = some (.slice a n ca) := cell_later hc (by simp [go_sem])
    have zf : w.heap.size + 1 < w1.heap.size := by omega
    have cR0 : w1.cell? ⟨w.heap.size + 1 + 1, 0, none⟩ = some (.int .i64 0) := cell_later hc (by simp [go_sem])
    have fR0 : w1.frozen? ⟨w.heap.size + 1 + 1, 0, none⟩ = false := (hc.frozen (p := ⟨w.heap.size + 1 + 1, 0, none⟩) (by first | (simp; done) | (simp; omega))).trans (by simp [go_sem])
    have cR1 : w1.cell? ⟨w.heap.size + 1 + 1, 1, none⟩ = some (.int .i64 0) := cell_later hc (by simp [go_sem])
    have fR1 : w1.frozen? ⟨w.heap.size + 1 + 1, 1, none⟩ = false := (hc.frozen (p := ⟨w.heap.size + 1 + 1, 1, none⟩) (by first | (simp; done) | (simp; omega))).trans (by simp [go_sem])
    have zR : w.heap.size + 1 + 1 < w1.heap.size := by omega
    replace hb := hb.trans (bq.mono hb.size)
    clear hc bq bp hbt
    go_wp2_with fail
    refine Calls.mono (HLI.out _ (ha.below hb)) ?_
    rintro e w2 ⟨vl, rfl, rl, hc⟩
    obtain ⟨al, cl, rfl, -, -⟩ := RowS.shape lineE_len rl
    have s2 : w1.heap.size ≤ w2.heap.size := hc.size
    have bq := hc
    replace cp0 := cell_later bq cp0
    replace zp := Nat.lt_of_lt_of_le zp bq.size
    replace cf0 := cell_later bq cf0
    replace zf := Nat.lt_of_lt_of_le zf bq.size
    replace cR0 := cell_later bq cR0
    replace fR0 := (bq.frozen (p := ⟨w.heap.size + 1 + 1, 0, none⟩) zR).trans fR0
    replace cR1 := cell_later bq cR1
    replace fR1 := (bq.frozen (p := ⟨w.heap.size + 1 + 1, 1, none⟩) zR).trans fR1
    replace zR := Nat.lt_of_lt_of_le zR bq.size
    replace hb := hb.trans (bq.mono hb.size)
    clear hc bq
    go_wp2_with fail
    have bp : ∀ o0, Below w2.heap.size w2 (w2.alloc o0) := fun o0 => (Below.refl _ _).alloc (Nat.le_refl _) o0
    have hbt : ∀ o0, Below w.heap.size w (w2.alloc o0) := fun o0 => hb.trans ((bp o0).mono hb.size)
    refine Calls.mono (HHA.out al cl _ (hpr.below (hbt _)) (cell_later (bp _) cp0) (cell_later (bp _) cf0) (ha.below (hbt _)) (RowS.read lineE_len (rl.below (bp _)))) ?_
    rintro e w3 ⟨vh, rfl, rh, hc⟩
    obtain ⟨ah, kh, rfl, -⟩ := rh.shape
    replace rh := rh.read
    have s3 : w2.heap.size + 1 ≤ w3.heap.size := by have := hc.size; simp at this; omega
    have bq : Below w2.heap.size w2 w3 := (bp _).trans (hc.mono (bp _).size)
    replace cp0 := cell_later bq cp0
    replace zp := Nat.lt_of_lt_of_le zp bq.size
    replace cf0 := cell_later bq cf0
    replace zf := Nat.lt_of_lt_of_le zf bq.size
    replace cR0 := cell_later bq cR0
    replace fR0 := (bq.frozen (p := ⟨w.heap.size + 1 + 1, 0, none⟩) zR).trans fR0
    replace cR1 := cell_later bq cR1
    replace fR1 := (bq.frozen (p := ⟨w.heap.size + 1 + 1, 1, none⟩) zR).trans fR1
    replace zR := Nat.lt_of_lt_of_le zR bq.size
    have cL0 : w3.cell? ⟨w2.heap.size, 0, none⟩ = some (.int .i64 0) := cell_later hc (by simp [go_sem])
    have cL1 : w3.cell? ⟨w2.heap.size, 1, none⟩ = some (.slice al L cl) := cell_later hc (by simp [go_sem])
    have zL : w2.heap.size < w3.heap.size := by omega
    replace rl := rl.below bq
    replace hb := hb.trans (bq.mono hb.size)
    clear hc bq bp hbt
    go_wp2_with fail
    refine Calls.mono (HFI.out ah kh _ rh) ?_
    rintro e w4 ⟨rfl, hc⟩
    have s4 : w3.heap.size ≤ w4.heap.size := hc.size
    have bq := hc
    replace cp0 := cell_later bq cp0
    replace zp := Nat.lt_of_lt_of_le zp bq.size
    replace cf0 := cell_later bq cf0
    replace zf := Nat.lt_of_lt_of_le zf bq.size
    replace cR0 := cell_later bq cR0
    replace fR0 := (bq.frozen (p := ⟨w.heap.size + 1 + 1, 0, none⟩) zR).trans fR0
    replace cR1 := cell_later bq cR1
    replace fR1 := (bq.frozen (p := ⟨w.heap.size + 1 + 1, 1, none⟩) zR).trans fR1
    replace zR := Nat.lt_of_lt_of_le zR bq.size
    replace cL0 := cell_later bq cL0
    replace cL1 := cell_later bq cL1
    replace zL := Nat.lt_of_lt_of_le zL bq.size
    replace hb := hb.trans (bq.mono hb.size)
    clear hc bq
    go_wp2
    exact bodyPost_ret (v := .agg #[.int .i64 0, .int .i64 V]) (by simp [results, Try.results58, go_sem, cR0, cR1]) rfl ⟨rfl, ((hb.setCell (by first | omega | (simp; omega) | simp) _).setCell (by first | omega | (simp; omega) | simp) _)⟩

end Go.Proofs.Ytocophekfbhfbaa

namespace Go.Proofs.Ytocophekfbhfbaa
open Go.RowKit Go.Shelf
set_option linter.unusedVariables false
attribute [local go_sem] Oper.semAt_some lineEncs

theorem lb_found {xs : List Int} {I : Int} {x : Int × L2} (hx : x ∈ numL 0 (lns xs)) (hI : x.1 = I) (hn : ¬ 400 < xs.length) : lbCode xs I = 0 ∧ lbRes xs I = cutOf xs x.2 := by
  obtain ⟨j, hj⟩ := List.getElem?_of_mem hx
  rw [numL_at] at hj
  cases hl : (lns xs)[j]? with
  | none => rw [hl] at hj; cases hj
  | some l =>
    rw [hl] at hj
    simp at hj
    subst hj
    simp at hI
    subst hI
    have hjl : j < (lns xs).length := (List.getElem?_eq_some_iff.1 hl).1
    have e0 : lbCode xs (j : Int) = 0 := by unfold lbCode; rw [if_neg hn, if_neg (by omega)]
    refine ⟨e0, ?_⟩
    unfold lbRes
    rw [if_pos e0, Int.toNat_natCast, List.getD_eq_getElem?_getD, hl]
    rfl
theorem lb_none {xs : List Int} {I : Int} (h : ∀ x ∈ numL 0 (lns xs), x.1 ≠ I) (hn : ¬ 400 < xs.length) : lbCode xs I = 3 ∧ lbRes xs I = [] := by
  have e0 : lbCode xs I = 3 := by
    unfold lbCode
    rw [if_neg hn, if_pos]
    apply Classical.byContradiction
    intro hI
    obtain ⟨i, rfl⟩ : ∃ i : Nat, I = (i : Int) := ⟨I.toNat, by omega⟩
    have hil : i < (lns xs).length := by omega
    have hm : (numL 0 (lns xs))[i]? = some ((i : Int), (lns xs)[i]) := by rw [numL_at, List.getElem?_eq_getElem hil]; simp
    exact h _ (List.mem_of_getElem? hm) rfl
  exact ⟨e0, by unfold lbRes; rw [if_neg (by omega)]⟩

theorem ownsRow_turn {X Y : World} {row : Option Nat} {base : Nat} {e : TypeId} {size k : Nat} {v : Value} {ys : List Value} (hr : X.ownsRow base e size v k ys) (hg : X.grownBy Y row) (hrow : ∀ r, row = some r → ∃ o : Obj, X.heap[r]? = some o ∧ o.isCells = false) : Y.ownsRow base e size v k ys := by
  refine hr.kept hg ?_
  rcases hr.2 with ⟨rfl, _⟩ | ⟨g, cap, cur, rfl, _, hgb, _⟩
  · exact .inl rfl
  · refine .inr (fun e' => ?_)
    obtain ⟨o, ho, hc⟩ := hrow g e'.symm
    rw [hgb] at ho
    cases ho
    cases hc

/-- None of the lines has the number I. -/
def NoneIs {n : Nat} (I : Int) (pre : List (LineIn n)) : Prop := ∀ x ∈ pre, x.1.1 ≠ I
theorem NoneIs.snoc {n : Nat} {I : Int} {pre : List (LineIn n)} {x : LineIn n} (h : NoneIs I pre) (hx : x.1.1 ≠ I) : NoneIs I (pre ++ [x]) :=
  fun y hy => (List.mem_append.1 hy).elim (h y) (fun e => by simp at e; subst e; exact hx)

set_option maxRecDepth 100000 in
set_option maxHeartbeats 8000000 in
theorem implLineBytes_any (a : Option Addr) (n ca : Nat) (I : Int) (xs : List Int) (w : World) (ha : Rd .u8 w a n xs) (hB : Bytes xs) (h1 : n ≤ 1073741824) (hca : n ≤ ca) (hcm : ca ≤ 9223372036854775807) :
    Calls Try.prog 62 #[.agg #[.slice a n ca], .int .i64 I] w fun e w' => ∃ v, e = .returned (.agg #[.int .i64 (lbCode xs I), v]) ∧ RowI .u8 5 w' w.heap.size w'.heap.size v (lbRes xs I).length (lbRes xs I) ∧ Below w.heap.size w w' := by
  have hlen := ha.1
  have hbt : ∀ o1 o2 o3, Below w.heap.size w (((w.alloc o1).alloc o2).alloc o3) := fun o1 o2 o3 => (((Below.refl _ _).alloc (Nat.le_refl _) o1).alloc (by simp) o2).alloc (by simp; omega) o3
  by_cases hf : 400 < n
  · have e0 : lbCode xs I = 2 := by unfold lbCode; rw [if_pos (by omega)]
    have e2 : lbRes xs I = [] := by unfold lbRes; rw [if_neg (by omega)]
    have e3 : fFault n = 2 := by unfold fFault; rw [if_pos hf]
    rw [e0, e2]
    clear e0 e2 hlen
    go_enter Try.func62, Try.ntmps62
    go_wp2_with fail
    refine (implFileFault_any a n ca _ h1).mono ?_
    rw [e3]
    rintro e w1 ⟨rfl, hb1⟩
    have d0 : w1.cell? ⟨w.heap.size + 1 + 1, 0, none⟩ = some (.int .i64 0) := cell_later hb1 (by simp [go_sem])
    have df0 : w1.frozen? ⟨w.heap.size + 1 + 1, 0, none⟩ = false := (hb1.frozen (p := ⟨w.heap.size + 1 + 1, 0, none⟩) (by simp)).trans (by simp [go_sem])
    have d1 : w1.cell? ⟨w.heap.size + 1 + 1, 1, none⟩ = some (.slice none 0 0) := cell_later hb1 (by simp [go_sem])
    have df1 : w1.frozen? ⟨w.heap.size + 1 + 1, 1, none⟩ = false := (hb1.frozen (p := ⟨w.heap.size + 1 + 1, 1, none⟩) (by simp)).trans (by simp [go_sem])
    have hb01 := (hbt _ _ _).trans (hb1.mono (by simp; omega))
    clear hb1 e3
    go_wp2
    exact bodyPost_ret (v := .agg #[.int .i64 2, .slice none 0 0]) (by simp [results, Try.results62, go_sem, d0, d1]) rfl ⟨_, rfl, RowI.nil _ _ _ _ _, (hb01.setCell (by simp; omega) _).setCell (by simp; omega) _⟩
  · have hf' : ¬ 400 < xs.length := by omega
    have e3 : fFault n = 0 := by unfold fFault; rw [if_neg hf]
    have FF := implFileFault_any a n ca
    rw [e3] at FF
    have HFF : Hid _ := FF
    clear FF e3
    refine (callsIn_wide (n := 3)).1 ?_
    refine callsIn_of_wp_marks Try.func62 rfl trivial ?_ rfl
    simp only [Try.ntmps62, List.size_toArray, List.length_cons, List.length_nil, Nat.reduceAdd, Nat.reduceSub, Array.replicate_succ, Array.replicate_zero, List.push_toArray, List.append_toArray, List.nil_append, List.cons_append]
    gi_wp2_with (first | (refine ⟨trivial, ?_⟩; gi_at_call 86; refine (callsIn_wide.2 (HFF.out _ h1)).mono ?_; rintro e w1 ⟨rfl, hb1⟩; have c0 : w1.cell? ⟨w.heap.size, 0, none⟩ = some (.slice a n ca) := cell_later hb1 (by simp [go_sem]); have z0 : w.heap.size < w1.heap.size := (by have := hb1.size; simp at this; omega)) | (refine ⟨trivial, ?_⟩; gi_at_call 144; refine (linesOf_in _ a n ca _).mono ?_; rintro e w2 ⟨rfl, rfl⟩))
    have z1 : w.heap.size + 1 + 1 < w1.heap.size := by have := hb1.size; simp at this; omega
    have bF : Blk w1 w.heap.size #[.slice a n ca] 28 := (hb1.block w.heap.size (by simp; omega)).trans (((Blk.new w #[.slice a n ca] 28).alloc (.cells #[.int .i64 I] 2)).alloc (.cells #[.int .i64 0, .slice none 0 0] 46))
    have bI : Blk w1 (w.heap.size + 1) #[.int .i64 I] 2 := (hb1.block (w.heap.size + 1) (by simp)).trans (by have := (Blk.new (w.alloc (.cells #[.slice a n ca] 28)) #[.int .i64 I] 2).alloc (.cells #[.int .i64 0, .slice none 0 0] 46); rw [World.size_alloc] at this; exact this)
    have bR : Blk w1 (w.heap.size + 1 + 1) #[.int .i64 0, .slice none 0 0] 46 := (hb1.block (w.heap.size + 1 + 1) (by simp)).trans (by have := Blk.new ((w.alloc (.cells #[.slice a n ca] 28)).alloc (.cells #[.int .i64 I] 2)) #[.int .i64 0, .slice none 0 0] 46; simp only [World.size_alloc] at this; exact this)
    have hb01 := (hbt _ _ _).trans (hb1.mono (by simp; omega))
    clear hb1 hbt c0
    have bF0 := bF.alloc (.cells #[.slice a n ca] 22)
    have bI0 := bI.alloc (.cells #[.slice a n ca] 22)
    have bR0 := bR.alloc (.cells #[.slice a n ca] 22)
    have bN0 := Blk.new w1 #[.slice a n ca] 22
    have hB0 : Below w.heap.size w (w1.alloc (.cells #[.slice a n ca] 22)) := hb01.alloc hb01.size _
    have hsz : (w1.alloc (.cells #[.slice a n ca] 22)).heap.size = w1.heap.size + 1 := by simp
    obtain ⟨W0, hW0⟩ : ∃ W0, (w1.alloc (.cells #[.slice a n ca] 22)) = W0 := ⟨_, rfl⟩
    rw [hW0] at bF0 bI0 bR0 bN0 hB0 hsz ⊢
    clear hW0 bR bF bI
    refine wpIn_rangeFunc_ownH rfl (by omega) (gf := 207) (lb := #[.pointer (some ⟨w1.heap.size, 0, none⟩)]) rfl trivial (enters_of Try.func207 (by kernel_rfl) rfl)
      (linesOf_stopsS _ (by omega) w1.heap.size w.heap.size a n ca xs hB (by omega) hca hcm W0 (by rw [bN0.cell]; rfl) (TextAt.below (TextAt.of ha) hB0) hB0.size) Kept2.trans (kept2_b hB0.size (by omega)) (Below.refl _ _) (fun _ => rfl)
      (fun pre W => ((((NoneIs I pre ∧ Blk W w.heap.size #[.slice a n ca] 28) ∧ Blk W (w.heap.size + 1) #[.int .i64 I] 2) ∧ Blk W (w.heap.size + 1 + 1) #[.int .i64 0, .slice none 0 0] 46) ∧ Blk W w1.heap.size #[.slice a n ca] 22) ∧ Below w.heap.size w W)
      (fun c pre W => (c = .ret ∧ ∃ x : LineIn n, x ∈ pre ∧ x.1.1 = I ∧ ∃ v, Blk W (w.heap.size + 1 + 1) #[.int .i64 0, v] 46 ∧ Own .u8 5 W w.heap.size v (cutOf xs x.1.2).length (cutOf xs x.1.2)) ∧ Below w.heap.size w W)
      (OwnFrom.and (OwnFrom.and (OwnFrom.and (OwnFrom.and (OwnFrom.and (ownFrom_pure _ _) (blk_own _ _ _ _)) (blk_own _ _ _ _)) (blk_own _ _ _ _)) (blk_own _ _ _ _)) (ownFrom_below (Nat.le_refl _) (by omega)))
      (fun c => OwnFrom.and (by
        rintro s X Y row ⟨hc, x, hx, hxI, v, hv, hr⟩ hg hrow
        exact ⟨hc, x, hx, hxI, v, blk_own (β := Unit) _ (fun _ => #[.int .i64 0, v]) _ _ () X Y row hv hg hrow, ownsRow_turn hr hg (fun r e => (hrow r e).2)⟩) (ownFrom_below (Nat.le_refl _) (by omega)))
      ⟨⟨⟨⟨⟨fun x hx => by simp at hx, bF0⟩, bI0⟩, bR0⟩, bN0⟩, hB0⟩
      (fun x a' W => ∃ Bx, w1.heap.size < Bx ∧ Blk W Bx #[.int .i64 x.1.2.1, .int .i64 x.1.2.2] 192 ∧ a' = { tmps := #[.agg #[.slice a n ca], .int .i64 I, .pointer (some ⟨w.heap.size, 0, none⟩), .pointer (some ⟨w.heap.size + 1, 0, none⟩), .pointer (some ⟨w.heap.size + 1 + 1, 0, none⟩), .int .i64 0, .int .i64 x.1.1, .pointer (some ⟨Bx, 0, none⟩), .agg #[.slice a n ca], .int .i64 0, .int .i64 0, .bool false, undef, undef, .pointer (some ⟨w.heap.size, 0, none⟩), .slice a n ca, .func (.func 207) #[] #[.pointer (some ⟨w1.heap.size, 0, none⟩)], .int .i64 x.1.1, .agg #[.int .i64 x.1.2.1, .int .i64 x.1.2.2], undef, undef, undef, undef, undef, undef, undef, undef, undef, undef, undef, undef, undef, undef, undef, undef], defers := [] })
      (fun x a' _ X Y row hs hg hr => by obtain ⟨Bx, e1, e2, e3⟩ := hs; exact ⟨Bx, e1, blk_own (β := Unit) Bx (fun _ => #[.int .i64 x.1.2.1, .int .i64 x.1.2.2]) 192 _ () X Y row e2 hg hr, e3⟩)
      ?assign ?body ?done ?stop
    case assign =>
      rintro l pre x W K ⟨⟨⟨⟨⟨hp, bF⟩, bI⟩, bR⟩, bN⟩, hB1⟩ hK
      gi_wp2
      exact hK _ _ ((KeepsOthers.alloc _ _).from _) ⟨(Below.refl _ W).alloc hB1.size _, Below.heap_alloc W _ _ bN.lt⟩ ⟨⟨⟨⟨⟨hp, bF.alloc _⟩, bI.alloc _⟩, bR.alloc _⟩, bN.alloc _⟩, hB1.alloc hB1.size _⟩ ⟨W.heap.size, bN.lt, Blk.new W _ _, rfl⟩
    case body =>
      rintro l pre x a' W hl ⟨r, hr⟩ ⟨⟨⟨⟨⟨hp, bF⟩, bI⟩, bR⟩, bN⟩, hB1⟩ ⟨Bx, hBx, bX, rfl⟩ hlt
      have cF : W.cell? ⟨w.heap.size, 0, none⟩ = some (.slice a n ca) := bF.cell 0
      have cI : W.cell? ⟨w.heap.size + 1, 0, none⟩ = some (.int .i64 I) := bI.cell 0
      have cR0 : W.cell? ⟨w.heap.size + 1 + 1, 0, none⟩ = some (.int .i64 0) := bR.cell 0
      have cR1 : W.cell? ⟨w.heap.size + 1 + 1, 1, none⟩ = some (.slice none 0 0) := bR.cell 1
      have fR0 := bR.frozen 0
      have fR1 := bR.frozen 1
      have cX0 : W.cell? ⟨Bx, 0, none⟩ = some (.int .i64 x.1.2.1) := bX.cell 0
      have cX1 : W.cell? ⟨Bx, 1, none⟩ = some (.int .i64 x.1.2.2) := bX.cell 1
      have hsW := hB1.size
      obtain ⟨⟨k, l1, l2⟩, hg⟩ := x
      have hg' := hg
      obtain ⟨g1, g2, g3⟩ := hg'
      simp only at g1 g2 g3 cX0 cX1
      obtain ⟨f, rfl⟩ : ∃ f : Nat, l1 = (f : Int) := ⟨l1.toNat, by omega⟩
      obtain ⟨z, rfl⟩ : ∃ z : Nat, l2 = (z : Int) := ⟨l2.toNat, by omega⟩
      clear g1 g2
      by_cases hk : k = I
      · subst hk
        have hfz : f + z ≤ n := by omega
        have hf4 : f ≤ 400 := by omega
        have hz4 : z ≤ 400 := by omega
        have hfc : f + z ≤ ca := by omega
        have hcl : ((xs.drop f).take z).length = z := by simp; omega
        have hcut : cutOf xs ((f : Int), (z : Int)) = (xs.drop f).take z := by simp [cutOf]
        have hr1 : ∀ b, (0 < z → ∀ g off, a = some ⟨g, off, none⟩ → b = some ⟨g, off + f, none⟩) → Rd .u8 W a n xs → Rd .u8 W b z ((xs.drop f).take z) := fun b hb h => h.cut f z hfz b hb
        by_cases hcf : ca = f
        · have hz0 : z = 0 := by omega
          subst hz0
          subst hcf
          have HC : Hid ((cutOf xs ((ca : Int), ((0 : Nat) : Int))).length = 0 ∧ cutOf xs ((ca : Int), ((0 : Nat) : Int)) = []) := ⟨by rw [hcut]; simp, by rw [hcut]; simp⟩
          have hr0 : Rd .u8 W a 0 [] := ⟨rfl, .inl rfl⟩
          have HR : Hid _ := hr0
          clear hcl hcut hr1 hr0
          simp only [Int.natCast_zero] at cX1 ⊢
          gi_wp2_with (refine ⟨trivial, ?_⟩; gi_at_call 87; refine (CallsIn.inRound l (callsIn_wide.2 (copied_any _ 0 _ _ _ HR.out (by omega)))).mono ?_; rintro e w3 ⟨v3, rfl, ho3, hb3⟩; obtain ⟨av, cv, rfl, _⟩ := ho3.shape; have e0 := cell_later hb3 cR0; have e1 := cell_later hb3 cR1; have k0 := (hb3.frozen (p := ⟨w.heap.size + 1 + 1, 0, none⟩) bR.lt).trans fR0; have k1 := (hb3.frozen (p := ⟨w.heap.size + 1 + 1, 1, none⟩) bR.lt).trans fR1)
          have hlR := bR.lt
          have bR3 : Blk w3 (w.heap.size + 1 + 1) #[.int .i64 0, .slice none 0 0] 46 := (hb3.block _ bR.lt).trans bR
          have bR4 := (bR3.set (i := 0) (.int .i64 0)).set (i := 1) (.slice av 0 cv)
          have ho4 := ((ho3.1.setBelow (a := ⟨w.heap.size + 1 + 1, 0, none⟩) hlR (.int .i64 0)).setBelow (a := ⟨w.heap.size + 1 + 1, 1, none⟩) hlR (.slice av 0 cv)).up hsW
          refine ⟨((KeepsFrom.of_grownBy (grownBy_of_below hb3) (by simp)).trans ((KeepsOthers.setCell _ _ _).from _)).trans ((KeepsOthers.setCell _ _ _).from _), ⟨rfl, _, List.mem_append.2 (.inr (List.mem_singleton.2 rfl)), rfl, _, bR4, ?_⟩, ((hB1.trans (hb3.mono hsW)).setCell (p := ⟨w.heap.size + 1 + 1, 0, none⟩) (by simp; omega) _).setCell (p := ⟨w.heap.size + 1 + 1, 1, none⟩) (by simp; omega) _⟩
          rw [show cutOf xs ((ca : Int), (0 : Int)) = [] from HC.out.2]
          exact ho4
        · have HC : Hid ((cutOf xs ((f : Int), (z : Int))).length = z ∧ cutOf xs ((f : Int), (z : Int)) = (xs.drop f).take z) := ⟨by rw [hcut]; exact hcl, hcut⟩
          have hr2 := hr1 (Option.map (fun x => x.add f) a) (fun _ g off h => by subst h; simp [Addr.add_lit]) (ha.below hB1)
          have HR : Hid _ := hr2
          clear hcl hcut hr1 hr2
          gi_wp2_with (refine ⟨trivial, ?_⟩; gi_at_call 87; refine (CallsIn.inRound l (callsIn_wide.2 (copied_any _ z _ _ _ HR.out (by omega)))).mono ?_; rintro e w3 ⟨v3, rfl, ho3, hb3⟩; obtain ⟨av, cv, rfl, _⟩ := ho3.shape; have e0 := cell_later hb3 cR0; have e1 := cell_later hb3 cR1; have k0 := (hb3.frozen (p := ⟨w.heap.size + 1 + 1, 0, none⟩) bR.lt).trans fR0; have k1 := (hb3.frozen (p := ⟨w.heap.size + 1 + 1, 1, none⟩) bR.lt).trans fR1)
          have hlR := bR.lt
          have bR3 : Blk w3 (w.heap.size + 1 + 1) #[.int .i64 0, .slice none 0 0] 46 := (hb3.block _ bR.lt).trans bR
          have bR4 := (bR3.set (i := 0) (.int .i64 0)).set (i := 1) (.slice av z cv)
          have ho4 := ((ho3.1.setBelow (a := ⟨w.heap.size + 1 + 1, 0, none⟩) hlR (.int .i64 0)).setBelow (a := ⟨w.heap.size + 1 + 1, 1, none⟩) hlR (.slice av z cv)).up hsW
          refine ⟨((KeepsFrom.of_grownBy (grownBy_of_below hb3) (by simp)).trans ((KeepsOthers.setCell _ _ _).from _)).trans ((KeepsOthers.setCell _ _ _).from _), ⟨rfl, _, List.mem_append.2 (.inr (List.mem_singleton.2 rfl)), rfl, _, bR4, ?_⟩, ((hB1.trans (hb3.mono hsW)).setCell (p := ⟨w.heap.size + 1 + 1, 0, none⟩) (by simp; omega) _).setCell (p := ⟨w.heap.size + 1 + 1, 1, none⟩) (by simp; omega) _⟩
          rw [HC.out.1, HC.out.2]
          exact ho4
      · have hk' : (k == I) = false := by simpa using hk
        gi_wp2
        exact ⟨KeepsFrom.refl _ _, ⟨Below.refl _ _, rfl⟩, ⟨⟨⟨⟨hp.snoc hk, bF⟩, bI⟩, bR⟩, bN⟩, hB1⟩
    case done =>
      rintro D ys W hD hys ⟨⟨⟨⟨⟨hp, bF⟩, bI⟩, bR⟩, bN⟩, hB1⟩ hK
      obtain ⟨q0, q2⟩ := lb_none (xs := xs) (I := I) (fun x hx => by
        rw [← hys] at hx
        obtain ⟨y, hy, rfl⟩ := List.mem_map.1 hx
        exact hp y hy) hf'
      have Q0 : Hid _ := q0
      have Q2 : Hid _ := q2
      have cR0 : W.cell? ⟨w.heap.size + 1 + 1, 0, none⟩ = some (.int .i64 0) := bR.cell 0
      have cR1 : W.cell? ⟨w.heap.size + 1 + 1, 1, none⟩ = some (.slice none 0 0) := bR.cell 1
      have fR0 := bR.frozen 0
      have fR1 := bR.frozen 1
      clear q0 q2 hys hp
      gi_wp2
      have bR2 := (bR.set (i := 0) (.int .i64 3)).set (i := 1) (.slice none 0 0)
      have hB2 := (hB1.setCell (p := ⟨w.heap.size + 1 + 1, 0, none⟩) (by simp; omega) (.int .i64 3)).setCell (p := ⟨w.heap.size + 1 + 1, 1, none⟩) (by simp; omega) (.slice none 0 0)
      have hK2 := (Below.heap_setCell _ ⟨w.heap.size + 1 + 1, 1, none⟩ (.slice none 0 0) D (by simp; omega)).trans ((Below.heap_setCell W ⟨w.heap.size + 1 + 1, 0, none⟩ (.int .i64 3) D (by simp; omega)).trans hK)
      generalize ((W.setCell ⟨w.heap.size + 1 + 1, 0, none⟩ (.int .i64 3)).setCell ⟨w.heap.size + 1 + 1, 1, none⟩ (.slice none 0 0)) = W2 at *
      have bR3 := bR2.putObj (.deferred none) hK2 rfl
      have g0 : (W2.putObj D (.deferred none)).cell? ⟨w.heap.size + 1 + 1, 0, none⟩ = some (.int .i64 3) := bR3.cell 0
      have g1 : (W2.putObj D (.deferred none)).cell? ⟨w.heap.size + 1 + 1, 1, none⟩ = some (.slice none 0 0) := bR3.cell 1
      refine ⟨by simp, .inl ⟨_, _, rfl, run_takeDeferred hK2, ?_⟩⟩
      refine ⟨.agg #[.int .i64 3, .slice none 0 0], by simp [results, Try.results62, go_sem, g0, g1], .slice none 0 0, by rw [Q0.out], by rw [Q2.out]; exact RowI.nil _ _ _ _ _, hB2.trans (belowK_b (w := w) (Nat.le_refl _) W2 D _ _ (by omega) hK2 rfl rfl)⟩
    case stop =>
      rintro D c pre W hD hpre ⟨⟨rfl, x, hx, hxI, v, bR, hr⟩, hB1⟩ hK
      obtain ⟨q0, q2⟩ := lb_found (xs := xs) (hpre.subset (List.mem_map.2 ⟨x, hx, rfl⟩)) hxI hf'
      have hl : (cutOf xs x.1.2).length = (lbRes xs I).length := by rw [q2]
      have ho : Own .u8 5 W w.heap.size v (lbRes xs I).length (lbRes xs I) := by rw [q2]; exact hr
      have Q0 : Hid _ := q0
      clear q0 q2 hl hr hx hxI hpre
      obtain ⟨av, cv, hv, _⟩ := ho.rdc
      subst hv
      gi_wp2
      have bR3 := bR.putObj (.deferred none) hK rfl
      have g0 : (W.putObj D (.deferred none)).cell? ⟨w.heap.size + 1 + 1, 0, none⟩ = some (.int .i64 0) := bR3.cell 0
      have g1 : (W.putObj D (.deferred none)).cell? ⟨w.heap.size + 1 + 1, 1, none⟩ = some (.slice av (lbRes xs I).length cv) := bR3.cell 1
      refine ⟨by simp, .inl ⟨_, _, rfl, run_takeDeferred hK, ?_⟩⟩
      refine ⟨.agg #[.int .i64 0, .slice av (lbRes xs I).length cv], by simp [results, Try.results62, go_sem, g0, g1], _, by rw [Q0.out], RowI.of (ownsRow_putObj ho _ hK rfl), hB1.trans (belowK_b (w := w) (Nat.le_refl _) W D _ _ (by omega) hK rfl rfl)⟩
end Go.Proofs.Ytocophekfbhfbaa

namespace Go.Proofs.Ytocophekfbhfbaa
open Go.RowKit
set_option linter.unusedVariables false
set_option linter.unusedSimpArgs false

theorem tm_em {X n : Int} (h : 1 ≤ n) : (X.tmod n + n).tmod n = X % n := by
  have hb := tm_bd (x := X) h
  have e : X % n = X.tmod n % n := by
    conv => lhs; rw [← Int.tmod_add_mul_tdiv X n]
    rw [Int.add_mul_emod_self_left]
  rw [Int.tmod_eq_emod_of_nonneg (by omega), Int.add_emod_right, e]

/-- Which one is found. -/
theorem fndAt_em {hs : List Int} {F N : Int} {B : Bool} (hn : 1 ≤ hs.length) (hN : 1 ≤ N) : fndAt hs F N B = if B then ((ltN hs F : Int) - N) % (hs.length : Int) else ((leN hs F : Int) + N - 1) % (hs.length : Int) := by
  unfold fndAt
  cases B
  · simp only [Bool.false_eq_true, if_false]
    exact Int.tmod_eq_emod_of_nonneg (by omega)
  · simp only [if_true]
    exact tm_em (by omega)

theorem fnd_bd {hs : List Int} {F N : Int} {B : Bool} (hn : 1 ≤ hs.length) (hN : 1 ≤ N) : 0 ≤ fndAt hs F N B ∧ fndAt hs F N B < hs.length := by
  rw [fndAt_em hn hN]
  split
  · exact ⟨Int.emod_nonneg _ (by omega), Int.emod_lt_of_pos _ (by omega)⟩
  · exact ⟨Int.emod_nonneg _ (by omega), Int.emod_lt_of_pos _ (by omega)⟩

theorem cnt_at {hs : List Int} (hp : hs.Pairwise (· < ·)) {i : Nat} (hi : i < hs.length) : ltN hs (hs.getD i 0) = i ∧ leN hs (hs.getD i 0) = i + 1 := by
  have hlt : ∀ a b, a < b → b < hs.length → hs.getD a 0 < hs.getD b 0 := fun a b hab hb => by
    have := List.pairwise_iff_getElem.1 hp a b (by omega) hb hab
    simpa [List.getD_eq_getElem?_getD, hb, show a < hs.length by omega] using this
  have e1 := (srt_end (F := hs.getD i 0) hp (i := i) (by omega) (fun t ht => hlt t i ht hi) (fun t h1 h2 => by
    rcases Nat.lt_or_ge i t with h | h
    · exact Int.le_of_lt (hlt i t h h2)
    · rw [show t = i by omega]; exact Int.le_refl _)).1
  refine ⟨e1, ?_⟩
  have hm : hs.getD i 0 ∈ hs := by rw [List.getD_eq_getElem?_getD, List.getElem?_eq_getElem hi]; exact List.getElem_mem hi
  rw [leN_of hp, e1, if_pos hm]

/-- There and back. -/
theorem fnd_back {hs : List Int} (hp : hs.Pairwise (· < ·)) {F N : Int} (B : Bool) (hn : 1 ≤ hs.length) (hN : 1 ≤ N) {V : Int} (hV : V = hs.getD (fndAt hs F N B).toNat 0) :
    V ∈ hs ∧ hs.getD (fndAt hs V hs.length B).toNat 0 = V ∧ hs.getD (fndAt hs (hs.getD (fndAt hs V 1 B).toNat 0) 1 (!B)).toNat 0 = V := by
  have hb := fnd_bd (F := F) (B := B) hn hN
  generalize hi : (fndAt hs F N B).toNat = i at hV
  have hil : i < hs.length := by omega
  obtain ⟨c1, c2⟩ := cnt_at hp hil
  rw [← hV] at c1 c2
  have hm : V ∈ hs := by rw [hV, List.getD_eq_getElem?_getD, List.getElem?_eq_getElem hil]; exact List.getElem_mem hil
  have e1 : fndAt hs V hs.length B = i := by
    rw [fndAt_em hn (by omega), c1, c2]
    cases B
    · simp only [Bool.false_eq_true, if_false]
      rw [show (((i + 1 : Nat) : Int) + (hs.length : Int) - 1) = (i : Int) + hs.length by omega, Int.add_emod_right, Int.emod_eq_of_lt (by omega) (by omega)]
    · simp only [if_true]
      rw [Int.sub_emod_right, Int.emod_eq_of_lt (by omega) (by omega)]
  refine ⟨hm, by rw [e1, Int.toNat_natCast, ← hV], ?_⟩
  have hb1 := fnd_bd (F := V) (N := 1) (B := B) hn (by omega)
  have e2 : fndAt hs V 1 B = if B then ((i : Int) - 1) % hs.length else ((i : Int) + 1) % hs.length := by
    rw [fndAt_em hn (by omega), c1, c2]
    cases B
    · simp only [Bool.false_eq_true, if_false]
      rw [show (((i + 1 : Nat) : Int) + 1 - 1) = (i : Int) + 1 by omega]
    · simp only [if_true]
  generalize hj : (fndAt hs V 1 B).toNat = j
  have hjl : j < hs.length := by omega
  have hjz : (j : Int) = if B then ((i : Int) - 1) % hs.length else ((i : Int) + 1) % hs.length := by rw [← e2]; omega
  obtain ⟨d1, d2⟩ := cnt_at hp hjl
  have e3 : fndAt hs (hs.getD j 0) 1 (!B) = i := by
    rw [fndAt_em hn (by omega), d1, d2]
    cases B
    · simp only [Bool.false_eq_true, if_false] at hjz
      simp only [Bool.not_false, if_true]
      rw [hjz, Int.sub_emod, Int.emod_emod_of_dvd _ (Int.dvd_refl _), ← Int.sub_emod, show (i : Int) + 1 - 1 = i by omega, Int.emod_eq_of_lt (by omega) (by omega)]
    · simp only [if_true] at hjz
      simp only [Bool.not_true, Bool.false_eq_true, if_false]
      rw [show (((j + 1 : Nat) : Int) + 1 - 1) = (j : Int) + 1 by omega, hjz, Int.add_emod, Int.emod_emod_of_dvd _ (Int.dvd_refl _), ← Int.add_emod, show (i : Int) - 1 + 1 = i by omega, Int.emod_eq_of_lt (by omega) (by omega)]
  rw [e3, Int.toNat_natCast, ← hV]

theorem hits_pw (is : List In) (xs : List Int) : (hits is xs).Pairwise (· < ·) := hitsN_pw _
theorem hits_bd {is : List In} {xs : List Int} (h4 : xs.length ≤ 400) : (hits is xs).length ≤ 400 ∧ ∀ h ∈ hits is xs, 0 ≤ h ∧ h < ((lns xs).length : Int) :=
  ⟨Nat.le_trans (hitsN_len _) (Nat.le_trans (lns_len xs) h4), fun h hm => hitsN_lt _ h hm⟩

/-- What a line tells. -/
theorem has_line {is : List In} {xs : List Int} (hp : progFault is = 0) (h4 : xs.length ≤ 400) {k : Nat} (hk : k < (lns xs).length) : lineHas is (lbRes xs (k : Int)) = hasV is (cutOf xs ((lns xs).getD k (0, 0))) := by
  have e : lbRes xs (k : Int) = cutOf xs ((lns xs).getD k (0, 0)) := by
    have e0 : lbCode xs (k : Int) = 0 := by unfold lbCode; rw [if_neg (by omega), if_neg (by omega)]
    unfold lbRes
    rw [if_pos e0, Int.toNat_natCast]
  have hl := lbRes_len xs (k : Int)
  rw [e] at hl ⊢
  unfold lineHas
  rw [decide_eq_true hp, decide_eq_true hl]
  rfl
theorem hits_has {is : List In} {xs : List Int} (hp : progFault is = 0) (h4 : xs.length ≤ 400) : ∀ (k : Nat), k ≤ (lns xs).length → ∀ h ∈ hitsN is xs k, lineHas is (lbRes xs h) = true
  | 0, _, h, hm => by simp [hitsN] at hm
  | k + 1, hk, h, hm => by
    rw [hitsN, List.mem_append] at hm
    rcases hm with hm | hm
    · exact hits_has hp h4 k (by omega) h hm
    · split at hm
      · rename_i hv
        simp at hm
        subst hm
        rw [has_line hp h4 (by omega)]
        exact hv
      · simp at hm

theorem fdC_of {is : List In} {xs : List Int} {F N : Int} (hp : progFault is = 0) (h4 : xs.length ≤ 400) (h1 : -1 ≤ F) (h2 : F ≤ ((lns xs).length : Int)) (h3 : 1 ≤ N) (h5 : N ≤ 999) (h6 : hits is xs ≠ []) : fdC is xs F N = 0 := by
  unfold fdC
  rw [if_neg (by simpa using hp), if_neg (by omega), if_neg (by omega), if_neg h6]
theorem fdC_ok {is : List In} {xs : List Int} {F N : Int} (h : fdC is xs F N = 0 ∨ fdC is xs F N = 4) : progFault is = 0 ∨ progFault is = 4 := by
  unfold fdC at h
  by_cases h1 : progFault is ≠ 0
  · rw [if_pos h1] at h
    rcases h with h | h
    · exact .inl h
    · exact .inr h
  · exact .inl (by simpa using h1)
theorem instF_no4 {n : Int} {i : In} : instF n i ≠ 4 := by
  unfold instF
  repeat' split
  all_goals omega
theorem progFault_no4 {is : List In} : progFault is ≠ 4 := by
  have go : ∀ (n : Int) (l : List In), progGo n l ≠ 4 := by
    intro n l
    induction l with
    | nil => unfold progGo; first | omega | (split <;> omega)
    | cons i l ih =>
      unfold progGo
      split
      · exact ih
      · exact instF_no4
  unfold progFault
  split
  · omega
  · exact go _ _

/-- All that FnFinds asks of what is found. -/
theorem finds {is : List In} {xs : List Int} {F N : Int} (B : Bool) (h : fdC is xs F N = 0) :
    progFault is = 0 ∧ xs.length ≤ 400 ∧ 0 < (hits is xs).length ∧ lineHas is (lbRes xs (fdV is xs F N B)) = true ∧
    fdC is xs (fdV is xs F N B) (hits is xs).length = 0 ∧ fdV is xs (fdV is xs F N B) (hits is xs).length B = fdV is xs F N B ∧
    fdC is xs (fdV is xs F N B) 1 = 0 ∧
    fdC is xs (fdV is xs (fdV is xs F N B) 1 B) 1 = 0 ∧ fdV is xs (fdV is xs (fdV is xs F N B) 1 B) 1 (!B) = fdV is xs F N B := by
  have hp : progFault is = 0 := (fdC_ok (.inl h)).resolve_right progFault_no4
  have h4 : xs.length ≤ 400 := by
    unfold fdC at h
    rw [if_neg (by simpa using hp)] at h
    apply Classical.byContradiction
    intro hn
    rw [if_pos (by omega)] at h
    omega
  have h5 : ¬ (F < -1 ∨ ((lns xs).length : Int) < F ∨ N < 1 ∨ 999 < N) := fun hn => by
    unfold fdC at h
    rw [if_neg (by simpa using hp), if_neg (by omega), if_pos hn] at h
    omega
  have h6 : hits is xs ≠ [] := fun hn => by
    unfold fdC at h
    rw [if_neg (by simpa using hp), if_neg (by omega), if_neg h5, if_pos hn] at h
    omega
  have hl : 1 ≤ (hits is xs).length := by
    cases e : hits is xs with
    | nil => exact absurd e h6
    | cons a l => simp
  obtain ⟨b1, b2⟩ := hits_bd (is := is) h4
  have eV : fdV is xs F N B = (hits is xs).getD (fndAt (hits is xs) F N B).toNat 0 := by unfold fdV; rw [if_pos h]
  obtain ⟨g1, g2, g3⟩ := fnd_back (hits_pw is xs) B hl (show 1 ≤ N by omega) eV
  have r1 := b2 _ g1
  generalize fdV is xs F N B = V at *
  have k1 : fdC is xs V (hits is xs).length = 0 := fdC_of hp h4 (by omega) (by omega) (by omega) (by omega) h6
  have k2 : fdC is xs V 1 = 0 := fdC_of hp h4 (by omega) (by omega) (by omega) (by omega) h6
  have e2 : fdV is xs V 1 B = (hits is xs).getD (fndAt (hits is xs) V 1 B).toNat 0 := by unfold fdV; rw [if_pos k2]
  have hm2 : fdV is xs V 1 B ∈ hits is xs := by
    have hb1 := fnd_bd (F := V) (N := 1) (B := B) hl (by omega)
    rw [e2, List.getD_eq_getElem?_getD, List.getElem?_eq_getElem (by omega)]
    exact List.getElem_mem _
  have r2 := b2 _ hm2
  have k3 : fdC is xs (fdV is xs V 1 B) 1 = 0 := fdC_of hp h4 (by omega) (by omega) (by omega) (by omega) h6
  refine ⟨hp, h4, by omega, hits_has hp h4 _ (Nat.le_refl _) V g1, k1, by unfold fdV; rw [if_pos k1]; exact g2, k2, k3, ?_⟩
  rw [← e2] at g3
  generalize fdV is xs V 1 B = Z at *
  unfold fdV
  rw [if_pos k3]
  exact g3
theorem finds_none {is : List In} {xs : List Int} {F N : Int} (h : fdC is xs F N = 4) : progFault is = 0 ∧ xs.length ≤ 400 ∧ hits is xs = [] := by
  have hp : progFault is = 0 := (fdC_ok (.inr h)).resolve_right progFault_no4
  unfold fdC at h
  rw [if_neg (by simpa using hp)] at h
  by_cases h4 : 400 < xs.length
  · rw [if_pos h4] at h; omega
  rw [if_neg h4] at h
  refine ⟨hp, by omega, ?_⟩
  split at h
  · omega
  · split at h
    · assumption
    · omega
end Go.Proofs.Ytocophekfbhfbaa

namespace Go.Proofs.Ytocophekfbhfbaa
open Go.RowKit
set_option linter.unusedVariables false
set_option linter.unusedSimpArgs false

theorem cell_setF {w : World} {b i B j : Nat} {u v : Value} (h : w.cell? ⟨b, i, none⟩ = some v) (hne : b ≠ B) : (w.setCell ⟨B, j, none⟩ u).cell? ⟨b, i, none⟩ = some v :=
  (World.cell?_of_block (a := ⟨b, i, none⟩) (Below.heap_setCell w ⟨B, j, none⟩ u b hne)).trans h

set_option maxRecDepth 10000 in
set_option maxHeartbeats 6400000 in
theorem DrawFindLine_any (a : Option Addr) (n ca : Nat) (xs : List Int) (w : World) (ha : Rd .u8 w a n xs) (hB : Bytes xs) (hn : n ≤ 1048576) :
    Calls Try.prog 57 #[.slice a n ca] w fun e w' => ∃ v ps u ys F N B, e = .returned (.tuple #[v, .agg #[u], .int .i64 F, .int .i64 N, .bool B]) ∧ RowS inE 8 252 w' w.heap.size w'.heap.size v ps.length ps ∧ ps.length ≤ 81 ∧ (∀ i ∈ ps, i.s.size ≤ 20) ∧
      RowI .u8 5 w' w.heap.size w'.heap.size u ys.length ys ∧ ys.length ≤ 401 ∧ Bytes ys ∧ Below w.heap.size w w' := by
  go_enter Try.func57, Try.ntmps57
  have hb : Below w.heap.size w w := Below.refl _ _
  go_wp2_with fail
  have bp : ∀ o0, Below w.heap.size w (w.alloc o0) := fun o0 => (Below.refl _ _).alloc (Nat.le_refl _) o0
  have hbt : ∀ o0, Below w.heap.size w (w.alloc o0) := fun o0 => hb.trans ((bp o0).mono hb.size)
  refine Calls.mono (l1Source_any a n ca xs w.heap.size _ (ha.below (hbt _)) hB hn (src_below ha) (by first | (simp; done) | (simp; omega))) ?_
  rintro e w1 ⟨rfl, hs, hc⟩
  (try simp only [World.size_alloc] at hs)
  have s1 : w.heap.size + 1 ≤ w1.heap.size := by have := hc.size; simp at this; omega
  have bq : Below w.heap.size w w1 := (bp _).trans (hc.mono (bp _).size)
  have cA0 : w1.cell? ⟨w.heap.size, 0, none⟩ = some (.slice none 0 0) := cell_later hc (by simp [go_sem])
  have fA0 : w1.frozen? ⟨w.heap.size, 0, none⟩ = false := (hc.frozen (p := ⟨w.heap.size, 0, none⟩) (by first | (simp; done) | (simp; omega))).trans (by simp [go_sem])
  have zA : w.heap.size < w1.heap.size := by omega
  replace hb := hb.trans (bq.mono hb.size)
  clear hc bq bp hbt
  have zsrc := hs.lt
  have zsrc0 := zsrc
  go_wp2_with fail
  refine Calls.mono (l7Bent_any w.heap.size (w.heap.size + 1) 0 _ hs (by omega)) ?_
  clear hs
  rintro e w2 ⟨v, ps, rfl, P⟩
  have hs := P.src
  have hc := P.grown
  have hpl := P.len
  have hps := P.small
  have rp := RowS.of P.own
  clear P
  obtain ⟨ap, kp, rfl, hkp1, hkp2⟩ := rp.shape inE_len
  have s2 : w1.heap.size ≤ w2.heap.size := hc.size
  have gq : w1.grownBy w2 (some (w.heap.size + 1)) := hc
  replace cA0 := (Chg.one gq).at cA0 zA (by omega)
  replace fA0 := (Chg.one gq).fr fA0 zA (by omega)
  replace zA := Nat.lt_of_lt_of_le zA gq.size
  replace hb := below_src hb gq (by omega)
  clear hc gq
  replace zsrc := hs.lt
  go_wp2_with fail
  refine Calls.mono (l2Bent_any w.heap.size (w.heap.size + 1) _ _ hs (by omega)) ?_
  clear hs
  rintro e w3 ⟨v2, ys, rfl, ry, hyl, hyb, hs, hc⟩
  obtain ⟨ay, ky, rfl, hky1, hky2⟩ := ry.shape
  have s3 : w2.heap.size ≤ w3.heap.size := hc.size
  have gq : w2.grownBy w3 (some (w.heap.size + 1)) := hc
  replace cA0 := (Chg.one gq).at cA0 zA (by omega)
  replace fA0 := (Chg.one gq).fr fA0 zA (by omega)
  replace zA := Nat.lt_of_lt_of_le zA gq.size
  replace rp := rp.chg (Chg.one gq) (by omega)
  replace hb := below_src hb gq (by omega)
  clear hc gq
  replace zsrc := hs.lt
  go_wp2_with fail
  refine Calls.mono (l2Lines_any (w3.heap.size) ay ys.length ky ys _ (by simp [go_sem]) (ry.below ((Below.refl _ _).alloc (Nat.le_refl _) _)).read (by omega)) ?_
  rintro e w4 ⟨v3, rfl, rl, hc⟩
  have hll := lns_len ys
  obtain ⟨al, kl, rfl, -, -⟩ := rl.shape lineE_len
  clear rl
  have hs2 := (hs.alloc _).kept (grownBy_of_below hc) (by simp)
  clear hs
  have hs := hs2
  clear hs2
  replace hc := grown_none (row := some (w.heap.size + 1)) (grownBy_of_below hc)
  have s4 : w3.heap.size + 1 ≤ w4.heap.size := by have := hc.size; simp at this; omega
  have gq : w3.grownBy w4 (some (w.heap.size + 1)) := (grownBy_alloc_trans hc)
  replace cA0 := (Chg.one gq).at cA0 zA (by omega)
  replace fA0 := (Chg.one gq).fr fA0 zA (by omega)
  replace zA := Nat.lt_of_lt_of_le zA gq.size
  have cF0 : w4.cell? ⟨w3.heap.size, 0, none⟩ = some (.slice ay ys.length ky) := (Chg.one hc).at (by simp [go_sem]) (by first | (simp; done) | (simp; omega)) (by omega)
  have zF : w3.heap.size < w4.heap.size := by omega
  replace rp := rp.chg (Chg.one gq) (by omega)
  replace ry := ry.chg (Chg.one gq) (by omega)
  replace hb := below_src hb gq (by omega)
  clear hc gq
  replace zsrc := hs.lt
  have hLW : ∀ q : Int, 0 ≤ q → q < 10000 → IntKind.i64.wrap (q - 1) = q - 1 := fun q h1 h2 => by rw [IntKind.wrap_i64]; omega
  go_wp2_with fail
  have bd : Below w4.heap.size w4 w4.drew := (Below.refl _ _).drew
  refine wp_region_held_drew (S := fun w' => Below w.heap.size w w' ∧ w'.cell? ⟨w3.heap.size, 0, none⟩ = some (.slice ay ys.length ky)) (by kernel_rfl) ⟨(hb.trans (bd.mono hb.size)), cell_later bd cF0⟩ (fun hS => ?_)
  obtain ⟨D4, hD⟩ : ∃ D, w4.drew = D := ⟨_, rfl⟩
  rw [hD] at hS bd ⊢
  have hc := bd
  clear hD bd
  have hs2 := hs.kept (grownBy_of_below hc) (by simp)
  clear hs
  have hs := hs2
  clear hs2
  replace hc := grown_none (row := some (w.heap.size + 1)) (grownBy_of_below hc)
  have s5 : w4.heap.size ≤ D4.heap.size := hc.size
  have gq : w4.grownBy D4 (some (w.heap.size + 1)) := hc
  replace cA0 := (Chg.one gq).at cA0 zA (by omega)
  replace fA0 := (Chg.one gq).fr fA0 zA (by omega)
  replace zA := Nat.lt_of_lt_of_le zA gq.size
  replace cF0 := (Chg.one gq).at cF0 zF (by omega)
  replace zF := Nat.lt_of_lt_of_le zF gq.size
  replace rp := rp.chg (Chg.one gq) (by omega)
  replace ry := ry.chg (Chg.one gq) (by omega)
  replace hb := below_src hb gq (by omega)
  clear hc gq
  replace zsrc := hs.lt
  refine wpAnyH_take (i := 0) (v := (.slice ap ps.length kp)) rfl (by as_aux_lemma => kernel_rfl) (by as_aux_lemma => kernel_rfl) (by as_aux_lemma => kernel_rfl) (fun _ _ _ h => h) (Or.inl ⟨by kernel_rfl, ?_⟩) hS ?_
  · intro w hSw; (try dsimp only at hSw); go_simp; all_goals (first | omega | (rw [IntKind.wrap_i64]; omega))
  (try simp only [Act.put, List.getElem_toArray, List.getElem_cons_zero, List.getElem_cons_succ, List.setIfInBounds_toArray, List.set_cons_zero, List.set_cons_succ])
  refine wpAnyH_take (i := 1) (v := (.agg #[.slice ay ys.length ky])) rfl (by as_aux_lemma => kernel_rfl) (by as_aux_lemma => kernel_rfl) (by as_aux_lemma => kernel_rfl) (fun _ _ _ h => h) (Or.inl ⟨by kernel_rfl, ?_⟩) hS ?_
  · intro w hSw; (try dsimp only at hSw); obtain ⟨hSb, hl0⟩ := hSw; go_simp; all_goals (first | omega | (rw [IntKind.wrap_i64]; omega))
  (try simp only [Act.put, List.getElem_toArray, List.getElem_cons_zero, List.getElem_cons_succ, List.setIfInBounds_toArray, List.set_cons_zero, List.set_cons_succ])
  refine wpAnyH_take (i := 2) (v := (.pointer (some ⟨w.heap.size + 1, 0, none⟩))) rfl (by as_aux_lemma => kernel_rfl) (by as_aux_lemma => kernel_rfl) (by as_aux_lemma => kernel_rfl) (fun _ _ _ h => h) (Or.inl ⟨by kernel_rfl, ?_⟩) hS ?_
  · intro w hSw; (try dsimp only at hSw); go_simp; all_goals (first | omega | (rw [IntKind.wrap_i64]; omega))
  (try simp only [Act.put, List.getElem_toArray, List.getElem_cons_zero, List.getElem_cons_succ, List.setIfInBounds_toArray, List.set_cons_zero, List.set_cons_succ])
  refine wpAnyH_take (i := 3) (v := (.int .i64 ((lns ys).length : Int))) rfl (by as_aux_lemma => kernel_rfl) (by as_aux_lemma => kernel_rfl) (by as_aux_lemma => kernel_rfl) (fun _ _ _ h => h) (Or.inl ⟨by kernel_rfl, ?_⟩) hS ?_
  · intro w hSw; (try dsimp only at hSw); go_simp; all_goals (first | omega | (rw [IntKind.wrap_i64]; omega))
  (try simp only [Act.put, List.getElem_toArray, List.getElem_cons_zero, List.getElem_cons_succ, List.setIfInBounds_toArray, List.set_cons_zero, List.set_cons_succ])
  refine wpAnyH_take (i := 4) (v := (.int .i64 (((lns ys).length : Int) + 3))) rfl (by as_aux_lemma => kernel_rfl) (by as_aux_lemma => kernel_rfl) (by as_aux_lemma => kernel_rfl) (fun _ _ _ h => h) (Or.inl ⟨by kernel_rfl, ?_⟩) hS ?_
  · intro w hSw; (try dsimp only at hSw); go_simp; all_goals (first | omega | (rw [IntKind.wrap_i64]; omega))
  (try simp only [Act.put, List.getElem_toArray, List.getElem_cons_zero, List.getElem_cons_succ, List.setIfInBounds_toArray, List.set_cons_zero, List.set_cons_succ])
  refine wpAnyH_take (i := 7) (v := (.pointer (some ⟨w.heap.size + 1, 0, none⟩))) rfl (by as_aux_lemma => kernel_rfl) (by as_aux_lemma => kernel_rfl) (by as_aux_lemma => kernel_rfl) (fun _ _ _ h => h) (Or.inl ⟨by kernel_rfl, ?_⟩) hS ?_
  · intro w hSw; (try dsimp only at hSw); go_simp; all_goals (first | omega | (rw [IntKind.wrap_i64]; omega))
  (try simp only [Act.put, List.getElem_toArray, List.getElem_cons_zero, List.getElem_cons_succ, List.setIfInBounds_toArray, List.set_cons_zero, List.set_cons_succ])
  refine wpAnyH_take (i := 10) (v := (.pointer (some ⟨w.heap.size + 1, 0, none⟩))) rfl (by as_aux_lemma => kernel_rfl) (by as_aux_lemma => kernel_rfl) (by as_aux_lemma => kernel_rfl) (fun _ _ _ h => h) (Or.inl ⟨by kernel_rfl, ?_⟩) hS ?_
  · intro w hSw; (try dsimp only at hSw); go_simp; all_goals (first | omega | (rw [IntKind.wrap_i64]; omega))
  (try simp only [Act.put, List.getElem_toArray, List.getElem_cons_zero, List.getElem_cons_succ, List.setIfInBounds_toArray, List.set_cons_zero, List.set_cons_succ])
  refine wpAnyH_ready (rs := [5, 8]) (by as_aux_lemma => kernel_rfl) (by simp) ?_
  refine AllReadyH.cons rfl (fun K hK => ?_) (AllReadyH.cons rfl (fun K hK => ?_) AllReadyH.nil)
  · skip
    go_simp
    refine Calls.mono (l1Next_any w.heap.size (w.heap.size + 1) _ (((lns ys).length : Int) + 3) _ hs (by omega) (by omega)) ?_
    clear hs
    rintro e w6 ⟨q, rfl, hq, hs, hc⟩
    obtain ⟨hq1, hq2⟩ := hq.2 (by omega)
    have hwq := hLW q (by omega) (by omega)
    have s6 : D4.heap.size ≤ w6.heap.size := hc.size
    have gq : D4.grownBy w6 (some (w.heap.size + 1)) := hc
    replace cA0 := (Chg.one gq).at cA0 zA (by omega)
    replace fA0 := (Chg.one gq).fr fA0 zA (by omega)
    replace zA := Nat.lt_of_lt_of_le zA gq.size
    replace cF0 := (Chg.one gq).at cF0 zF (by omega)
    replace zF := Nat.lt_of_lt_of_le zF gq.size
    replace rp := rp.chg (Chg.one gq) (by omega)
    replace ry := ry.chg (Chg.one gq) (by omega)
    replace hb := below_src hb gq (by omega)
    clear hc gq
    replace zsrc := hs.lt
    refine hK.out _ _ (⟨hb, cF0⟩) (fun hS => ?_)
    clear hK K
    (try simp only [Act.put, List.getElem_toArray, List.getElem_cons_zero, List.getElem_cons_succ, List.setIfInBounds_toArray, List.set_cons_zero, List.set_cons_succ])
    refine wpAnyH_take (i := 6) (v := (.int .i64 (q - 1))) rfl (by as_aux_lemma => kernel_rfl) (by as_aux_lemma => kernel_rfl) (by as_aux_lemma => kernel_rfl) (fun _ _ _ h => h) (Or.inl ⟨by kernel_rfl, ?_⟩) hS ?_
    · intro w hSw; (try dsimp only at hSw); go_simp; all_goals (first | omega | (rw [IntKind.wrap_i64]; omega))
    (try simp only [Act.put, List.getElem_toArray, List.getElem_cons_zero, List.getElem_cons_succ, List.setIfInBounds_toArray, List.set_cons_zero, List.set_cons_succ])
    refine wpAnyH_ready (rs := [8]) (by as_aux_lemma => kernel_rfl) (by simp) ?_
    refine AllReadyH.cons rfl (fun K hK => ?_) AllReadyH.nil
    go_simp
    have oL : RowI .i64 2 (w6.alloc (.cells #[.int .i64 1, .int .i64 1, .int .i64 2, .int .i64 3, .int .i64 999, .int .i64 1000, .int .i64 0] 2)) w6.heap.size (w6.alloc (.cells #[.int .i64 1, .int .i64 1, .int .i64 2, .int .i64 3, .int .i64 999, .int .i64 1000, .int .i64 0] 2)).heap.size (.slice (some ⟨w6.heap.size, 0, none⟩) 7 7) 7 [1, 1, 2, 3, 999, 1000, 0] := RowI.of (own_lit (k := .i64) w6 #[.int .i64 1, .int .i64 1, .int .i64 2, .int .i64 3, .int .i64 999, .int .i64 1000, .int .i64 0] 7 w6.heap.size [1, 1, 2, 3, 999, 1000, 0] rfl rfl (Nat.le_refl _) (by simp [maxLen]))
    have hc : Below w6.heap.size w6 (w6.alloc (.cells #[.int .i64 1, .int .i64 1, .int .i64 2, .int .i64 3, .int .i64 999, .int .i64 1000, .int .i64 0] 2)) := (Below.refl _ _).alloc (Nat.le_refl _) _
    generalize (w6.alloc (.cells #[.int .i64 1, .int .i64 1, .int .i64 2, .int .i64 3, .int .i64 999, .int .i64 1000, .int .i64 0] 2)) = w7 at *
    have hs2 := hs.kept (grownBy_of_below hc) (by simp)
    clear hs
    have hs := hs2
    clear hs2
    replace hc := grown_none (row := some (w.heap.size + 1)) (grownBy_of_below hc)
    have s7 : w6.heap.size ≤ w7.heap.size := hc.size
    have gq : w6.grownBy w7 (some (w.heap.size + 1)) := hc
    replace cA0 := (Chg.one gq).at cA0 zA (by omega)
    replace fA0 := (Chg.one gq).fr fA0 zA (by omega)
    replace zA := Nat.lt_of_lt_of_le zA gq.size
    replace cF0 := (Chg.one gq).at cF0 zF (by omega)
    replace zF := Nat.lt_of_lt_of_le zF gq.size
    replace rp := rp.chg (Chg.one gq) (by omega)
    replace ry := ry.chg (Chg.one gq) (by omega)
    replace hb := below_src hb gq (by omega)
    clear hc gq
    replace zsrc := hs.lt
    have rL := oL
    clear oL
    refine hK.out _ _ (⟨hb, cF0⟩) (fun hS => ?_)
    clear hK K
    (try simp only [Act.put, List.getElem_toArray, List.getElem_cons_zero, List.getElem_cons_succ, List.setIfInBounds_toArray, List.set_cons_zero, List.set_cons_succ])
    refine wpAnyH_ready (rs := [9]) (by as_aux_lemma => kernel_rfl) (by simp) ?_
    refine AllReadyH.cons rfl (fun K hK => ?_) AllReadyH.nil
    go_simp
    refine Calls.mono (l1Pick_any w.heap.size (w.heap.size + 1) _ w6.heap.size 7 [1, 1, 2, 3, 999, 1000, 0] _ hs (by omega) rfl (by omega) (by omega) (by omega) rL.read) ?_
    clear hs
    rintro e w8 ⟨N, rfl, hN, hs, hc⟩
    clear hN
    have s8 : w7.heap.size ≤ w8.heap.size := hc.size
    have gq : w7.grownBy w8 (some (w.heap.size + 1)) := hc
    replace cA0 := (Chg.one gq).at cA0 zA (by omega)
    replace fA0 := (Chg.one gq).fr fA0 zA (by omega)
    replace zA := Nat.lt_of_lt_of_le zA gq.size
    replace cF0 := (Chg.one gq).at cF0 zF (by omega)
    replace zF := Nat.lt_of_lt_of_le zF gq.size
    replace rp := rp.chg (Chg.one gq) (by omega)
    replace ry := ry.chg (Chg.one gq) (by omega)
    replace rL := rL.chg (Chg.one gq) (by omega)
    replace hb := below_src hb gq (by omega)
    clear hc gq
    replace zsrc := hs.lt
    refine hK.out _ _ (⟨hb, cF0⟩) (fun hS => ?_)
    clear hK K
    (try simp only [Act.put, List.getElem_toArray, List.getElem_cons_zero, List.getElem_cons_succ, List.setIfInBounds_toArray, List.set_cons_zero, List.set_cons_succ])
    refine wpAnyH_ready (rs := [11]) (by as_aux_lemma => kernel_rfl) (by simp) ?_
    refine AllReadyH.cons rfl (fun K hK => ?_) AllReadyH.nil
    go_simp
    refine Calls.mono (l1Chance_any w.heap.size (w.heap.size + 1) _ 2 _ hs (by omega) (by omega)) ?_
    clear hs
    rintro e w9 ⟨c, rfl, hs, hc⟩
    have s9 : w8.heap.size ≤ w9.heap.size := hc.size
    have gq : w8.grownBy w9 (some (w.heap.size + 1)) := hc
    replace cA0 := (Chg.one gq).at cA0 zA (by omega)
    replace fA0 := (Chg.one gq).fr fA0 zA (by omega)
    replace zA := Nat.lt_of_lt_of_le zA gq.size
    replace cF0 := (Chg.one gq).at cF0 zF (by omega)
    replace zF := Nat.lt_of_lt_of_le zF gq.size
    replace rp := rp.chg (Chg.one gq) (by omega)
    replace ry := ry.chg (Chg.one gq) (by omega)
    replace rL := rL.chg (Chg.one gq) (by omega)
    replace hb := below_src hb gq (by omega)
    clear hc gq
    replace zsrc := hs.lt
    refine hK.out _ _ (⟨hb, cF0⟩) (fun hS => ?_)
    clear hK K
    (try simp only [Act.put, List.getElem_toArray, List.getElem_cons_zero, List.getElem_cons_succ, List.setIfInBounds_toArray, List.set_cons_zero, List.set_cons_succ])
    refine wpAnyH_take (i := 12) (v := (.slice ap ps.length kp)) rfl (by as_aux_lemma => kernel_rfl) (by as_aux_lemma => kernel_rfl) (by as_aux_lemma => kernel_rfl) (fun _ _ _ h => h) (Or.inl ⟨by kernel_rfl, ?_⟩) hS ?_
    · intro w hSw; (try dsimp only at hSw); go_simp; all_goals (first | omega | (rw [IntKind.wrap_i64]; omega))
    (try simp only [Act.put, List.getElem_toArray, List.getElem_cons_zero, List.getElem_cons_succ, List.setIfInBounds_toArray, List.set_cons_zero, List.set_cons_succ])
    refine wpAnyH_ready (rs := [13]) (by as_aux_lemma => kernel_rfl) (by simp) ?_
    refine AllReadyH.cons rfl (fun K hK => ?_) AllReadyH.nil
    go_simp
    refine hK.out _ _ (⟨(hb.setCell (by first | omega | (simp; omega) | simp) _), (cell_setF cF0 (by omega))⟩) (fun hS => ?_)
    clear hK K
    (try simp only [Act.put, List.getElem_toArray, List.getElem_cons_zero, List.getElem_cons_succ, List.setIfInBounds_toArray, List.set_cons_zero, List.set_cons_succ])
    have hc : w9.grownBy (w9.setCell ⟨w.heap.size, 0, none⟩ (.slice ay ys.length ky)) (some (w.heap.size)) := (setCell_grown w9 (w.heap.size) 0 (.slice ay ys.length ky))
    have hs2 := hs.kept hc (fun j hj => by cases hj; exact ⟨by omega, by omega⟩)
    clear hs
    have hs := hs2
    clear hs2
    have e0 : (w9.setCell ⟨w.heap.size, 0, none⟩ (.slice ay ys.length ky)).cell? ⟨w.heap.size, 0, none⟩ = some (.slice ay ys.length ky) := by simp [go_sem, cA0]
    generalize (w9.setCell ⟨w.heap.size, 0, none⟩ (.slice ay ys.length ky)) = w10 at *
    clear cA0 fA0
    have cA0 := e0
    clear e0
    replace zA : w.heap.size < w10.heap.size := Nat.lt_of_lt_of_le zA hc.size
    have s10 : w9.heap.size ≤ w10.heap.size := hc.size
    have gq : w9.grownBy w10 (some (w.heap.size)) := hc
    replace cF0 := (Chg.one gq).at cF0 zF (by omega)
    replace zF := Nat.lt_of_lt_of_le zF gq.size
    replace rp := rp.chg (Chg.one gq) (by omega)
    replace ry := ry.chg (Chg.one gq) (by omega)
    replace rL := rL.chg (Chg.one gq) (by omega)
    replace hb := below_src hb gq (by omega)
    clear hc gq
    replace zsrc := hs.lt
    refine wpAnyH_take (i := 14) (v := (.int .i64 (q - 1))) rfl (by as_aux_lemma => kernel_rfl) (by as_aux_lemma => kernel_rfl) (by as_aux_lemma => kernel_rfl) (fun _ _ _ h => h) (Or.inl ⟨by kernel_rfl, ?_⟩) hS ?_
    · intro w hSw; (try dsimp only at hSw); go_simp; all_goals (first | omega | (rw [IntKind.wrap_i64]; omega))
    (try simp only [Act.put, List.getElem_toArray, List.getElem_cons_zero, List.getElem_cons_succ, List.setIfInBounds_toArray, List.set_cons_zero, List.set_cons_succ])
    refine wpAnyH_take (i := 15) (v := (.int .i64 N)) rfl (by as_aux_lemma => kernel_rfl) (by as_aux_lemma => kernel_rfl) (by as_aux_lemma => kernel_rfl) (fun _ _ _ h => h) (Or.inl ⟨by kernel_rfl, ?_⟩) hS ?_
    · intro w hSw; (try dsimp only at hSw); go_simp; all_goals (first | omega | (rw [IntKind.wrap_i64]; omega))
    (try simp only [Act.put, List.getElem_toArray, List.getElem_cons_zero, List.getElem_cons_succ, List.setIfInBounds_toArray, List.set_cons_zero, List.set_cons_succ])
    refine wpAnyH_take (i := 16) (v := (.bool c)) rfl (by as_aux_lemma => kernel_rfl) (by as_aux_lemma => kernel_rfl) (by as_aux_lemma => kernel_rfl) (fun _ _ _ h => h) (Or.inl ⟨by kernel_rfl, ?_⟩) hS ?_
    · intro w hSw; (try dsimp only at hSw); go_simp; all_goals (first | omega | (rw [IntKind.wrap_i64]; omega))
    (try simp only [Act.put, List.getElem_toArray, List.getElem_cons_zero, List.getElem_cons_succ, List.setIfInBounds_toArray, List.set_cons_zero, List.set_cons_succ])
    refine wpAnyH_done (by kernel_rfl) ?_ _
    clear hS
    go_wp2
    exact bodyPost_ret (v := .tuple #[.slice ap ps.length kp, .agg #[.slice ay ys.length ky], .int .i64 (q - 1), .int .i64 N, .bool c]) (by simp [results, Try.results57, go_sem, cA0]) rfl ⟨_, ps, _, ys, q - 1, N, c, rfl, rp.mono (by omega) (by omega), hpl, hps, ry.mono (by omega) (by omega), hyl, hyb, hb⟩
  · skip
    go_simp
    have oL : RowI .i64 2 (D4.alloc (.cells #[.int .i64 1, .int .i64 1, .int .i64 2, .int .i64 3, .int .i64 999, .int .i64 1000, .int .i64 0] 2)) D4.heap.size (D4.alloc (.cells #[.int .i64 1, .int .i64 1, .int .i64 2, .int .i64 3, .int .i64 999, .int .i64 1000, .int .i64 0] 2)).heap.size (.slice (some ⟨D4.heap.size, 0, none⟩) 7 7) 7 [1, 1, 2, 3, 999, 1000, 0] := RowI.of (own_lit (k := .i64) D4 #[.int .i64 1, .int .i64 1, .int .i64 2, .int .i64 3, .int .i64 999, .int .i64 1000, .int .i64 0] 7 D4.heap.size [1, 1, 2, 3, 999, 1000, 0] rfl rfl (Nat.le_refl _) (by simp [maxLen]))
    have hc : Below D4.heap.size D4 (D4.alloc (.cells #[.int .i64 1, .int .i64 1, .int .i64 2, .int .i64 3, .int .i64 999, .int .i64 1000, .int .i64 0] 2)) := (Below.refl _ _).alloc (Nat.le_refl _) _
    generalize (D4.alloc (.cells #[.int .i64 1, .int .i64 1, .int .i64 2, .int .i64 3, .int .i64 999, .int .i64 1000, .int .i64 0] 2)) = w6 at *
    have hs2 := hs.kept (grownBy_of_below hc) (by simp)
    clear hs
    have hs := hs2
    clear hs2
    replace hc := grown_none (row := some (w.heap.size + 1)) (grownBy_of_below hc)
    have s6 : D4.heap.size ≤ w6.heap.size := hc.size
    have gq : D4.grownBy w6 (some (w.heap.size + 1)) := hc
    replace cA0 := (Chg.one gq).at cA0 zA (by omega)
    replace fA0 := (Chg.one gq).fr fA0 zA (by omega)
    replace zA := Nat.lt_of_lt_of_le zA gq.size
    replace cF0 := (Chg.one gq).at cF0 zF (by omega)
    replace zF := Nat.lt_of_lt_of_le zF gq.size
    replace rp := rp.chg (Chg.one gq) (by omega)
    replace ry := ry.chg (Chg.one gq) (by omega)
    replace hb := below_src hb gq (by omega)
    clear hc gq
    replace zsrc := hs.lt
    have rL := oL
    clear oL
    refine hK.out _ _ (⟨hb, cF0⟩) (fun hS => ?_)
    clear hK K
    (try simp only [Act.put, List.getElem_toArray, List.getElem_cons_zero, List.getElem_cons_succ, List.setIfInBounds_toArray, List.set_cons_zero, List.set_cons_succ])
    refine wpAnyH_ready (rs := [5]) (by as_aux_lemma => kernel_rfl) (by simp) ?_
    refine AllReadyH.cons rfl (fun K hK => ?_) AllReadyH.nil
    go_simp
    refine Calls.mono (l1Next_any w.heap.size (w.heap.size + 1) _ (((lns ys).length : Int) + 3) _ hs (by omega) (by omega)) ?_
    clear hs
    rintro e w7 ⟨q, rfl, hq, hs, hc⟩
    obtain ⟨hq1, hq2⟩ := hq.2 (by omega)
    have hwq := hLW q (by omega) (by omega)
    have s7 : w6.heap.size ≤ w7.heap.size := hc.size
    have gq : w6.grownBy w7 (some (w.heap.size + 1)) := hc
    replace cA0 := (Chg.one gq).at cA0 zA (by omega)
    replace fA0 := (Chg.one gq).fr fA0 zA (by omega)
    replace zA := Nat.lt_of_lt_of_le zA gq.size
    replace cF0 := (Chg.one gq).at cF0 zF (by omega)
    replace zF := Nat.lt_of_lt_of_le zF gq.size
    replace rp := rp.chg (Chg.one gq) (by omega)
    replace ry := ry.chg (Chg.one gq) (by omega)
    replace rL := rL.chg (Chg.one gq) (by omega)
    replace hb := below_src hb gq (by omega)
    clear hc gq
    replace zsrc := hs.lt
    refine hK.out _ _ (⟨hb, cF0⟩) (fun hS => ?_)
    clear hK K
    (try simp only [Act.put, List.getElem_toArray, List.getElem_cons_zero, List.getElem_cons_succ, List.setIfInBounds_toArray, List.set_cons_zero, List.set_cons_succ])
    refine wpAnyH_take (i := 6) (v := (.int .i64 (q - 1))) rfl (by as_aux_lemma => kernel_rfl) (by as_aux_lemma => kernel_rfl) (by as_aux_lemma => kernel_rfl) (fun _ _ _ h => h) (Or.inl ⟨by kernel_rfl, ?_⟩) hS ?_
    · intro w hSw; (try dsimp only at hSw); go_simp; all_goals (first | omega | (rw [IntKind.wrap_i64]; omega))
    (try simp only [Act.put, List.getElem_toArray, List.getElem_cons_zero, List.getElem_cons_succ, List.setIfInBounds_toArray, List.set_cons_zero, List.set_cons_succ])
    refine wpAnyH_ready (rs := [9]) (by as_aux_lemma => kernel_rfl) (by simp) ?_
    refine AllReadyH.cons rfl (fun K hK => ?_) AllReadyH.nil
    go_simp
    refine Calls.mono (l1Pick_any w.heap.size (w.heap.size + 1) _ D4.heap.size 7 [1, 1, 2, 3, 999, 1000, 0] _ hs (by omega) rfl (by omega) (by omega) (by omega) rL.read) ?_
    clear hs
    rintro e w8 ⟨N, rfl, hN, hs, hc⟩
    clear hN
    have s8 : w7.heap.size ≤ w8.heap.size := hc.size
    have gq : w7.grownBy w8 (some (w.heap.size + 1)) := hc
    replace cA0 := (Chg.one gq).at cA0 zA (by omega)
    replace fA0 := (Chg.one gq).fr fA0 zA (by omega)
    replace zA := Nat.lt_of_lt_of_le zA gq.size
    replace cF0 := (Chg.one gq).at cF0 zF (by omega)
    replace zF := Nat.lt_of_lt_of_le zF gq.size
    replace rp := rp.chg (Chg.one gq) (by omega)
    replace ry := ry.chg (Chg.one gq) (by omega)
    replace rL := rL.chg (Chg.one gq) (by omega)
    replace hb := below_src hb gq (by omega)
    clear hc gq
    replace zsrc := hs.lt
    refine hK.out _ _ (⟨hb, cF0⟩) (fun hS => ?_)
    clear hK K
    (try simp only [Act.put, List.getElem_toArray, List.getElem_cons_zero, List.getElem_cons_succ, List.setIfInBounds_toArray, List.set_cons_zero, List.set_cons_succ])
    refine wpAnyH_ready (rs := [11]) (by as_aux_lemma => kernel_rfl) (by simp) ?_
    refine AllReadyH.cons rfl (fun K hK => ?_) AllReadyH.nil
    go_simp
    refine Calls.mono (l1Chance_any w.heap.size (w.heap.size + 1) _ 2 _ hs (by omega) (by omega)) ?_
    clear hs
    rintro e w9 ⟨c, rfl, hs, hc⟩
    have s9 : w8.heap.size ≤ w9.heap.size := hc.size
    have gq : w8.grownBy w9 (some (w.heap.size + 1)) := hc
    replace cA0 := (Chg.one gq).at cA0 zA (by omega)
    replace fA0 := (Chg.one gq).fr fA0 zA (by omega)
    replace zA := Nat.lt_of_lt_of_le zA gq.size
    replace cF0 := (Chg.one gq).at cF0 zF (by omega)
    replace zF := Nat.lt_of_lt_of_le zF gq.size
    replace rp := rp.chg (Chg.one gq) (by omega)
    replace ry := ry.chg (Chg.one gq) (by omega)
    replace rL := rL.chg (Chg.one gq) (by omega)
    replace hb := below_src hb gq (by omega)
    clear hc gq
    replace zsrc := hs.lt
    refine hK.out _ _ (⟨hb, cF0⟩) (fun hS => ?_)
    clear hK K
    (try simp only [Act.put, List.getElem_toArray, List.getElem_cons_zero, List.getElem_cons_succ, List.setIfInBounds_toArray, List.set_cons_zero, List.set_cons_succ])
    refine wpAnyH_take (i := 12) (v := (.slice ap ps.length kp)) rfl (by as_aux_lemma => kernel_rfl) (by as_aux_lemma => kernel_rfl) (by as_aux_lemma => kernel_rfl) (fun _ _ _ h => h) (Or.inl ⟨by kernel_rfl, ?_⟩) hS ?_
    · intro w hSw; (try dsimp only at hSw); go_simp; all_goals (first | omega | (rw [IntKind.wrap_i64]; omega))
    (try simp only [Act.put, List.getElem_toArray, List.getElem_cons_zero, List.getElem_cons_succ, List.setIfInBounds_toArray, List.set_cons_zero, List.set_cons_succ])
    refine wpAnyH_ready (rs := [13]) (by as_aux_lemma => kernel_rfl) (by simp) ?_
    refine AllReadyH.cons rfl (fun K hK => ?_) AllReadyH.nil
    go_simp
    refine hK.out _ _ (⟨(hb.setCell (by first | omega | (simp; omega) | simp) _), (cell_setF cF0 (by omega))⟩) (fun hS => ?_)
    clear hK K
    (try simp only [Act.put, List.getElem_toArray, List.getElem_cons_zero, List.getElem_cons_succ, List.setIfInBounds_toArray, List.set_cons_zero, List.set_cons_succ])
    have hc : w9.grownBy (w9.setCell ⟨w.heap.size, 0, none⟩ (.slice ay ys.length ky)) (some (w.heap.size)) := (setCell_grown w9 (w.heap.size) 0 (.slice ay ys.length ky))
    have hs2 := hs.kept hc (fun j hj => by cases hj; exact ⟨by omega, by omega⟩)
    clear hs
    have hs := hs2
    clear hs2
    have e0 : (w9.setCell ⟨w.heap.size, 0, none⟩ (.slice ay ys.length ky)).cell? ⟨w.heap.size, 0, none⟩ = some (.slice ay ys.length ky) := by simp [go_sem, cA0]
    generalize (w9.setCell ⟨w.heap.size, 0, none⟩ (.slice ay ys.length ky)) = w10 at *
    clear cA0 fA0
    have cA0 := e0
    clear e0
    replace zA : w.heap.size < w10.heap.size := Nat.lt_of_lt_of_le zA hc.size
    have s10 : w9.heap.size ≤ w10.heap.size := hc.size
    have gq : w9.grownBy w10 (some (w.heap.size)) := hc
    replace cF0 := (Chg.one gq).at cF0 zF (by omega)
    replace zF := Nat.lt_of_lt_of_le zF gq.size
    replace rp := rp.chg (Chg.one gq) (by omega)
    replace ry := ry.chg (Chg.one gq) (by omega)
    replace rL := rL.chg (Chg.one gq) (by omega)
    replace hb := below_src hb gq (by omega)
    clear hc gq
    replace zsrc := hs.lt
    refine wpAnyH_take (i := 14) (v := (.int .i64 (q - 1))) rfl (by as_aux_lemma => kernel_rfl) (by as_aux_lemma => kernel_rfl) (by as_aux_lemma => kernel_rfl) (fun _ _ _ h => h) (Or.inl ⟨by kernel_rfl, ?_⟩) hS ?_
    · intro w hSw; (try dsimp only at hSw); go_simp; all_goals (first | omega | (rw [IntKind.wrap_i64]; omega))
    (try simp only [Act.put, List.getElem_toArray, List.getElem_cons_zero, List.getElem_cons_succ, List.setIfInBounds_toArray, List.set_cons_zero, List.set_cons_succ])
    refine wpAnyH_take (i := 15) (v := (.int .i64 N)) rfl (by as_aux_lemma => kernel_rfl) (by as_aux_lemma => kernel_rfl) (by as_aux_lemma => kernel_rfl) (fun _ _ _ h => h) (Or.inl ⟨by kernel_rfl, ?_⟩) hS ?_
    · intro w hSw; (try dsimp only at hSw); go_simp; all_goals (first | omega | (rw [IntKind.wrap_i64]; omega))
    (try simp only [Act.put, List.getElem_toArray, List.getElem_cons_zero, List.getElem_cons_succ, List.setIfInBounds_toArray, List.set_cons_zero, List.set_cons_succ])
    refine wpAnyH_take (i := 16) (v := (.bool c)) rfl (by as_aux_lemma => kernel_rfl) (by as_aux_lemma => kernel_rfl) (by as_aux_lemma => kernel_rfl) (fun _ _ _ h => h) (Or.inl ⟨by kernel_rfl, ?_⟩) hS ?_
    · intro w hSw; (try dsimp only at hSw); go_simp; all_goals (first | omega | (rw [IntKind.wrap_i64]; omega))
    (try simp only [Act.put, List.getElem_toArray, List.getElem_cons_zero, List.getElem_cons_succ, List.setIfInBounds_toArray, List.set_cons_zero, List.set_cons_succ])
    refine wpAnyH_done (by kernel_rfl) ?_ _
    clear hS
    go_wp2
    exact bodyPost_ret (v := .tuple #[.slice ap ps.length kp, .agg #[.slice ay ys.length ky], .int .i64 (q - 1), .int .i64 N, .bool c]) (by simp [results, Try.results57, go_sem, cA0]) rfl ⟨_, ps, _, ys, q - 1, N, c, rfl, rp.mono (by omega) (by omega), hpl, hps, ry.mono (by omega) (by omega), hyl, hyb, hb⟩
end Go.Proofs.Ytocophekfbhfbaa

namespace Go.Proofs.Ytocophekfbhfbaa
open Go.RowKit
set_option linter.unusedVariables false
set_option linter.unusedSimpArgs false

theorem fldI0f (x y : Value) (w : World) : (Instr.field 83 (.agg #[x, y]) 0).run Try.prog w = .ok x w := by kernel_rfl
theorem fldI1f (x y : Value) (w : World) : (Instr.field 83 (.agg #[x, y]) 1).run Try.prog w = .ok y w := by kernel_rfl
theorem fldB1f (x y : Value) (w : World) : (Instr.field 46 (.agg #[x, y]) 1).run Try.prog w = .ok y w := by kernel_rfl
theorem hN_step {is : List In} {xs : List Int} (hp : progFault is = 0) (h4 : xs.length ≤ 400) {k : Nat} (hk : k < (lns xs).length) :
    ((hitsN is xs (k + 1)).length : Int) = (hitsN is xs k).length + (if lineHas is (lbRes xs (k : Int)) = true then 1 else 0) := by
  rw [has_line hp h4 hk, hitsN, List.length_append]
  split <;> simp
theorem lbRes_byt {xs : List Int} (hB : Bytes xs) (I : Int) : Bytes (lbRes xs I) := by
  unfold lbRes
  split
  · exact cutOf_bytes9 hB _
  · exact fun x hx => by simp at hx

set_option maxRecDepth 20000 in
set_option maxHeartbeats 12000000 in
theorem findsWalk (a : Option Addr) (n ca : Nat) (xs : List Int) (w : World) (ha : Rd .u8 w a n xs) (hB : Bytes xs) (hm : n ≤ maxLen) :
    Calls Try.prog 8 #[.slice a n ca] w fun e w' => e = .returned (.bool true) ∧ Below w.heap.size w w' := by
  unfold maxLen at hm
  by_cases hn : n ≤ 1048576
  case neg =>
    go_enter Try.func8, Try.ntmps8
    go_wp2_with (go_at_call 10; go_in)
    go_ret
    exact ⟨rfl, Below.refl _ _⟩
  go_enter Try.func8, Try.ntmps8
  have hb : Below w.heap.size w w := Below.refl _ _
  go_wp2_with (go_at_call 10; go_in)
  refine Calls.mono (DrawFindLine_any a n ca xs _ (ha.below hb) hB hn) ?_
  rintro e w1 ⟨v, ps, u, ys, F, N, B, rfl, rp, hpl, hps, ry, hyl, hyb, hc⟩
  have hsum : inSum ps ≤ 1048576 := by have := inSum_le hps; omega
  clear hps
  obtain ⟨ap, kp, rfl, hkp1, hkp2⟩ := rp.shape inE_len
  obtain ⟨ay, ky, rfl, hky1, hky2⟩ := ry.shape
  have s1 : w.heap.size ≤ w1.heap.size := hc.size
  have bq := hc
  replace hb := hb.trans (bq.mono hb.size)
  clear hc bq
  have IC := fun w' h h' => implFindLine_any ap ps.length kp ps ay ys.length ky ys F N B w' h hsum (by omega) h' hyb (by omega) hky1 hky2
  have SC := fun w' h h' => specFindLine_any ap ps.length kp ps ay ys.length ky ys F N B w' h hsum (by omega) h' hyb (by omega) hky1 hky2
  have f0 := fldI0f
  have f1 := fldI1f
  have f2 := fldB1f
  by_cases hC : fdC ps ys F N = 0
  · skip
    obtain ⟨hp, h4, hH, hL, e1, e2, e3, e4, e5⟩ := finds B hC
    have hsp : (hits ps ys).length ≤ 400 := (hits_bd h4).1
    rw [hC] at IC SC
    generalize hVV : fdV ps ys F N B = V at *
    have IB := fun w' h h' => implFindLine_any ap ps.length kp ps ay ys.length ky ys V ((hits ps ys).length : Int) B w' h hsum (by omega) h' hyb (by omega) hky1 hky2
    rw [e1, e2] at IB
    have IO := fun w' h h' => implFindLine_any ap ps.length kp ps ay ys.length ky ys V 1 B w' h hsum (by omega) h' hyb (by omega) hky1 hky2
    rw [e3] at IO
    generalize fdV ps ys V 1 B = V1 at *
    have IT := fun w' h h' => implFindLine_any ap ps.length kp ps ay ys.length ky ys V1 1 (!B) w' h hsum (by omega) h' hyb (by omega) hky1 hky2
    rw [e4, e5] at IT
    have LB := fun w' h => implLineBytes_any ay ys.length ky V ys w' h hyb (by omega) hky1 (by simpa [maxLen] using hky2)
    have LH := fun x m cx w' h h' h2 => implLineHas_any ap ps.length kp ps x m cx (lbRes ys V) (lbRes_byt hyb V) w' h h' hsum (by omega) h2
    rw [hL] at LH
    have hlb := lbRes_len ys V
    generalize lbRes ys V = LL at *
    generalize lbCode ys V = lc at *
    have HIB := hid IB
    have HIO := hid IO
    have HIT := hid IT
    have HLB := hid LB
    have HLH := hid LH
    clear IB IO IT LB LH e1 e2 e3 e4 e5 hL hVV hC
    have LI := fun w' h => implLinesIn_any ay ys.length ky ys w' h hyb (by omega) hky1 (by simpa [maxLen] using hky2)
    rw [show linCode ys = 0 by unfold linCode; rw [if_neg (by omega)], show linRes ys = lns ys by unfold linRes; rw [if_neg (by omega)]] at LI
    have hll := lns_len ys
    have HLI := hid LI
    have HB1 := hid (fun (k : Nat) w' h => implLineBytes_any ay ys.length ky (k : Int) ys w' h hyb (by omega) hky1 (by simpa [maxLen] using hky2))
    have HH1 := hid (fun (k : Nat) x m cx w' h h' h2 => implLineHas_any ap ps.length kp ps x m cx (lbRes ys (k : Int)) (lbRes_byt hyb (k : Int)) w' h h' hsum (by omega) h2)
    have HST := hid (fun (k : Nat) (hk : k < (lns ys).length) => hN_step (is := ps) hp h4 hk)
    have HLE := hid (fun (k : Nat) => hitsN_len (is := ps) (xs := ys) k)
    have HIC := hid IC
    have HSC := hid SC
    clear IC SC LI hsum hkp1 hkp2 hky1 hky2 ha hp
    go_wp2_with fail
    have bp : ∀ o0, Below w1.heap.size w1 (w1.alloc o0) := fun o0 => (Below.refl _ _).alloc (Nat.le_refl _) o0
    have hbt : ∀ o0, Below w.heap.size w (w1.alloc o0) := fun o0 => hb.trans ((bp o0).mono hb.size)
    refine Calls.mono (HIC.out _ ((rp.below (bp _)).read inE_len) (ry.below (bp _)).read) ?_
    rintro e w2 ⟨rfl, hc⟩
    have s2 : w1.heap.size + 1 ≤ w2.heap.size := by have := hc.size; simp at this; omega
    have bq : Below w1.heap.size w1 w2 := (bp _).trans (hc.mono (bp _).size)
    have cX0 : w2.cell? ⟨w1.heap.size, 0, none⟩ = some (.slice ay ys.length ky) := cell_later hc (by simp [go_sem])
    have zX : w1.heap.size < w2.heap.size := by omega
    replace rp := rp.below bq
    replace ry := ry.below bq
    replace hb := hb.trans (bq.mono hb.size)
    clear hc bq bp hbt
    go_wp2_with fail
    have bp : ∀ o0, Below w2.heap.size w2 (w2.alloc o0) := fun o0 => (Below.refl _ _).alloc (Nat.le_refl _) o0
    have hbt : ∀ o0, Below w.heap.size w (w2.alloc o0) := fun o0 => hb.trans ((bp o0).mono hb.size)
    refine Calls.mono (HLI.out _ (ry.below (bp _)).read) ?_
    rintro e w3 ⟨vl, rfl, rl, hc⟩
    obtain ⟨al, kl, rfl, -, -⟩ := rl.shape lineE_len
    clear rl HLI HIC
    have s3 : w2.heap.size + 1 ≤ w3.heap.size := by have := hc.size; simp at this; omega
    have bq : Below w2.heap.size w2 w3 := (bp _).trans (hc.mono (bp _).size)
    replace cX0 := cell_later bq cX0
    replace zX := Nat.lt_of_lt_of_le zX bq.size
    have cR0 : w3.cell? ⟨w2.heap.size, 0, none⟩ = some (.int .i64 0) := cell_later hc (by simp [go_sem])
    have cR1 : w3.cell? ⟨w2.heap.size, 1, none⟩ = some (.int .i64 V) := cell_later hc (by simp [go_sem])
    have zR : w2.heap.size < w3.heap.size := by omega
    replace rp := rp.below bq
    replace ry := ry.below bq
    replace hb := hb.trans (bq.mono hb.size)
    clear hc bq bp hbt
    go_wp2_with fail
    have bp : ∀ o0, Below w3.heap.size w3 (w3.alloc o0) := fun o0 => (Below.refl _ _).alloc (Nat.le_refl _) o0
    have hbt : ∀ o0, Below w.heap.size w (w3.alloc o0) := fun o0 => hb.trans ((bp o0).mono hb.size)
    obtain ⟨w4, hw4⟩ : ∃ x, (w3.alloc (.cells #[.int .i64 0, .slice al (lns ys).length kl] 101)) = x := ⟨_, rfl⟩
    have hc : Below ((w3.alloc (.cells #[.int .i64 0, .slice al (lns ys).length kl] 101))).heap.size ((w3.alloc (.cells #[.int .i64 0, .slice al (lns ys).length kl] 101))) w4 := hw4 ▸ Below.refl _ _
    have s4 : w3.heap.size + 1 ≤ w4.heap.size := by have := hc.size; simp at this; omega
    have bq : Below w3.heap.size w3 w4 := (bp _).trans (hc.mono (bp _).size)
    replace cX0 := cell_later bq cX0
    replace zX := Nat.lt_of_lt_of_le zX bq.size
    replace cR0 := cell_later bq cR0
    replace cR1 := cell_later bq cR1
    replace zR := Nat.lt_of_lt_of_le zR bq.size
    have cM0 : w4.cell? ⟨w3.heap.size, 0, none⟩ = some (.int .i64 0) := cell_later hc (by simp [go_sem])
    have cM1 : w4.cell? ⟨w3.heap.size, 1, none⟩ = some (.slice al (lns ys).length kl) := cell_later hc (by simp [go_sem])
    have zM : w3.heap.size < w4.heap.size := by omega
    replace rp := rp.below bq
    replace ry := ry.below bq
    replace hb := hb.trans (bq.mono hb.size)
    clear hc bq bp hbt
    rw [hw4]
    clear hw4
    have HV := hid (And.intro hb (And.intro cX0 (And.intro cR0 (And.intro cR1 (And.intro cM0 (And.intro cM1 (And.intro zX (And.intro zR (And.intro zM (And.intro rp (And.intro ry (trivial))))))))))))
    clear hb cX0 cR0 cR1 cM0 cM1 zX zR zM rp ry
    go_loopw [10, 11] (fun h i wr => ∃ k : Nat, k ≤ (lns ys).length ∧ i = .int .i64 k ∧ h = .int .i64 ((hitsN ps ys k).length : Int) ∧ Below w4.heap.size w4 wr) (fun _ i _ => (lns ys).length - (intOf i).toNat)
    case atStart => exact ⟨0, Nat.zero_le _, rfl, rfl, Below.refl _ _⟩
    case round =>
      obtain ⟨k, hk, rfl, rfl, hbq⟩ := hrel
      have hhk := HLE.out k
      by_cases hlt : k < (lns ys).length
      · have hlt' : (k : Int) < ((lns ys).length : Int) := by omega
        have cM1 := cell_later hbq (HV.out.2.2.2.2.2.1)
        have cX0 := cell_later hbq (HV.out.2.1)
        have rp := (HV.out.2.2.2.2.2.2.2.2.2.1).below hbq
        have ry := (HV.out.2.2.2.2.2.2.2.2.2.2.1).below hbq
        have HSk := hid (HST.out k hlt)
        obtain ⟨HK, hHK⟩ : ∃ x : Int, ((hitsN ps ys k).length : Int) = x := ⟨_, rfl⟩
        rw [hHK]
        have hK0 : 0 ≤ HK ∧ HK ≤ 1000 := by omega
        obtain ⟨hK1, hK2⟩ := hK0
        rw [hHK] at HSk
        clear hHK
        go_wp2_with fail
        refine Calls.mono (HB1.out k _ ry.read) ?_
        rintro e wa ⟨vb, rfl, rb, hba⟩
        obtain ⟨ab, kb, rfl, -, -⟩ := rb.shape
        have rpa := rp.below hba
        have hlk := lbRes_len ys (k : Int)
        go_wp2_with fail
        refine Calls.mono (HH1.out k ab _ kb _ (rpa.read inE_len) rb.read (by omega)) ?_
        rintro e wb ⟨rfl, hbb⟩
        have hbD := hbq.trans ((hba.trans (hbb.mono hba.size)).mono hbq.size)
        clear hbq hba hbb rb rpa rp ry cM1 cX0
        generalize lineHas ps (lbRes ys (k : Int)) = qb at *
        cases qb
        · skip
          simp only [Bool.false_eq_true, if_false, Int.add_zero] at HSk
          go_wp2
          go_roundw
          case rel => exact ⟨k + 1, by omega, by go_num, by rw [HSk.out], hbD⟩
          case measure => simp [intOf]; omega
        · skip
          simp only [if_true] at HSk
          go_wp2
          go_roundw
          case rel => exact ⟨k + 1, by omega, by go_num, by rw [HSk.out], hbD⟩
          case measure => simp [intOf]; omega
      · have hlt' : ¬ (k : Int) < ((lns ys).length : Int) := by omega
        obtain rfl : k = (lns ys).length := by omega
        have hb := (HV.out.1).trans (hbq.mono (HV.out.1).size)
        have cX0 := cell_later hbq (HV.out.2.1)
        have cR0 := cell_later hbq (HV.out.2.2.1)
        have cR1 := cell_later hbq (HV.out.2.2.2.1)
        have cM0 := cell_later hbq (HV.out.2.2.2.2.1)
        have cM1 := cell_later hbq (HV.out.2.2.2.2.2.1)
        have zX := Nat.lt_of_lt_of_le (HV.out.2.2.2.2.2.2.1) hbq.size
        have zR := Nat.lt_of_lt_of_le (HV.out.2.2.2.2.2.2.2.1) hbq.size
        have zM := Nat.lt_of_lt_of_le (HV.out.2.2.2.2.2.2.2.2.1) hbq.size
        have rp := (HV.out.2.2.2.2.2.2.2.2.2.1).below hbq
        have ry := (HV.out.2.2.2.2.2.2.2.2.2.2.1).below hbq
        clear HV hbq hlt HST HB1 HH1 hhk HLE
        have hHH : (hitsN ps ys (lns ys).length) = hits ps ys := rfl
        rw [hHH]
        clear hHH
        obtain ⟨H, hHq⟩ : ∃ x, (hits ps ys).length = x := ⟨_, rfl⟩
        rw [hHq] at hH hsp HIB ⊢
        clear hHq
        have hH' : (0 : Int) < (H : Int) := by omega
        go_wp2_with fail
        refine Calls.mono (HIB.out _ (rp.read inE_len) ry.read) ?_
        rintro e w81 ⟨rfl, hc⟩
        clear HIB
        have s81 : wr.heap.size ≤ w81.heap.size := hc.size
        have bq := hc
        replace cX0 := cell_later bq cX0
        replace zX := Nat.lt_of_lt_of_le zX bq.size
        replace cR0 := cell_later bq cR0
        replace cR1 := cell_later bq cR1
        replace zR := Nat.lt_of_lt_of_le zR bq.size
        replace cM0 := cell_later bq cM0
        replace cM1 := cell_later bq cM1
        replace zM := Nat.lt_of_lt_of_le zM bq.size
        replace rp := rp.below bq
        replace ry := ry.below bq
        replace hb := hb.trans (bq.mono hb.size)
        clear hc bq
        go_wp2_with fail
        have bp : ∀ o0, Below w81.heap.size w81 (w81.alloc o0) := fun o0 => (Below.refl _ _).alloc (Nat.le_refl _) o0
        have hbt : ∀ o0, Below w.heap.size w (w81.alloc o0) := fun o0 => hb.trans ((bp o0).mono hb.size)
        refine Calls.mono (HIO.out _ ((rp.below (bp _)).read inE_len) (ry.below (bp _)).read) ?_
        rintro e w82 ⟨rfl, hc⟩
        clear HIO
        have s82 : w81.heap.size + 1 ≤ w82.heap.size := by have := hc.size; simp at this; omega
        have bq : Below w81.heap.size w81 w82 := (bp _).trans (hc.mono (bp _).size)
        replace cX0 := cell_later bq cX0
        replace zX := Nat.lt_of_lt_of_le zX bq.size
        replace cR0 := cell_later bq cR0
        replace cR1 := cell_later bq cR1
        replace zR := Nat.lt_of_lt_of_le zR bq.size
        replace cM0 := cell_later bq cM0
        replace cM1 := cell_later bq cM1
        replace zM := Nat.lt_of_lt_of_le zM bq.size
        have cb0 : w82.cell? ⟨w81.heap.size, 0, none⟩ = some (.int .i64 0) := cell_later hc (by simp [go_sem])
        have cb1 : w82.cell? ⟨w81.heap.size, 1, none⟩ = some (.int .i64 V) := cell_later hc (by simp [go_sem])
        have zb : w81.heap.size < w82.heap.size := by omega
        replace rp := rp.below bq
        replace ry := ry.below bq
        replace hb := hb.trans (bq.mono hb.size)
        clear hc bq bp hbt
        go_wp2_with fail
        have bp : ∀ o0, Below w82.heap.size w82 (w82.alloc o0) := fun o0 => (Below.refl _ _).alloc (Nat.le_refl _) o0
        have hbt : ∀ o0, Below w.heap.size w (w82.alloc o0) := fun o0 => hb.trans ((bp o0).mono hb.size)
        refine Calls.mono (HIT.out _ ((rp.below (bp _)).read inE_len) (ry.below (bp _)).read) ?_
        rintro e w83 ⟨rfl, hc⟩
        clear HIT
        have s83 : w82.heap.size + 1 ≤ w83.heap.size := by have := hc.size; simp at this; omega
        have bq : Below w82.heap.size w82 w83 := (bp _).trans (hc.mono (bp _).size)
        replace cX0 := cell_later bq cX0
        replace zX := Nat.lt_of_lt_of_le zX bq.size
        replace cR0 := cell_later bq cR0
        replace cR1 := cell_later bq cR1
        replace zR := Nat.lt_of_lt_of_le zR bq.size
        replace cM0 := cell_later bq cM0
        replace cM1 := cell_later bq cM1
        replace zM := Nat.lt_of_lt_of_le zM bq.size
        replace cb0 := cell_later bq cb0
        replace cb1 := cell_later bq cb1
        replace zb := Nat.lt_of_lt_of_le zb bq.size
        have co0 : w83.cell? ⟨w82.heap.size, 0, none⟩ = some (.int .i64 0) := cell_later hc (by simp [go_sem])
        have co1 : w83.cell? ⟨w82.heap.size, 1, none⟩ = some (.int .i64 V1) := cell_later hc (by simp [go_sem])
        have zo : w82.heap.size < w83.heap.size := by omega
        replace rp := rp.below bq
        replace ry := ry.below bq
        replace hb := hb.trans (bq.mono hb.size)
        clear hc bq bp hbt
        go_wp2_with fail
        have bp : ∀ o0, Below w83.heap.size w83 (w83.alloc o0) := fun o0 => (Below.refl _ _).alloc (Nat.le_refl _) o0
        have hbt : ∀ o0, Below w.heap.size w (w83.alloc o0) := fun o0 => hb.trans ((bp o0).mono hb.size)
        obtain ⟨w84, hw84⟩ : ∃ x, (w83.alloc (.cells #[.int .i64 0, .int .i64 V] 83)) = x := ⟨_, rfl⟩
        have hc : Below ((w83.alloc (.cells #[.int .i64 0, .int .i64 V] 83))).heap.size ((w83.alloc (.cells #[.int .i64 0, .int .i64 V] 83))) w84 := hw84 ▸ Below.refl _ _
        have s84 : w83.heap.size + 1 ≤ w84.heap.size := by have := hc.size; simp at this; omega
        have bq : Below w83.heap.size w83 w84 := (bp _).trans (hc.mono (bp _).size)
        replace cX0 := cell_later bq cX0
        replace zX := Nat.lt_of_lt_of_le zX bq.size
        replace cR0 := cell_later bq cR0
        replace cR1 := cell_later bq cR1
        replace zR := Nat.lt_of_lt_of_le zR bq.size
        replace cM0 := cell_later bq cM0
        replace cM1 := cell_later bq cM1
        replace zM := Nat.lt_of_lt_of_le zM bq.size
        replace cb0 := cell_later bq cb0
        replace cb1 := cell_later bq cb1
        replace zb := Nat.lt_of_lt_of_le zb bq.size
        replace co0 := cell_later bq co0
        replace co1 := cell_later bq co1
        replace zo := Nat.lt_of_lt_of_le zo bq.size
        have ct0 : w84.cell? ⟨w83.heap.size, 0, none⟩ = some (.int .i64 0) := cell_later hc (by simp [go_sem])
        have ct1 : w84.cell? ⟨w83.heap.size, 1, none⟩ = some (.int .i64 V) := cell_later hc (by simp [go_sem])
        have zt : w83.heap.size < w84.heap.size := by omega
        replace rp := rp.below bq
        replace ry := ry.below bq
        replace hb := hb.trans (bq.mono hb.size)
        clear hc bq bp hbt
        rw [hw84]
        clear hw84
        have bd : Below w84.heap.size w84 w84.drew := (Below.refl _ _).drew
        refine wp_region_held_drew (S := fun w' => Below w.heap.size w w' ∧ w'.cell? ⟨w2.heap.size, 1, none⟩ = some (.int .i64 V) ∧ w'.cell? ⟨w1.heap.size, 0, none⟩ = some (.slice ay ys.length ky) ∧ w'.cell? ⟨w81.heap.size, 0, none⟩ = some (.int .i64 0) ∧ w'.cell? ⟨w81.heap.size, 1, none⟩ = some (.int .i64 V) ∧ w'.cell? ⟨w83.heap.size, 0, none⟩ = some (.int .i64 0) ∧ w'.cell? ⟨w83.heap.size, 1, none⟩ = some (.int .i64 V)) (by kernel_rfl) ⟨(hb.trans (bd.mono hb.size)), cell_later bd cR1, cell_later bd cX0, cell_later bd cb0, cell_later bd cb1, cell_later bd ct0, cell_later bd ct1⟩ (fun hS => ?_)
        obtain ⟨D84, hD⟩ : ∃ D, w84.drew = D := ⟨_, rfl⟩
        rw [hD] at hS bd ⊢
        have hc := bd
        clear hD bd
        have s85 : w84.heap.size ≤ D84.heap.size := hc.size
        have bq := hc
        replace cX0 := cell_later bq cX0
        replace zX := Nat.lt_of_lt_of_le zX bq.size
        replace cR0 := cell_later bq cR0
        replace cR1 := cell_later bq cR1
        replace zR := Nat.lt_of_lt_of_le zR bq.size
        replace cM0 := cell_later bq cM0
        replace cM1 := cell_later bq cM1
        replace zM := Nat.lt_of_lt_of_le zM bq.size
        replace cb0 := cell_later bq cb0
        replace cb1 := cell_later bq cb1
        replace zb := Nat.lt_of_lt_of_le zb bq.size
        replace co0 := cell_later bq co0
        replace co1 := cell_later bq co1
        replace zo := Nat.lt_of_lt_of_le zo bq.size
        replace ct0 := cell_later bq ct0
        replace ct1 := cell_later bq ct1
        replace zt := Nat.lt_of_lt_of_le zt bq.size
        replace rp := rp.below bq
        replace ry := ry.below bq
        replace hb := hb.trans (bq.mono hb.size)
        clear hc bq
        refine wpAnyH_take (i := 0) (v := (.int .i64 (H : Int))) rfl (by as_aux_lemma => kernel_rfl) (by as_aux_lemma => kernel_rfl) (by as_aux_lemma => kernel_rfl) (fun _ _ _ h => h) (Or.inl ⟨by kernel_rfl, ?_⟩) hS ?_
        · intro w hSw; (try dsimp only at hSw); go_simp; all_goals (try omega)
        (try simp only [Act.put, List.getElem_toArray, List.getElem_cons_zero, List.getElem_cons_succ, List.setIfInBounds_toArray, List.set_cons_zero, List.set_cons_succ])
        refine wpAnyH_take (i := 1) (v := (.bool true)) rfl (by as_aux_lemma => kernel_rfl) (by as_aux_lemma => kernel_rfl) (by as_aux_lemma => kernel_rfl) (fun _ _ _ h => h) (Or.inl ⟨by kernel_rfl, ?_⟩) hS ?_
        · intro w hSw; (try dsimp only at hSw); go_simp; all_goals (try omega)
        (try simp only [Act.put, List.getElem_toArray, List.getElem_cons_zero, List.getElem_cons_succ, List.setIfInBounds_toArray, List.set_cons_zero, List.set_cons_succ])
        refine wpAnyH_take (i := 2) (v := (.bool true)) rfl (by as_aux_lemma => kernel_rfl) (by as_aux_lemma => kernel_rfl) (by as_aux_lemma => kernel_rfl) (fun _ _ _ h => h) (Or.inl ⟨by kernel_rfl, ?_⟩) hS ?_
        · intro w hSw; (try dsimp only at hSw); go_simp; all_goals (try omega)
        (try simp only [Act.put, List.getElem_toArray, List.getElem_cons_zero, List.getElem_cons_succ, List.setIfInBounds_toArray, List.set_cons_zero, List.set_cons_succ])
        refine wpAnyH_take (i := 3) (v := (.slice ap ps.length kp)) rfl (by as_aux_lemma => kernel_rfl) (by as_aux_lemma => kernel_rfl) (by as_aux_lemma => kernel_rfl) (fun _ _ _ h => h) (Or.inl ⟨by kernel_rfl, ?_⟩) hS ?_
        · intro w hSw; (try dsimp only at hSw); go_simp; all_goals (try omega)
        (try simp only [Act.put, List.getElem_toArray, List.getElem_cons_zero, List.getElem_cons_succ, List.setIfInBounds_toArray, List.set_cons_zero, List.set_cons_succ])
        refine wpAnyH_take (i := 4) (v := (.agg #[.slice ay ys.length ky])) rfl (by as_aux_lemma => kernel_rfl) (by as_aux_lemma => kernel_rfl) (by as_aux_lemma => kernel_rfl) (fun _ _ _ h => h) (Or.inl ⟨by kernel_rfl, ?_⟩) hS ?_
        · intro w hSw; (try dsimp only at hSw); obtain ⟨hSb, hl0, hl1, hl2, hl3, hl4, hl5⟩ := hSw; go_simp; all_goals (try omega)
        (try simp only [Act.put, List.getElem_toArray, List.getElem_cons_zero, List.getElem_cons_succ, List.setIfInBounds_toArray, List.set_cons_zero, List.set_cons_succ])
        refine wpAnyH_take (i := 5) (v := (.pointer (some ⟨w2.heap.size, 1, none⟩))) rfl (by as_aux_lemma => kernel_rfl) (by as_aux_lemma => kernel_rfl) (by as_aux_lemma => kernel_rfl) (fun _ _ _ h => h) (Or.inl ⟨by kernel_rfl, ?_⟩) hS ?_
        · intro w hSw; (try dsimp only at hSw); go_simp; all_goals (try omega)
        (try simp only [Act.put, List.getElem_toArray, List.getElem_cons_zero, List.getElem_cons_succ, List.setIfInBounds_toArray, List.set_cons_zero, List.set_cons_succ])
        refine wpAnyH_take (i := 6) (v := (.int .i64 V)) rfl (by as_aux_lemma => kernel_rfl) (by as_aux_lemma => kernel_rfl) (by as_aux_lemma => kernel_rfl) (fun _ _ _ h => h) (Or.inl ⟨by kernel_rfl, ?_⟩) hS ?_
        · intro w hSw; (try dsimp only at hSw); obtain ⟨hSb, hl0, hl1, hl2, hl3, hl4, hl5⟩ := hSw; go_simp; all_goals (try omega)
        (try simp only [Act.put, List.getElem_toArray, List.getElem_cons_zero, List.getElem_cons_succ, List.setIfInBounds_toArray, List.set_cons_zero, List.set_cons_succ])
        refine wpAnyH_ready (rs := [7]) (by as_aux_lemma => kernel_rfl) (by simp) ?_
        refine AllReadyH.cons rfl (fun K hK => ?_) AllReadyH.nil
        go_simp
        refine Calls.mono (HLB.out _ ry.read) ?_
        rintro e w86 ⟨vL, rfl, rL, hc⟩
        obtain ⟨aL, kL, rfl, -, -⟩ := rL.shape
        have s86 : D84.heap.size ≤ w86.heap.size := hc.size
        have bq := hc
        replace cX0 := cell_later bq cX0
        replace zX := Nat.lt_of_lt_of_le zX bq.size
        replace cR0 := cell_later bq cR0
        replace cR1 := cell_later bq cR1
        replace zR := Nat.lt_of_lt_of_le zR bq.size
        replace cM0 := cell_later bq cM0
        replace cM1 := cell_later bq cM1
        replace zM := Nat.lt_of_lt_of_le zM bq.size
        replace cb0 := cell_later bq cb0
        replace cb1 := cell_later bq cb1
        replace zb := Nat.lt_of_lt_of_le zb bq.size
        replace co0 := cell_later bq co0
        replace co1 := cell_later bq co1
        replace zo := Nat.lt_of_lt_of_le zo bq.size
        replace ct0 := cell_later bq ct0
        replace ct1 := cell_later bq ct1
        replace zt := Nat.lt_of_lt_of_le zt bq.size
        replace rp := rp.below bq
        replace ry := ry.below bq
        replace hb := hb.trans (bq.mono hb.size)
        clear hc bq
        refine hK.out _ _ (⟨hb, cR1, cX0, cb0, cb1, ct0, ct1⟩) (fun hS => ?_)
        clear hK K
        (try simp only [Act.put, List.getElem_toArray, List.getElem_cons_zero, List.getElem_cons_succ, List.setIfInBounds_toArray, List.set_cons_zero, List.set_cons_succ])
        refine wpAnyH_take (i := 8) (v := (.slice aL LL.length kL)) rfl (by as_aux_lemma => kernel_rfl) (by as_aux_lemma => kernel_rfl) (by as_aux_lemma => kernel_rfl) (fun _ _ _ h => h) (Or.inl ⟨by kernel_rfl, ?_⟩) hS ?_
        · intro w hSw; (try dsimp only at hSw); go_simp; all_goals (try omega)
        (try simp only [Act.put, List.getElem_toArray, List.getElem_cons_zero, List.getElem_cons_succ, List.setIfInBounds_toArray, List.set_cons_zero, List.set_cons_succ])
        refine wpAnyH_ready (rs := [9]) (by as_aux_lemma => kernel_rfl) (by simp) ?_
        refine AllReadyH.cons rfl (fun K hK => ?_) AllReadyH.nil
        go_simp
        refine Calls.mono (HLH.out aL LL.length kL _ (rp.read inE_len) rL.read (by omega)) ?_
        rintro e w87 ⟨rfl, hc⟩
        clear rL
        have s87 : w86.heap.size ≤ w87.heap.size := hc.size
        have bq := hc
        replace cX0 := cell_later bq cX0
        replace zX := Nat.lt_of_lt_of_le zX bq.size
        replace cR0 := cell_later bq cR0
        replace cR1 := cell_later bq cR1
        replace zR := Nat.lt_of_lt_of_le zR bq.size
        replace cM0 := cell_later bq cM0
        replace cM1 := cell_later bq cM1
        replace zM := Nat.lt_of_lt_of_le zM bq.size
        replace cb0 := cell_later bq cb0
        replace cb1 := cell_later bq cb1
        replace zb := Nat.lt_of_lt_of_le zb bq.size
        replace co0 := cell_later bq co0
        replace co1 := cell_later bq co1
        replace zo := Nat.lt_of_lt_of_le zo bq.size
        replace ct0 := cell_later bq ct0
        replace ct1 := cell_later bq ct1
        replace zt := Nat.lt_of_lt_of_le zt bq.size
        replace rp := rp.below bq
        replace ry := ry.below bq
        replace hb := hb.trans (bq.mono hb.size)
        clear hc bq
        refine hK.out _ _ (⟨hb, cR1, cX0, cb0, cb1, ct0, ct1⟩) (fun hS => ?_)
        clear hK K
        (try simp only [Act.put, List.getElem_toArray, List.getElem_cons_zero, List.getElem_cons_succ, List.setIfInBounds_toArray, List.set_cons_zero, List.set_cons_succ])
        refine wpAnyH_take (i := 10) (v := (.bool true)) rfl (by as_aux_lemma => kernel_rfl) (by as_aux_lemma => kernel_rfl) (by as_aux_lemma => kernel_rfl) (fun _ _ _ h => h) (Or.inl ⟨by kernel_rfl, ?_⟩) hS ?_
        · intro w hSw; (try dsimp only at hSw); go_simp; all_goals (try omega)
        (try simp only [Act.put, List.getElem_toArray, List.getElem_cons_zero, List.getElem_cons_succ, List.setIfInBounds_toArray, List.set_cons_zero, List.set_cons_succ])
        refine wpAnyH_take (i := 11) (v := (.bool true)) rfl (by as_aux_lemma => kernel_rfl) (by as_aux_lemma => kernel_rfl) (by as_aux_lemma => kernel_rfl) (fun _ _ _ h => h) (Or.inl ⟨by kernel_rfl, ?_⟩) hS ?_
        · intro w hSw; (try dsimp only at hSw); go_simp; all_goals (try omega)
        (try simp only [Act.put, List.getElem_toArray, List.getElem_cons_zero, List.getElem_cons_succ, List.setIfInBounds_toArray, List.set_cons_zero, List.set_cons_succ])
        refine wpAnyH_take (i := 12) (v := (.pointer (some ⟨w81.heap.size, 1, none⟩))) rfl (by as_aux_lemma => kernel_rfl) (by as_aux_lemma => kernel_rfl) (by as_aux_lemma => kernel_rfl) (fun _ _ _ h => h) (Or.inl ⟨by kernel_rfl, ?_⟩) hS ?_
        · intro w hSw; (try dsimp only at hSw); go_simp; all_goals (try omega)
        (try simp only [Act.put, List.getElem_toArray, List.getElem_cons_zero, List.getElem_cons_succ, List.setIfInBounds_toArray, List.set_cons_zero, List.set_cons_succ])
        refine wpAnyH_take (i := 13) (v := (.int .i64 V)) rfl (by as_aux_lemma => kernel_rfl) (by as_aux_lemma => kernel_rfl) (by as_aux_lemma => kernel_rfl) (fun _ _ _ h => h) (Or.inl ⟨by kernel_rfl, ?_⟩) hS ?_
        · intro w hSw; (try dsimp only at hSw); obtain ⟨hSb, hl0, hl1, hl2, hl3, hl4, hl5⟩ := hSw; go_simp; all_goals (try omega)
        (try simp only [Act.put, List.getElem_toArray, List.getElem_cons_zero, List.getElem_cons_succ, List.setIfInBounds_toArray, List.set_cons_zero, List.set_cons_succ])
        refine wpAnyH_take (i := 14) (v := (.pointer (some ⟨w2.heap.size, 1, none⟩))) rfl (by as_aux_lemma => kernel_rfl) (by as_aux_lemma => kernel_rfl) (by as_aux_lemma => kernel_rfl) (fun _ _ _ h => h) (Or.inl ⟨by kernel_rfl, ?_⟩) hS ?_
        · intro w hSw; (try dsimp only at hSw); go_simp; all_goals (try omega)
        (try simp only [Act.put, List.getElem_toArray, List.getElem_cons_zero, List.getElem_cons_succ, List.setIfInBounds_toArray, List.set_cons_zero, List.set_cons_succ])
        refine wpAnyH_take (i := 15) (v := (.int .i64 V)) rfl (by as_aux_lemma => kernel_rfl) (by as_aux_lemma => kernel_rfl) (by as_aux_lemma => kernel_rfl) (fun _ _ _ h => h) (Or.inl ⟨by kernel_rfl, ?_⟩) hS ?_
        · intro w hSw; (try dsimp only at hSw); obtain ⟨hSb, hl0, hl1, hl2, hl3, hl4, hl5⟩ := hSw; go_simp; all_goals (try omega)
        (try simp only [Act.put, List.getElem_toArray, List.getElem_cons_zero, List.getElem_cons_succ, List.setIfInBounds_toArray, List.set_cons_zero, List.set_cons_succ])
        refine wpAnyH_take (i := 16) (v := (.bool true)) rfl (by as_aux_lemma => kernel_rfl) (by as_aux_lemma => kernel_rfl) (by as_aux_lemma => kernel_rfl) (fun _ _ _ h => h) (Or.inl ⟨by kernel_rfl, ?_⟩) hS ?_
        · intro w hSw; (try dsimp only at hSw); go_simp; all_goals (try omega)
        (try simp only [Act.put, List.getElem_toArray, List.getElem_cons_zero, List.getElem_cons_succ, List.setIfInBounds_toArray, List.set_cons_zero, List.set_cons_succ])
        refine wpAnyH_take (i := 17) (v := (.bool true)) rfl (by as_aux_lemma => kernel_rfl) (by as_aux_lemma => kernel_rfl) (by as_aux_lemma => kernel_rfl) (fun _ _ _ h => h) (Or.inl ⟨by kernel_rfl, ?_⟩) hS ?_
        · intro w hSw; (try dsimp only at hSw); go_simp; all_goals (try omega)
        (try simp only [Act.put, List.getElem_toArray, List.getElem_cons_zero, List.getElem_cons_succ, List.setIfInBounds_toArray, List.set_cons_zero, List.set_cons_succ])
        refine wpAnyH_take (i := 18) (v := (.bool true)) rfl (by as_aux_lemma => kernel_rfl) (by as_aux_lemma => kernel_rfl) (by as_aux_lemma => kernel_rfl) (fun _ _ _ h => h) (Or.inl ⟨by kernel_rfl, ?_⟩) hS ?_
        · intro w hSw; (try dsimp only at hSw); go_simp; all_goals (try omega)
        (try simp only [Act.put, List.getElem_toArray, List.getElem_cons_zero, List.getElem_cons_succ, List.setIfInBounds_toArray, List.set_cons_zero, List.set_cons_succ])
        refine wpAnyH_take (i := 19) (v := (.pointer (some ⟨w81.heap.size, 0, none⟩))) rfl (by as_aux_lemma => kernel_rfl) (by as_aux_lemma => kernel_rfl) (by as_aux_lemma => kernel_rfl) (fun _ _ _ h => h) (Or.inl ⟨by kernel_rfl, ?_⟩) hS ?_
        · intro w hSw; (try dsimp only at hSw); go_simp; all_goals (try omega)
        (try simp only [Act.put, List.getElem_toArray, List.getElem_cons_zero, List.getElem_cons_succ, List.setIfInBounds_toArray, List.set_cons_zero, List.set_cons_succ])
        refine wpAnyH_take (i := 20) (v := (.int .i64 0)) rfl (by as_aux_lemma => kernel_rfl) (by as_aux_lemma => kernel_rfl) (by as_aux_lemma => kernel_rfl) (fun _ _ _ h => h) (Or.inl ⟨by kernel_rfl, ?_⟩) hS ?_
        · intro w hSw; (try dsimp only at hSw); obtain ⟨hSb, hl0, hl1, hl2, hl3, hl4, hl5⟩ := hSw; go_simp; all_goals (try omega)
        (try simp only [Act.put, List.getElem_toArray, List.getElem_cons_zero, List.getElem_cons_succ, List.setIfInBounds_toArray, List.set_cons_zero, List.set_cons_succ])
        refine wpAnyH_take (i := 21) (v := (.bool true)) rfl (by as_aux_lemma => kernel_rfl) (by as_aux_lemma => kernel_rfl) (by as_aux_lemma => kernel_rfl) (fun _ _ _ h => h) (Or.inl ⟨by kernel_rfl, ?_⟩) hS ?_
        · intro w hSw; (try dsimp only at hSw); go_simp; all_goals (try omega)
        (try simp only [Act.put, List.getElem_toArray, List.getElem_cons_zero, List.getElem_cons_succ, List.setIfInBounds_toArray, List.set_cons_zero, List.set_cons_succ])
        refine wpAnyH_take (i := 22) (v := (.bool true)) rfl (by as_aux_lemma => kernel_rfl) (by as_aux_lemma => kernel_rfl) (by as_aux_lemma => kernel_rfl) (fun _ _ _ h => h) (Or.inl ⟨by kernel_rfl, ?_⟩) hS ?_
        · intro w hSw; (try dsimp only at hSw); go_simp; all_goals (try omega)
        (try simp only [Act.put, List.getElem_toArray, List.getElem_cons_zero, List.getElem_cons_succ, List.setIfInBounds_toArray, List.set_cons_zero, List.set_cons_succ])
        refine wpAnyH_take (i := 23) (v := (.bool true)) rfl (by as_aux_lemma => kernel_rfl) (by as_aux_lemma => kernel_rfl) (by as_aux_lemma => kernel_rfl) (fun _ _ _ h => h) (Or.inl ⟨by kernel_rfl, ?_⟩) hS ?_
        · intro w hSw; (try dsimp only at hSw); go_simp; all_goals (try omega)
        (try simp only [Act.put, List.getElem_toArray, List.getElem_cons_zero, List.getElem_cons_succ, List.setIfInBounds_toArray, List.set_cons_zero, List.set_cons_succ])
        refine wpAnyH_take (i := 24) (v := (.pointer (some ⟨w83.heap.size, 1, none⟩))) rfl (by as_aux_lemma => kernel_rfl) (by as_aux_lemma => kernel_rfl) (by as_aux_lemma => kernel_rfl) (fun _ _ _ h => h) (Or.inl ⟨by kernel_rfl, ?_⟩) hS ?_
        · intro w hSw; (try dsimp only at hSw); go_simp; all_goals (try omega)
        (try simp only [Act.put, List.getElem_toArray, List.getElem_cons_zero, List.getElem_cons_succ, List.setIfInBounds_toArray, List.set_cons_zero, List.set_cons_succ])
        refine wpAnyH_take (i := 25) (v := (.int .i64 V)) rfl (by as_aux_lemma => kernel_rfl) (by as_aux_lemma => kernel_rfl) (by as_aux_lemma => kernel_rfl) (fun _ _ _ h => h) (Or.inl ⟨by kernel_rfl, ?_⟩) hS ?_
        · intro w hSw; (try dsimp only at hSw); obtain ⟨hSb, hl0, hl1, hl2, hl3, hl4, hl5⟩ := hSw; go_simp; all_goals (try omega)
        (try simp only [Act.put, List.getElem_toArray, List.getElem_cons_zero, List.getElem_cons_succ, List.setIfInBounds_toArray, List.set_cons_zero, List.set_cons_succ])
        refine wpAnyH_take (i := 26) (v := (.pointer (some ⟨w2.heap.size, 1, none⟩))) rfl (by as_aux_lemma => kernel_rfl) (by as_aux_lemma => kernel_rfl) (by as_aux_lemma => kernel_rfl) (fun _ _ _ h => h) (Or.inl ⟨by kernel_rfl, ?_⟩) hS ?_
        · intro w hSw; (try dsimp only at hSw); go_simp; all_goals (try omega)
        (try simp only [Act.put, List.getElem_toArray, List.getElem_cons_zero, List.getElem_cons_succ, List.setIfInBounds_toArray, List.set_cons_zero, List.set_cons_succ])
        refine wpAnyH_take (i := 27) (v := (.int .i64 V)) rfl (by as_aux_lemma => kernel_rfl) (by as_aux_lemma => kernel_rfl) (by as_aux_lemma => kernel_rfl) (fun _ _ _ h => h) (Or.inl ⟨by kernel_rfl, ?_⟩) hS ?_
        · intro w hSw; (try dsimp only at hSw); obtain ⟨hSb, hl0, hl1, hl2, hl3, hl4, hl5⟩ := hSw; go_simp; all_goals (try omega)
        (try simp only [Act.put, List.getElem_toArray, List.getElem_cons_zero, List.getElem_cons_succ, List.setIfInBounds_toArray, List.set_cons_zero, List.set_cons_succ])
        refine wpAnyH_take (i := 28) (v := (.bool true)) rfl (by as_aux_lemma => kernel_rfl) (by as_aux_lemma => kernel_rfl) (by as_aux_lemma => kernel_rfl) (fun _ _ _ h => h) (Or.inl ⟨by kernel_rfl, ?_⟩) hS ?_
        · intro w hSw; (try dsimp only at hSw); go_simp; all_goals (try omega)
        (try simp only [Act.put, List.getElem_toArray, List.getElem_cons_zero, List.getElem_cons_succ, List.setIfInBounds_toArray, List.set_cons_zero, List.set_cons_succ])
        refine wpAnyH_take (i := 29) (v := (.bool true)) rfl (by as_aux_lemma => kernel_rfl) (by as_aux_lemma => kernel_rfl) (by as_aux_lemma => kernel_rfl) (fun _ _ _ h => h) (Or.inl ⟨by kernel_rfl, ?_⟩) hS ?_
        · intro w hSw; (try dsimp only at hSw); go_simp; all_goals (try omega)
        (try simp only [Act.put, List.getElem_toArray, List.getElem_cons_zero, List.getElem_cons_succ, List.setIfInBounds_toArray, List.set_cons_zero, List.set_cons_succ])
        refine wpAnyH_take (i := 30) (v := (.bool true)) rfl (by as_aux_lemma => kernel_rfl) (by as_aux_lemma => kernel_rfl) (by as_aux_lemma => kernel_rfl) (fun _ _ _ h => h) (Or.inl ⟨by kernel_rfl, ?_⟩) hS ?_
        · intro w hSw; (try dsimp only at hSw); go_simp; all_goals (try omega)
        (try simp only [Act.put, List.getElem_toArray, List.getElem_cons_zero, List.getElem_cons_succ, List.setIfInBounds_toArray, List.set_cons_zero, List.set_cons_succ])
        refine wpAnyH_take (i := 31) (v := (.pointer (some ⟨w83.heap.size, 0, none⟩))) rfl (by as_aux_lemma => kernel_rfl) (by as_aux_lemma => kernel_rfl) (by as_aux_lemma => kernel_rfl) (fun _ _ _ h => h) (Or.inl ⟨by kernel_rfl, ?_⟩) hS ?_
        · intro w hSw; (try dsimp only at hSw); go_simp; all_goals (try omega)
        (try simp only [Act.put, List.getElem_toArray, List.getElem_cons_zero, List.getElem_cons_succ, List.setIfInBounds_toArray, List.set_cons_zero, List.set_cons_succ])
        refine wpAnyH_take (i := 32) (v := (.int .i64 0)) rfl (by as_aux_lemma => kernel_rfl) (by as_aux_lemma => kernel_rfl) (by as_aux_lemma => kernel_rfl) (fun _ _ _ h => h) (Or.inl ⟨by kernel_rfl, ?_⟩) hS ?_
        · intro w hSw; (try dsimp only at hSw); obtain ⟨hSb, hl0, hl1, hl2, hl3, hl4, hl5⟩ := hSw; go_simp; all_goals (try omega)
        (try simp only [Act.put, List.getElem_toArray, List.getElem_cons_zero, List.getElem_cons_succ, List.setIfInBounds_toArray, List.set_cons_zero, List.set_cons_succ])
        refine wpAnyH_take (i := 33) (v := (.bool true)) rfl (by as_aux_lemma => kernel_rfl) (by as_aux_lemma => kernel_rfl) (by as_aux_lemma => kernel_rfl) (fun _ _ _ h => h) (Or.inl ⟨by kernel_rfl, ?_⟩) hS ?_
        · intro w hSw; (try dsimp only at hSw); go_simp; all_goals (try omega)
        (try simp only [Act.put, List.getElem_toArray, List.getElem_cons_zero, List.getElem_cons_succ, List.setIfInBounds_toArray, List.set_cons_zero, List.set_cons_succ])
        refine wpAnyH_take (i := 34) (v := (.bool true)) rfl (by as_aux_lemma => kernel_rfl) (by as_aux_lemma => kernel_rfl) (by as_aux_lemma => kernel_rfl) (fun _ _ _ h => h) (Or.inl ⟨by kernel_rfl, ?_⟩) hS ?_
        · intro w hSw; (try dsimp only at hSw); go_simp; all_goals (try omega)
        (try simp only [Act.put, List.getElem_toArray, List.getElem_cons_zero, List.getElem_cons_succ, List.setIfInBounds_toArray, List.set_cons_zero, List.set_cons_succ])
        refine wpAnyH_take (i := 35) (v := (.bool true)) rfl (by as_aux_lemma => kernel_rfl) (by as_aux_lemma => kernel_rfl) (by as_aux_lemma => kernel_rfl) (fun _ _ _ h => h) (Or.inl ⟨by kernel_rfl, ?_⟩) hS ?_
        · intro w hSw; (try dsimp only at hSw); go_simp; all_goals (try omega)
        (try simp only [Act.put, List.getElem_toArray, List.getElem_cons_zero, List.getElem_cons_succ, List.setIfInBounds_toArray, List.set_cons_zero, List.set_cons_succ])
        refine wpAnyH_take (i := 36) (v := (.pointer (some ⟨w2.heap.size, 1, none⟩))) rfl (by as_aux_lemma => kernel_rfl) (by as_aux_lemma => kernel_rfl) (by as_aux_lemma => kernel_rfl) (fun _ _ _ h => h) (Or.inl ⟨by kernel_rfl, ?_⟩) hS ?_
        · intro w hSw; (try dsimp only at hSw); go_simp; all_goals (try omega)
        (try simp only [Act.put, List.getElem_toArray, List.getElem_cons_zero, List.getElem_cons_succ, List.setIfInBounds_toArray, List.set_cons_zero, List.set_cons_succ])
        refine wpAnyH_take (i := 37) (v := (.int .i64 V)) rfl (by as_aux_lemma => kernel_rfl) (by as_aux_lemma => kernel_rfl) (by as_aux_lemma => kernel_rfl) (fun _ _ _ h => h) (Or.inl ⟨by kernel_rfl, ?_⟩) hS ?_
        · intro w hSw; (try dsimp only at hSw); obtain ⟨hSb, hl0, hl1, hl2, hl3, hl4, hl5⟩ := hSw; go_simp; all_goals (try omega)
        (try simp only [Act.put, List.getElem_toArray, List.getElem_cons_zero, List.getElem_cons_succ, List.setIfInBounds_toArray, List.set_cons_zero, List.set_cons_succ])
        refine wpAnyH_take (i := 38) (v := (.slice ap ps.length kp)) rfl (by as_aux_lemma => kernel_rfl) (by as_aux_lemma => kernel_rfl) (by as_aux_lemma => kernel_rfl) (fun _ _ _ h => h) (Or.inl ⟨by kernel_rfl, ?_⟩) hS ?_
        · intro w hSw; (try dsimp only at hSw); go_simp; all_goals (try omega)
        (try simp only [Act.put, List.getElem_toArray, List.getElem_cons_zero, List.getElem_cons_succ, List.setIfInBounds_toArray, List.set_cons_zero, List.set_cons_succ])
        refine wpAnyH_take (i := 39) (v := (.agg #[.slice ay ys.length ky])) rfl (by as_aux_lemma => kernel_rfl) (by as_aux_lemma => kernel_rfl) (by as_aux_lemma => kernel_rfl) (fun _ _ _ h => h) (Or.inl ⟨by kernel_rfl, ?_⟩) hS ?_
        · intro w hSw; (try dsimp only at hSw); obtain ⟨hSb, hl0, hl1, hl2, hl3, hl4, hl5⟩ := hSw; go_simp; all_goals (try omega)
        (try simp only [Act.put, List.getElem_toArray, List.getElem_cons_zero, List.getElem_cons_succ, List.setIfInBounds_toArray, List.set_cons_zero, List.set_cons_succ])
        refine wpAnyH_take (i := 40) (v := (.int .i64 F)) rfl (by as_aux_lemma => kernel_rfl) (by as_aux_lemma => kernel_rfl) (by as_aux_lemma => kernel_rfl) (fun _ _ _ h => h) (Or.inl ⟨by kernel_rfl, ?_⟩) hS ?_
        · intro w hSw; (try dsimp only at hSw); go_simp; all_goals (try omega)
        (try simp only [Act.put, List.getElem_toArray, List.getElem_cons_zero, List.getElem_cons_succ, List.setIfInBounds_toArray, List.set_cons_zero, List.set_cons_succ])
        refine wpAnyH_take (i := 41) (v := (.int .i64 N)) rfl (by as_aux_lemma => kernel_rfl) (by as_aux_lemma => kernel_rfl) (by as_aux_lemma => kernel_rfl) (fun _ _ _ h => h) (Or.inl ⟨by kernel_rfl, ?_⟩) hS ?_
        · intro w hSw; (try dsimp only at hSw); go_simp; all_goals (try omega)
        (try simp only [Act.put, List.getElem_toArray, List.getElem_cons_zero, List.getElem_cons_succ, List.setIfInBounds_toArray, List.set_cons_zero, List.set_cons_succ])
        refine wpAnyH_take (i := 42) (v := (.bool B)) rfl (by as_aux_lemma => kernel_rfl) (by as_aux_lemma => kernel_rfl) (by as_aux_lemma => kernel_rfl) (fun _ _ _ h => h) (Or.inl ⟨by kernel_rfl, ?_⟩) hS ?_
        · intro w hSw; (try dsimp only at hSw); go_simp; all_goals (try omega)
        (try simp only [Act.put, List.getElem_toArray, List.getElem_cons_zero, List.getElem_cons_succ, List.setIfInBounds_toArray, List.set_cons_zero, List.set_cons_succ])
        refine wpAnyH_ready (rs := [43]) (by as_aux_lemma => kernel_rfl) (by simp) ?_
        refine AllReadyH.cons rfl (fun K hK => ?_) AllReadyH.nil
        go_simp
        refine Calls.mono (HSC.out _ (rp.read inE_len) ry.read) ?_
        rintro e w88 ⟨rfl, hc⟩
        have s88 : w87.heap.size ≤ w88.heap.size := hc.size
        have bq := hc
        replace cX0 := cell_later bq cX0
        replace zX := Nat.lt_of_lt_of_le zX bq.size
        replace cR0 := cell_later bq cR0
        replace cR1 := cell_later bq cR1
        replace zR := Nat.lt_of_lt_of_le zR bq.size
        replace cM0 := cell_later bq cM0
        replace cM1 := cell_later bq cM1
        replace zM := Nat.lt_of_lt_of_le zM bq.size
        replace cb0 := cell_later bq cb0
        replace cb1 := cell_later bq cb1
        replace zb := Nat.lt_of_lt_of_le zb bq.size
        replace co0 := cell_later bq co0
        replace co1 := cell_later bq co1
        replace zo := Nat.lt_of_lt_of_le zo bq.size
        replace ct0 := cell_later bq ct0
        replace ct1 := cell_later bq ct1
        replace zt := Nat.lt_of_lt_of_le zt bq.size
        replace rp := rp.below bq
        replace ry := ry.below bq
        replace hb := hb.trans (bq.mono hb.size)
        clear hc bq
        refine hK.out _ _ (⟨hb, cR1, cX0, cb0, cb1, ct0, ct1⟩) (fun hS => ?_)
        clear hK K
        (try simp only [Act.put, List.getElem_toArray, List.getElem_cons_zero, List.getElem_cons_succ, List.setIfInBounds_toArray, List.set_cons_zero, List.set_cons_succ])
        refine wpAnyH_take (i := 44) (v := (.int .i64 V)) rfl (by as_aux_lemma => kernel_rfl) (by as_aux_lemma => kernel_rfl) (by as_aux_lemma => kernel_rfl) (fun _ _ _ h => h) (Or.inl ⟨by kernel_rfl, ?_⟩) hS ?_
        · intro w hSw; (try dsimp only at hSw); go_simp; all_goals (try omega)
        (try simp only [Act.put, List.getElem_toArray, List.getElem_cons_zero, List.getElem_cons_succ, List.setIfInBounds_toArray, List.set_cons_zero, List.set_cons_succ])
        refine wpAnyH_take (i := 45) (v := (.bool true)) rfl (by as_aux_lemma => kernel_rfl) (by as_aux_lemma => kernel_rfl) (by as_aux_lemma => kernel_rfl) (fun _ _ _ h => h) (Or.inl ⟨by kernel_rfl, ?_⟩) hS ?_
        · intro w hSw; (try dsimp only at hSw); go_simp; all_goals (try omega)
        (try simp only [Act.put, List.getElem_toArray, List.getElem_cons_zero, List.getElem_cons_succ, List.setIfInBounds_toArray, List.set_cons_zero, List.set_cons_succ])
        refine wpAnyH_take (i := 46) (v := (.bool true)) rfl (by as_aux_lemma => kernel_rfl) (by as_aux_lemma => kernel_rfl) (by as_aux_lemma => kernel_rfl) (fun _ _ _ h => h) (Or.inl ⟨by kernel_rfl, ?_⟩) hS ?_
        · intro w hSw; (try dsimp only at hSw); go_simp; all_goals (try omega)
        (try simp only [Act.put, List.getElem_toArray, List.getElem_cons_zero, List.getElem_cons_succ, List.setIfInBounds_toArray, List.set_cons_zero, List.set_cons_succ])
        refine wpAnyH_take (i := 47) (v := (.bool true)) rfl (by as_aux_lemma => kernel_rfl) (by as_aux_lemma => kernel_rfl) (by as_aux_lemma => kernel_rfl) (fun _ _ _ h => h) (Or.inl ⟨by kernel_rfl, ?_⟩) hS ?_
        · intro w hSw; (try dsimp only at hSw); go_simp; all_goals (try omega)
        (try simp only [Act.put, List.getElem_toArray, List.getElem_cons_zero, List.getElem_cons_succ, List.setIfInBounds_toArray, List.set_cons_zero, List.set_cons_succ])
        refine wpAnyH_done (by kernel_rfl) ?_ _
        clear hS
        go_wp2
        go_ret
        exact ⟨rfl, hb⟩
  by_cases hD : fdC ps ys F N = 4
  · skip
    obtain ⟨hp, h4, hE⟩ := finds_none hD
    rw [hD] at IC SC
    generalize fdV ps ys F N B = V at *
    clear hC hD
    have LI := fun w' h => implLinesIn_any ay ys.length ky ys w' h hyb (by omega) hky1 (by simpa [maxLen] using hky2)
    rw [show linCode ys = 0 by unfold linCode; rw [if_neg (by omega)], show linRes ys = lns ys by unfold linRes; rw [if_neg (by omega)]] at LI
    have hll := lns_len ys
    have HLI := hid LI
    have HB1 := hid (fun (k : Nat) w' h => implLineBytes_any ay ys.length ky (k : Int) ys w' h hyb (by omega) hky1 (by simpa [maxLen] using hky2))
    have HH1 := hid (fun (k : Nat) x m cx w' h h' h2 => implLineHas_any ap ps.length kp ps x m cx (lbRes ys (k : Int)) (lbRes_byt hyb (k : Int)) w' h h' hsum (by omega) h2)
    have HST := hid (fun (k : Nat) (hk : k < (lns ys).length) => hN_step (is := ps) hp h4 hk)
    have HLE := hid (fun (k : Nat) => hitsN_len (is := ps) (xs := ys) k)
    have HIC := hid IC
    have HSC := hid SC
    clear IC SC LI hsum hkp1 hkp2 hky1 hky2 ha hp
    go_wp2_with fail
    have bp : ∀ o0, Below w1.heap.size w1 (w1.alloc o0) := fun o0 => (Below.refl _ _).alloc (Nat.le_refl _) o0
    have hbt : ∀ o0, Below w.heap.size w (w1.alloc o0) := fun o0 => hb.trans ((bp o0).mono hb.size)
    refine Calls.mono (HIC.out _ ((rp.below (bp _)).read inE_len) (ry.below (bp _)).read) ?_
    rintro e w2 ⟨rfl, hc⟩
    have s2 : w1.heap.size + 1 ≤ w2.heap.size := by have := hc.size; simp at this; omega
    have bq : Below w1.heap.size w1 w2 := (bp _).trans (hc.mono (bp _).size)
    have cX0 : w2.cell? ⟨w1.heap.size, 0, none⟩ = some (.slice ay ys.length ky) := cell_later hc (by simp [go_sem])
    have zX : w1.heap.size < w2.heap.size := by omega
    replace rp := rp.below bq
    replace ry := ry.below bq
    replace hb := hb.trans (bq.mono hb.size)
    clear hc bq bp hbt
    go_wp2_with fail
    have bp : ∀ o0, Below w2.heap.size w2 (w2.alloc o0) := fun o0 => (Below.refl _ _).alloc (Nat.le_refl _) o0
    have hbt : ∀ o0, Below w.heap.size w (w2.alloc o0) := fun o0 => hb.trans ((bp o0).mono hb.size)
    refine Calls.mono (HLI.out _ (ry.below (bp _)).read) ?_
    rintro e w3 ⟨vl, rfl, rl, hc⟩
    obtain ⟨al, kl, rfl, -, -⟩ := rl.shape lineE_len
    clear rl HLI HIC
    have s3 : w2.heap.size + 1 ≤ w3.heap.size := by have := hc.size; simp at this; omega
    have bq : Below w2.heap.size w2 w3 := (bp _).trans (hc.mono (bp _).size)
    replace cX0 := cell_later bq cX0
    replace zX := Nat.lt_of_lt_of_le zX bq.size
    have cR0 : w3.cell? ⟨w2.heap.size, 0, none⟩ = some (.int .i64 4) := cell_later hc (by simp [go_sem])
    have cR1 : w3.cell? ⟨w2.heap.size, 1, none⟩ = some (.int .i64 V) := cell_later hc (by simp [go_sem])
    have zR : w2.heap.size < w3.heap.size := by omega
    replace rp := rp.below bq
    replace ry := ry.below bq
    replace hb := hb.trans (bq.mono hb.size)
    clear hc bq bp hbt
    go_wp2_with fail
    have bp : ∀ o0, Below w3.heap.size w3 (w3.alloc o0) := fun o0 => (Below.refl _ _).alloc (Nat.le_refl _) o0
    have hbt : ∀ o0, Below w.heap.size w (w3.alloc o0) := fun o0 => hb.trans ((bp o0).mono hb.size)
    obtain ⟨w4, hw4⟩ : ∃ x, (w3.alloc (.cells #[.int .i64 0, .slice al (lns ys).length kl] 101)) = x := ⟨_, rfl⟩
    have hc : Below ((w3.alloc (.cells #[.int .i64 0, .slice al (lns ys).length kl] 101))).heap.size ((w3.alloc (.cells #[.int .i64 0, .slice al (lns ys).length kl] 101))) w4 := hw4 ▸ Below.refl _ _
    have s4 : w3.heap.size + 1 ≤ w4.heap.size := by have := hc.size; simp at this; omega
    have bq : Below w3.heap.size w3 w4 := (bp _).trans (hc.mono (bp _).size)
    replace cX0 := cell_later bq cX0
    replace zX := Nat.lt_of_lt_of_le zX bq.size
    replace cR0 := cell_later bq cR0
    replace cR1 := cell_later bq cR1
    replace zR := Nat.lt_of_lt_of_le zR bq.size
    have cM0 : w4.cell? ⟨w3.heap.size, 0, none⟩ = some (.int .i64 0) := cell_later hc (by simp [go_sem])
    have cM1 : w4.cell? ⟨w3.heap.size, 1, none⟩ = some (.slice al (lns ys).length kl) := cell_later hc (by simp [go_sem])
    have zM : w3.heap.size < w4.heap.size := by omega
    replace rp := rp.below bq
    replace ry := ry.below bq
    replace hb := hb.trans (bq.mono hb.size)
    clear hc bq bp hbt
    rw [hw4]
    clear hw4
    have HV := hid (And.intro hb (And.intro cX0 (And.intro cR0 (And.intro cR1 (And.intro cM0 (And.intro cM1 (And.intro zX (And.intro zR (And.intro zM (And.intro rp (And.intro ry (trivial))))))))))))
    clear hb cX0 cR0 cR1 cM0 cM1 zX zR zM rp ry
    go_loopw [10, 11] (fun h i wr => ∃ k : Nat, k ≤ (lns ys).length ∧ i = .int .i64 k ∧ h = .int .i64 ((hitsN ps ys k).length : Int) ∧ Below w4.heap.size w4 wr) (fun _ i _ => (lns ys).length - (intOf i).toNat)
    case atStart => exact ⟨0, Nat.zero_le _, rfl, rfl, Below.refl _ _⟩
    case round =>
      obtain ⟨k, hk, rfl, rfl, hbq⟩ := hrel
      have hhk := HLE.out k
      by_cases hlt : k < (lns ys).length
      · have hlt' : (k : Int) < ((lns ys).length : Int) := by omega
        have cM1 := cell_later hbq (HV.out.2.2.2.2.2.1)
        have cX0 := cell_later hbq (HV.out.2.1)
        have rp := (HV.out.2.2.2.2.2.2.2.2.2.1).below hbq
        have ry := (HV.out.2.2.2.2.2.2.2.2.2.2.1).below hbq
        have HSk := hid (HST.out k hlt)
        obtain ⟨HK, hHK⟩ : ∃ x : Int, ((hitsN ps ys k).length : Int) = x := ⟨_, rfl⟩
        rw [hHK]
        have hK0 : 0 ≤ HK ∧ HK ≤ 1000 := by omega
        obtain ⟨hK1, hK2⟩ := hK0
        rw [hHK] at HSk
        clear hHK
        go_wp2_with fail
        refine Calls.mono (HB1.out k _ ry.read) ?_
        rintro e wa ⟨vb, rfl, rb, hba⟩
        obtain ⟨ab, kb, rfl, -, -⟩ := rb.shape
        have rpa := rp.below hba
        have hlk := lbRes_len ys (k : Int)
        go_wp2_with fail
        refine Calls.mono (HH1.out k ab _ kb _ (rpa.read inE_len) rb.read (by omega)) ?_
        rintro e wb ⟨rfl, hbb⟩
        have hbD := hbq.trans ((hba.trans (hbb.mono hba.size)).mono hbq.size)
        clear hbq hba hbb rb rpa rp ry cM1 cX0
        generalize lineHas ps (lbRes ys (k : Int)) = qb at *
        cases qb
        · skip
          simp only [Bool.false_eq_true, if_false, Int.add_zero] at HSk
          go_wp2
          go_roundw
          case rel => exact ⟨k + 1, by omega, by go_num, by rw [HSk.out], hbD⟩
          case measure => simp [intOf]; omega
        · skip
          simp only [if_true] at HSk
          go_wp2
          go_roundw
          case rel => exact ⟨k + 1, by omega, by go_num, by rw [HSk.out], hbD⟩
          case measure => simp [intOf]; omega
      · have hlt' : ¬ (k : Int) < ((lns ys).length : Int) := by omega
        obtain rfl : k = (lns ys).length := by omega
        have hb := (HV.out.1).trans (hbq.mono (HV.out.1).size)
        have cX0 := cell_later hbq (HV.out.2.1)
        have cR0 := cell_later hbq (HV.out.2.2.1)
        have cR1 := cell_later hbq (HV.out.2.2.2.1)
        have cM0 := cell_later hbq (HV.out.2.2.2.2.1)
        have cM1 := cell_later hbq (HV.out.2.2.2.2.2.1)
        have zX := Nat.lt_of_lt_of_le (HV.out.2.2.2.2.2.2.1) hbq.size
        have zR := Nat.lt_of_lt_of_le (HV.out.2.2.2.2.2.2.2.1) hbq.size
        have zM := Nat.lt_of_lt_of_le (HV.out.2.2.2.2.2.2.2.2.1) hbq.size
        have rp := (HV.out.2.2.2.2.2.2.2.2.2.1).below hbq
        have ry := (HV.out.2.2.2.2.2.2.2.2.2.2.1).below hbq
        clear HV hbq hlt HST HB1 HH1 hhk HLE
        have hHH : (hitsN ps ys (lns ys).length) = hits ps ys := rfl
        rw [hHH]
        clear hHH
        rw [hE]
        rw [List.length_nil]
        go_wp2_with fail
        have bd : Below wr.heap.size wr wr.drew := (Below.refl _ _).drew
        refine wp_region_held_drew (S := fun w' => Below w.heap.size w w' ∧ w'.cell? ⟨w2.heap.size, 0, none⟩ = some (.int .i64 4) ∧ w'.cell? ⟨w1.heap.size, 0, none⟩ = some (.slice ay ys.length ky)) (by kernel_rfl) ⟨(hb.trans (bd.mono hb.size)), cell_later bd cR0, cell_later bd cX0⟩ (fun hS => ?_)
        obtain ⟨D80, hD⟩ : ∃ D, wr.drew = D := ⟨_, rfl⟩
        rw [hD] at hS bd ⊢
        have hc := bd
        clear hD bd
        have s81 : wr.heap.size ≤ D80.heap.size := hc.size
        have bq := hc
        replace cX0 := cell_later bq cX0
        replace zX := Nat.lt_of_lt_of_le zX bq.size
        replace cR0 := cell_later bq cR0
        replace cR1 := cell_later bq cR1
        replace zR := Nat.lt_of_lt_of_le zR bq.size
        replace cM0 := cell_later bq cM0
        replace cM1 := cell_later bq cM1
        replace zM := Nat.lt_of_lt_of_le zM bq.size
        replace rp := rp.below bq
        replace ry := ry.below bq
        replace hb := hb.trans (bq.mono hb.size)
        clear hc bq
        refine wpAnyH_take (i := 0) (v := (.int .i64 0)) rfl (by as_aux_lemma => kernel_rfl) (by as_aux_lemma => kernel_rfl) (by as_aux_lemma => kernel_rfl) (fun _ _ _ h => h) (Or.inl ⟨by kernel_rfl, ?_⟩) hS ?_
        · intro w hSw; (try dsimp only at hSw); go_simp; all_goals (try omega)
        (try simp only [Act.put, List.getElem_toArray, List.getElem_cons_zero, List.getElem_cons_succ, List.setIfInBounds_toArray, List.set_cons_zero, List.set_cons_succ])
        refine wpAnyH_take (i := 1) (v := (.bool true)) rfl (by as_aux_lemma => kernel_rfl) (by as_aux_lemma => kernel_rfl) (by as_aux_lemma => kernel_rfl) (fun _ _ _ h => h) (Or.inl ⟨by kernel_rfl, ?_⟩) hS ?_
        · intro w hSw; (try dsimp only at hSw); go_simp; all_goals (try omega)
        (try simp only [Act.put, List.getElem_toArray, List.getElem_cons_zero, List.getElem_cons_succ, List.setIfInBounds_toArray, List.set_cons_zero, List.set_cons_succ])
        refine wpAnyH_take (i := 2) (v := (.bool true)) rfl (by as_aux_lemma => kernel_rfl) (by as_aux_lemma => kernel_rfl) (by as_aux_lemma => kernel_rfl) (fun _ _ _ h => h) (Or.inl ⟨by kernel_rfl, ?_⟩) hS ?_
        · intro w hSw; (try dsimp only at hSw); go_simp; all_goals (try omega)
        (try simp only [Act.put, List.getElem_toArray, List.getElem_cons_zero, List.getElem_cons_succ, List.setIfInBounds_toArray, List.set_cons_zero, List.set_cons_succ])
        refine wpAnyH_take (i := 3) (v := (.slice ap ps.length kp)) rfl (by as_aux_lemma => kernel_rfl) (by as_aux_lemma => kernel_rfl) (by as_aux_lemma => kernel_rfl) (fun _ _ _ h => h) (Or.inl ⟨by kernel_rfl, ?_⟩) hS ?_
        · intro w hSw; (try dsimp only at hSw); go_simp; all_goals (try omega)
        (try simp only [Act.put, List.getElem_toArray, List.getElem_cons_zero, List.getElem_cons_succ, List.setIfInBounds_toArray, List.set_cons_zero, List.set_cons_succ])
        refine wpAnyH_take (i := 4) (v := (.agg #[.slice ay ys.length ky])) rfl (by as_aux_lemma => kernel_rfl) (by as_aux_lemma => kernel_rfl) (by as_aux_lemma => kernel_rfl) (fun _ _ _ h => h) (Or.inl ⟨by kernel_rfl, ?_⟩) hS ?_
        · intro w hSw; (try dsimp only at hSw); obtain ⟨hSb, hl0, hl1⟩ := hSw; go_simp; all_goals (try omega)
        (try simp only [Act.put, List.getElem_toArray, List.getElem_cons_zero, List.getElem_cons_succ, List.setIfInBounds_toArray, List.set_cons_zero, List.set_cons_succ])
        refine wpAnyH_take (i := 5) (v := (.int .i64 F)) rfl (by as_aux_lemma => kernel_rfl) (by as_aux_lemma => kernel_rfl) (by as_aux_lemma => kernel_rfl) (fun _ _ _ h => h) (Or.inl ⟨by kernel_rfl, ?_⟩) hS ?_
        · intro w hSw; (try dsimp only at hSw); go_simp; all_goals (try omega)
        (try simp only [Act.put, List.getElem_toArray, List.getElem_cons_zero, List.getElem_cons_succ, List.setIfInBounds_toArray, List.set_cons_zero, List.set_cons_succ])
        refine wpAnyH_take (i := 6) (v := (.int .i64 N)) rfl (by as_aux_lemma => kernel_rfl) (by as_aux_lemma => kernel_rfl) (by as_aux_lemma => kernel_rfl) (fun _ _ _ h => h) (Or.inl ⟨by kernel_rfl, ?_⟩) hS ?_
        · intro w hSw; (try dsimp only at hSw); go_simp; all_goals (try omega)
        (try simp only [Act.put, List.getElem_toArray, List.getElem_cons_zero, List.getElem_cons_succ, List.setIfInBounds_toArray, List.set_cons_zero, List.set_cons_succ])
        refine wpAnyH_take (i := 7) (v := (.bool B)) rfl (by as_aux_lemma => kernel_rfl) (by as_aux_lemma => kernel_rfl) (by as_aux_lemma => kernel_rfl) (fun _ _ _ h => h) (Or.inl ⟨by kernel_rfl, ?_⟩) hS ?_
        · intro w hSw; (try dsimp only at hSw); go_simp; all_goals (try omega)
        (try simp only [Act.put, List.getElem_toArray, List.getElem_cons_zero, List.getElem_cons_succ, List.setIfInBounds_toArray, List.set_cons_zero, List.set_cons_succ])
        refine wpAnyH_take (i := 10) (v := (.pointer (some ⟨w2.heap.size, 0, none⟩))) rfl (by as_aux_lemma => kernel_rfl) (by as_aux_lemma => kernel_rfl) (by as_aux_lemma => kernel_rfl) (fun _ _ _ h => h) (Or.inl ⟨by kernel_rfl, ?_⟩) hS ?_
        · intro w hSw; (try dsimp only at hSw); go_simp; all_goals (try omega)
        (try simp only [Act.put, List.getElem_toArray, List.getElem_cons_zero, List.getElem_cons_succ, List.setIfInBounds_toArray, List.set_cons_zero, List.set_cons_succ])
        refine wpAnyH_take (i := 11) (v := (.int .i64 4)) rfl (by as_aux_lemma => kernel_rfl) (by as_aux_lemma => kernel_rfl) (by as_aux_lemma => kernel_rfl) (fun _ _ _ h => h) (Or.inl ⟨by kernel_rfl, ?_⟩) hS ?_
        · intro w hSw; (try dsimp only at hSw); obtain ⟨hSb, hl0, hl1⟩ := hSw; go_simp; all_goals (try omega)
        (try simp only [Act.put, List.getElem_toArray, List.getElem_cons_zero, List.getElem_cons_succ, List.setIfInBounds_toArray, List.set_cons_zero, List.set_cons_succ])
        refine wpAnyH_ready (rs := [8]) (by as_aux_lemma => kernel_rfl) (by simp) ?_
        refine AllReadyH.cons rfl (fun K hK => ?_) AllReadyH.nil
        go_simp
        refine Calls.mono (HSC.out _ (rp.read inE_len) ry.read) ?_
        rintro e w82 ⟨rfl, hc⟩
        have s82 : D80.heap.size ≤ w82.heap.size := hc.size
        have bq := hc
        replace cX0 := cell_later bq cX0
        replace zX := Nat.lt_of_lt_of_le zX bq.size
        replace cR0 := cell_later bq cR0
        replace cR1 := cell_later bq cR1
        replace zR := Nat.lt_of_lt_of_le zR bq.size
        replace cM0 := cell_later bq cM0
        replace cM1 := cell_later bq cM1
        replace zM := Nat.lt_of_lt_of_le zM bq.size
        replace rp := rp.below bq
        replace ry := ry.below bq
        replace hb := hb.trans (bq.mono hb.size)
        clear hc bq
        refine hK.out _ _ (⟨hb, cR0, cX0⟩) (fun hS => ?_)
        clear hK K
        (try simp only [Act.put, List.getElem_toArray, List.getElem_cons_zero, List.getElem_cons_succ, List.setIfInBounds_toArray, List.set_cons_zero, List.set_cons_succ])
        refine wpAnyH_take (i := 9) (v := (.int .i64 4)) rfl (by as_aux_lemma => kernel_rfl) (by as_aux_lemma => kernel_rfl) (by as_aux_lemma => kernel_rfl) (fun _ _ _ h => h) (Or.inl ⟨by kernel_rfl, ?_⟩) hS ?_
        · intro w hSw; (try dsimp only at hSw); go_simp; all_goals (try omega)
        (try simp only [Act.put, List.getElem_toArray, List.getElem_cons_zero, List.getElem_cons_succ, List.setIfInBounds_toArray, List.set_cons_zero, List.set_cons_succ])
        refine wpAnyH_take (i := 12) (v := (.bool true)) rfl (by as_aux_lemma => kernel_rfl) (by as_aux_lemma => kernel_rfl) (by as_aux_lemma => kernel_rfl) (fun _ _ _ h => h) (Or.inl ⟨by kernel_rfl, ?_⟩) hS ?_
        · intro w hSw; (try dsimp only at hSw); go_simp; all_goals (try omega)
        (try simp only [Act.put, List.getElem_toArray, List.getElem_cons_zero, List.getElem_cons_succ, List.setIfInBounds_toArray, List.set_cons_zero, List.set_cons_succ])
        refine wpAnyH_take (i := 13) (v := (.bool true)) rfl (by as_aux_lemma => kernel_rfl) (by as_aux_lemma => kernel_rfl) (by as_aux_lemma => kernel_rfl) (fun _ _ _ h => h) (Or.inl ⟨by kernel_rfl, ?_⟩) hS ?_
        · intro w hSw; (try dsimp only at hSw); go_simp; all_goals (try omega)
        (try simp only [Act.put, List.getElem_toArray, List.getElem_cons_zero, List.getElem_cons_succ, List.setIfInBounds_toArray, List.set_cons_zero, List.set_cons_succ])
        refine wpAnyH_take (i := 14) (v := (.bool true)) rfl (by as_aux_lemma => kernel_rfl) (by as_aux_lemma => kernel_rfl) (by as_aux_lemma => kernel_rfl) (fun _ _ _ h => h) (Or.inl ⟨by kernel_rfl, ?_⟩) hS ?_
        · intro w hSw; (try dsimp only at hSw); go_simp; all_goals (try omega)
        (try simp only [Act.put, List.getElem_toArray, List.getElem_cons_zero, List.getElem_cons_succ, List.setIfInBounds_toArray, List.set_cons_zero, List.set_cons_succ])
        refine wpAnyH_done (by kernel_rfl) ?_ _
        clear hS
        go_wp2
        go_ret
        exact ⟨rfl, hb⟩
  · skip
    generalize fdC ps ys F N = c at *
    generalize fdV ps ys F N B = V at *
    have HIC := hid IC
    have HSC := hid SC
    have c0 : ¬ c = 0 := hC
    have c4 : ¬ c = 4 := hD
    have c0b : (c != 0) = true := bne_iff_ne.2 hC
    have c4b : (c != 4) = true := bne_iff_ne.2 hD
    clear IC SC hC hD hsum hkp1 hkp2 hky1 hky2 ha
    go_wp2_with fail
    have bp : ∀ o0, Below w1.heap.size w1 (w1.alloc o0) := fun o0 => (Below.refl _ _).alloc (Nat.le_refl _) o0
    have hbt : ∀ o0, Below w.heap.size w (w1.alloc o0) := fun o0 => hb.trans ((bp o0).mono hb.size)
    refine Calls.mono (HIC.out _ ((rp.below (bp _)).read inE_len) (ry.below (bp _)).read) ?_
    rintro e w2 ⟨rfl, hc⟩
    have s2 : w1.heap.size + 1 ≤ w2.heap.size := by have := hc.size; simp at this; omega
    have bq : Below w1.heap.size w1 w2 := (bp _).trans (hc.mono (bp _).size)
    have cX0 : w2.cell? ⟨w1.heap.size, 0, none⟩ = some (.slice ay ys.length ky) := cell_later hc (by simp [go_sem])
    have zX : w1.heap.size < w2.heap.size := by omega
    replace rp := rp.below bq
    replace ry := ry.below bq
    replace hb := hb.trans (bq.mono hb.size)
    clear hc bq bp hbt
    go_wp2_with fail
    have bp : ∀ o0, Below w2.heap.size w2 (w2.alloc o0) := fun o0 => (Below.refl _ _).alloc (Nat.le_refl _) o0
    have hbt : ∀ o0, Below w.heap.size w (w2.alloc o0) := fun o0 => hb.trans ((bp o0).mono hb.size)
    obtain ⟨w3, hw3⟩ : ∃ x, (w2.alloc (.cells #[.int .i64 c, .int .i64 V] 83)) = x := ⟨_, rfl⟩
    have hc : Below ((w2.alloc (.cells #[.int .i64 c, .int .i64 V] 83))).heap.size ((w2.alloc (.cells #[.int .i64 c, .int .i64 V] 83))) w3 := hw3 ▸ Below.refl _ _
    have s3 : w2.heap.size + 1 ≤ w3.heap.size := by have := hc.size; simp at this; omega
    have bq : Below w2.heap.size w2 w3 := (bp _).trans (hc.mono (bp _).size)
    replace cX0 := cell_later bq cX0
    replace zX := Nat.lt_of_lt_of_le zX bq.size
    have cR0 : w3.cell? ⟨w2.heap.size, 0, none⟩ = some (.int .i64 c) := cell_later hc (by simp [go_sem])
    have cR1 : w3.cell? ⟨w2.heap.size, 1, none⟩ = some (.int .i64 V) := cell_later hc (by simp [go_sem])
    have zR : w2.heap.size < w3.heap.size := by omega
    replace rp := rp.below bq
    replace ry := ry.below bq
    replace hb := hb.trans (bq.mono hb.size)
    clear hc bq bp hbt
    rw [hw3]
    clear hw3
    have bd : Below w3.heap.size w3 w3.drew := (Below.refl _ _).drew
    refine wp_region_held_drew (S := fun w' => Below w.heap.size w w' ∧ w'.cell? ⟨w2.heap.size, 0, none⟩ = some (.int .i64 c) ∧ w'.cell? ⟨w1.heap.size, 0, none⟩ = some (.slice ay ys.length ky)) (by kernel_rfl) ⟨(hb.trans (bd.mono hb.size)), cell_later bd cR0, cell_later bd cX0⟩ (fun hS => ?_)
    obtain ⟨D3, hD⟩ : ∃ D, w3.drew = D := ⟨_, rfl⟩
    rw [hD] at hS bd ⊢
    have hc := bd
    clear hD bd
    have s4 : w3.heap.size ≤ D3.heap.size := hc.size
    have bq := hc
    replace cX0 := cell_later bq cX0
    replace zX := Nat.lt_of_lt_of_le zX bq.size
    replace cR0 := cell_later bq cR0
    replace cR1 := cell_later bq cR1
    replace zR := Nat.lt_of_lt_of_le zR bq.size
    replace rp := rp.below bq
    replace ry := ry.below bq
    replace hb := hb.trans (bq.mono hb.size)
    clear hc bq
    refine wpAnyH_take (i := 0) (v := (.slice ap ps.length kp)) rfl (by as_aux_lemma => kernel_rfl) (by as_aux_lemma => kernel_rfl) (by as_aux_lemma => kernel_rfl) (fun _ _ _ h => h) (Or.inl ⟨by kernel_rfl, ?_⟩) hS ?_
    · intro w hSw; (try dsimp only at hSw); go_simp; all_goals (try omega)
    (try simp only [Act.put, List.getElem_toArray, List.getElem_cons_zero, List.getElem_cons_succ, List.setIfInBounds_toArray, List.set_cons_zero, List.set_cons_succ])
    refine wpAnyH_take (i := 1) (v := (.agg #[.slice ay ys.length ky])) rfl (by as_aux_lemma => kernel_rfl) (by as_aux_lemma => kernel_rfl) (by as_aux_lemma => kernel_rfl) (fun _ _ _ h => h) (Or.inl ⟨by kernel_rfl, ?_⟩) hS ?_
    · intro w hSw; (try dsimp only at hSw); obtain ⟨hSb, hl0, hl1⟩ := hSw; go_simp; all_goals (try omega)
    (try simp only [Act.put, List.getElem_toArray, List.getElem_cons_zero, List.getElem_cons_succ, List.setIfInBounds_toArray, List.set_cons_zero, List.set_cons_succ])
    refine wpAnyH_take (i := 2) (v := (.int .i64 F)) rfl (by as_aux_lemma => kernel_rfl) (by as_aux_lemma => kernel_rfl) (by as_aux_lemma => kernel_rfl) (fun _ _ _ h => h) (Or.inl ⟨by kernel_rfl, ?_⟩) hS ?_
    · intro w hSw; (try dsimp only at hSw); go_simp; all_goals (try omega)
    (try simp only [Act.put, List.getElem_toArray, List.getElem_cons_zero, List.getElem_cons_succ, List.setIfInBounds_toArray, List.set_cons_zero, List.set_cons_succ])
    refine wpAnyH_take (i := 3) (v := (.int .i64 N)) rfl (by as_aux_lemma => kernel_rfl) (by as_aux_lemma => kernel_rfl) (by as_aux_lemma => kernel_rfl) (fun _ _ _ h => h) (Or.inl ⟨by kernel_rfl, ?_⟩) hS ?_
    · intro w hSw; (try dsimp only at hSw); go_simp; all_goals (try omega)
    (try simp only [Act.put, List.getElem_toArray, List.getElem_cons_zero, List.getElem_cons_succ, List.setIfInBounds_toArray, List.set_cons_zero, List.set_cons_succ])
    refine wpAnyH_take (i := 4) (v := (.bool B)) rfl (by as_aux_lemma => kernel_rfl) (by as_aux_lemma => kernel_rfl) (by as_aux_lemma => kernel_rfl) (fun _ _ _ h => h) (Or.inl ⟨by kernel_rfl, ?_⟩) hS ?_
    · intro w hSw; (try dsimp only at hSw); go_simp; all_goals (try omega)
    (try simp only [Act.put, List.getElem_toArray, List.getElem_cons_zero, List.getElem_cons_succ, List.setIfInBounds_toArray, List.set_cons_zero, List.set_cons_succ])
    refine wpAnyH_take (i := 7) (v := (.pointer (some ⟨w2.heap.size, 0, none⟩))) rfl (by as_aux_lemma => kernel_rfl) (by as_aux_lemma => kernel_rfl) (by as_aux_lemma => kernel_rfl) (fun _ _ _ h => h) (Or.inl ⟨by kernel_rfl, ?_⟩) hS ?_
    · intro w hSw; (try dsimp only at hSw); go_simp; all_goals (try omega)
    (try simp only [Act.put, List.getElem_toArray, List.getElem_cons_zero, List.getElem_cons_succ, List.setIfInBounds_toArray, List.set_cons_zero, List.set_cons_succ])
    refine wpAnyH_take (i := 8) (v := (.int .i64 c)) rfl (by as_aux_lemma => kernel_rfl) (by as_aux_lemma => kernel_rfl) (by as_aux_lemma => kernel_rfl) (fun _ _ _ h => h) (Or.inl ⟨by kernel_rfl, ?_⟩) hS ?_
    · intro w hSw; (try dsimp only at hSw); obtain ⟨hSb, hl0, hl1⟩ := hSw; go_simp; all_goals (try omega)
    (try simp only [Act.put, List.getElem_toArray, List.getElem_cons_zero, List.getElem_cons_succ, List.setIfInBounds_toArray, List.set_cons_zero, List.set_cons_succ])
    refine wpAnyH_ready (rs := [5]) (by as_aux_lemma => kernel_rfl) (by simp) ?_
    refine AllReadyH.cons rfl (fun K hK => ?_) AllReadyH.nil
    go_simp
    refine Calls.mono (HSC.out _ (rp.read inE_len) ry.read) ?_
    rintro e w5 ⟨rfl, hc⟩
    have s5 : D3.heap.size ≤ w5.heap.size := hc.size
    have bq := hc
    replace cX0 := cell_later bq cX0
    replace zX := Nat.lt_of_lt_of_le zX bq.size
    replace cR0 := cell_later bq cR0
    replace cR1 := cell_later bq cR1
    replace zR := Nat.lt_of_lt_of_le zR bq.size
    replace rp := rp.below bq
    replace ry := ry.below bq
    replace hb := hb.trans (bq.mono hb.size)
    clear hc bq
    refine hK.out _ _ (⟨hb, cR0, cX0⟩) (fun hS => ?_)
    clear hK K
    (try simp only [Act.put, List.getElem_toArray, List.getElem_cons_zero, List.getElem_cons_succ, List.setIfInBounds_toArray, List.set_cons_zero, List.set_cons_succ])
    refine wpAnyH_take (i := 6) (v := (.int .i64 c)) rfl (by as_aux_lemma => kernel_rfl) (by as_aux_lemma => kernel_rfl) (by as_aux_lemma => kernel_rfl) (fun _ _ _ h => h) (Or.inl ⟨by kernel_rfl, ?_⟩) hS ?_
    · intro w hSw; (try dsimp only at hSw); go_simp; all_goals (try omega)
    (try simp only [Act.put, List.getElem_toArray, List.getElem_cons_zero, List.getElem_cons_succ, List.setIfInBounds_toArray, List.set_cons_zero, List.set_cons_succ])
    refine wpAnyH_take (i := 9) (v := (.bool true)) rfl (by as_aux_lemma => kernel_rfl) (by as_aux_lemma => kernel_rfl) (by as_aux_lemma => kernel_rfl) (fun _ _ _ h => h) (Or.inl ⟨by kernel_rfl, ?_⟩) hS ?_
    · intro w hSw; (try dsimp only at hSw); go_simp; all_goals (try omega)
    (try simp only [Act.put, List.getElem_toArray, List.getElem_cons_zero, List.getElem_cons_succ, List.setIfInBounds_toArray, List.set_cons_zero, List.set_cons_succ])
    refine wpAnyH_take (i := 10) (v := (.bool true)) rfl (by as_aux_lemma => kernel_rfl) (by as_aux_lemma => kernel_rfl) (by as_aux_lemma => kernel_rfl) (fun _ _ _ h => h) (Or.inl ⟨by kernel_rfl, ?_⟩) hS ?_
    · intro w hSw; (try dsimp only at hSw); go_simp; all_goals (try omega)
    (try simp only [Act.put, List.getElem_toArray, List.getElem_cons_zero, List.getElem_cons_succ, List.setIfInBounds_toArray, List.set_cons_zero, List.set_cons_succ])
    refine wpAnyH_done (by kernel_rfl) ?_ _
    clear hS
    go_wp2
    go_ret
    exact ⟨rfl, hb⟩
end Go.Proofs.Ytocophekfbhfbaa

namespace Go.Proofs.Ytocophekfbhfbaa.fnFinds
open Go.ChangeShapes Go.WideShapes Go.ChangeAt Go.RowKit
set_option linter.unusedVariables false

theorem own : ownKnob Try.prog.godebug = none := by kernel_rfl
theorem laidOut : laidOutB Try.prog = true := by kernel_rfl

set_option maxRecDepth 100000 in
theorem lifted (os : Os) (started : os.Started) (H : Type) (enc : TypeId × Value → H) :
    ReturnsInHanded {} Try.checked os 8 .any (Rows.fnFindsSpec.pre6 enc Try.prog Try.f8 Rows.fnFindsRow.domain false) (Rows.fnFindsSpec.post enc Try.prog Try.f8 false true false false) := by
  refine returnsInHanded_of_change (C := Try.checked) own started (by kernel_rfl) Try.func8
    (ChangeSpec.witness6 (enc := enc) (C := Try.checked) false ⟨#[], #[.slice none 0 0], []⟩ 8 (by kernel_rfl) (by kernel_rfl) (by kernel_rfl) (by kernel_rfl)) ?_
  intro W base args ds gs before hval0 hW hcnd _
  have hval : ∀ (j : Nat) t v, Try.f8.params[j]? = some t → args[j]? = some v → Value.okWide Try.prog W .any base t v := hval0
  have hW' := hW
  obtain ⟨p, q, hA0, hV, rfl, hfz, hnd⟩ := hW
  have hA : DataW.TrodAll enc Try.prog W 0 (fun _ => true) true Try.f8.params.toList args.toList ds p := hA0
  rw [Try.params8] at hA hval
  obtain ⟨v0, d0, rfl, rfl, h0⟩ := trodAll_one hA
  obtain ⟨rfl, rfl⟩ := trodVars_none hV
  obtain ⟨a0, len0, cap0, rfl⟩ := okWide_slice Try.underlying22 (hval 0 22 v0 rfl rfl)
  have k0 := h0
  have lt0 : ∀ x ∈ p, x.block < W.heap.size := by obtain ⟨m, hm⟩ := k0; exact DataW.trod_lt m _ _ _ hm
  obtain ⟨x0, hr0, hB0, hm0⟩ := open_bytes Try.underlying22 Try.underlying5 (by kernel_rfl) h0
  clear hA0 hval0
  refine (findsWalk a0 len0 cap0 x0 W hr0 hB0 hm0).mono fun e W' ⟨he, bel⟩ => ?_
  subst he
  exact ⟨_, rfl, _, _, _, [], _, [], hW', trodAll_mk1 (shut_bool Try.underlying4 _), trodAll_mk1 (Below.trod laidOut (by kernel_rfl) (of_decide_eq_true (by kernel_rfl)) k0 bel lt0), rfl, bel.frame _, fun h => by cases h⟩

theorem proved : Rows.FnFindsSaid :=
  OpenClaim.holds_of_wide 8 Try.f8 rfl rfl rfl rfl rfl rfl rfl ⟨rfl, rfl, rfl, rfl, rfl⟩ rfl rfl rfl rfl rfl (by kernel_rfl) Try.func8 (by kernel_rfl)
    (of_decide_eq_true (by kernel_rfl)) (by unfold Func.isWrapper; first | (rw [if_pos (by decide +kernel)]; kernel_rfl) | (rw [if_neg (by decide +kernel)]; exact ⟨rfl, rfl⟩))
    (fun os started H enc _ => lifted os started H enc)
end Go.Proofs.Ytocophekfbhfbaa.fnFinds
namespace Go.Proofs.Ytocophekfbhfbaa
theorem fnFinds_proved : Rows.FnFindsSaid := fnFinds.proved
end Go.Proofs.Ytocophekfbhfbaa
