/-
  Rows of lines: plain mathematics. It speaks of no program.
-/
import Derived.Test.YtjgmkcmlkffjlaaDoorLinesM
namespace Go.Proofs.YtjgmkcmlkffjlaaDoor
open Go.RowKit
set_option linter.unusedVariables false

/-- a layout's fault -/
def lyF (W : Int) (C : Bool) (S : Int) : Int := if W < 1 ∨ 40 < W ∨ S < 0 ∨ 400 < S then 3 else if S ≠ 0 ∧ C = false then 1 else 0
/-- how many rows so many cells have -/
def rwN (C : Bool) (W : Int) (n : Nat) : Nat := if C = true ∨ n = 0 then 1 else ((n : Int) + W - 1).toNat / W.toNat

theorem rwN_pos {C : Bool} {W : Int} {n : Nat} (hW : 1 ≤ W) : 1 ≤ rwN C W n := by
  unfold rwN
  split
  · omega
  · rename_i h
    simp only [not_or] at h
    rw [Nat.one_le_div_iff (by omega)]; omega
theorem rwN_le {C : Bool} {W : Int} {n : Nat} (hW : 1 ≤ W) : rwN C W n ≤ n + 1 := by
  unfold rwN
  split
  · omega
  · obtain ⟨k, rfl⟩ : ∃ k : Nat, W = (k : Int) + 1 := ⟨(W - 1).toNat, by omega⟩
    rename_i h
    simp only [not_or] at h
    have : ((n : Int) + ((k : Int) + 1) - 1).toNat = n + k := by omega
    rw [this, show ((k : Int) + 1).toNat = k + 1 by omega]
    have h2 : (n + k) / (k + 1) < n + 1 := by
      rw [Nat.div_lt_iff_lt_mul (by omega), Nat.add_mul, Nat.mul_add]; omega
    omega

/-- the numbers of rows of lines, each with its number: all spots from line k on -/
def spots (k : Nat) : List Nat → List (Int × Int)
  | [] => []
  | c :: cs => (List.range c).map (fun (r : Nat) => ((k : Int), (r : Int))) ++ spots (k + 1) cs

theorem spots_snoc (cs : List Nat) (c k : Nat) : spots k (cs ++ [c]) = spots k cs ++ (List.range c).map (fun (r : Nat) => (((k + cs.length : Nat) : Int), (r : Int))) := by
  induction cs generalizing k with
  | nil => simp [spots]
  | cons d cs ih => simp only [List.cons_append, spots, ih, List.append_assoc, List.length_cons]; rw [show k + 1 + cs.length = k + (cs.length + 1) by omega]

theorem spots_mem {cs : List Nat} {k : Nat} {L R : Int} : (L, R) ∈ spots k cs ↔ ∃ i j : Nat, ∃ c, cs[i]? = some c ∧ j < c ∧ L = (k + i : Nat) ∧ R = j := by
  induction cs generalizing k with
  | nil => simp [spots]
  | cons d cs ih =>
    simp only [spots, List.mem_append, ih, List.mem_map, List.mem_range, Prod.mk.injEq]
    constructor
    · rintro (⟨r, hr, rfl, rfl⟩ | ⟨i, j, c, h1, h2, rfl, rfl⟩)
      · exact ⟨0, r, d, rfl, hr, rfl, rfl⟩
      · exact ⟨i + 1, j, c, h1, h2, by omega, rfl⟩
    · rintro ⟨i, j, c, h1, h2, rfl, rfl⟩
      cases i with
      | zero => simp at h1; subst h1; exact Or.inl ⟨j, h2, rfl, rfl⟩
      | succ i => exact Or.inr ⟨i, j, c, by simpa using h1, h2, by omega, rfl⟩

/-- how many rows there are ahead of a line -/
def baseN (cs : List Nat) (i : Nat) : Nat := (cs.take i).sum

theorem spots_len (cs : List Nat) (k : Nat) : (spots k cs).length = cs.sum := by
  induction cs generalizing k with
  | nil => rfl
  | cons d cs ih => simp [spots, ih]

theorem spots_at {cs : List Nat} {k i j c : Nat} (hi : cs[i]? = some c) (hj : j < c) : (spots k cs)[baseN cs i + j]? = some (((k + i : Nat) : Int), (j : Int)) := by
  induction cs generalizing k i with
  | nil => simp at hi
  | cons d cs ih =>
    cases i with
    | zero =>
      simp at hi; subst hi
      simp only [spots, baseN, List.take_zero, List.sum_nil, Nat.zero_add]
      rw [List.getElem?_append_left (by simp; omega)]
      simp [hj]
    | succ i =>
      simp at hi
      have := ih (k := k + 1) hi
      simp only [spots, baseN, List.take_succ_cons, List.sum_cons] at this ⊢
      rw [List.getElem?_append_right (by simp; omega)]
      simp only [List.length_map, List.length_range]
      rw [show d + (cs.take i).sum + j - d = (cs.take i).sum + j by omega, this]
      rw [show k + 1 + i = k + (i + 1) by omega]

/-- the lines' rows; of a file without lines there is one -/
def cs1 (cs : List Nat) : List Nat := if cs = [] then [1] else cs
/-- all spots of a file -/
def spAll (cs : List Nat) : List (Int × Int) := spots 0 (cs1 cs)

/-- one row on, one row back -/
def spNext (cs : List Nat) (s : Int × Int) : Int × Int :=
  if s.2 + 1 < ((cs1 cs).getD s.1.toNat 0 : Nat) then (s.1, s.2 + 1) else if s.1 + 1 < cs.length then (s.1 + 1, 0) else s
def spPrev (cs : List Nat) (s : Int × Int) : Int × Int :=
  if 0 < s.2 then (s.1, s.2 - 1) else if 0 < s.1 then (s.1 - 1, ((cs.getD (s.1 - 1).toNat 0 : Nat) : Int) - 1) else s

theorem baseN_succ {cs : List Nat} {i c : Nat} (h : cs[i]? = some c) : baseN cs (i + 1) = baseN cs i + c := by
  unfold baseN
  rw [List.take_add_one, h]; simp
theorem baseN_len (cs : List Nat) : baseN cs cs.length = cs.sum := by unfold baseN; simp

/-- what one says of a spot by its place among all -/
def SpAt (cs : List Nat) (p : Nat) (s : Int × Int) : Prop := ∃ i j c : Nat, s = ((i : Int), (j : Int)) ∧ (cs1 cs)[i]? = some c ∧ j < c ∧ p = baseN (cs1 cs) i + j

theorem SpAt.get {cs : List Nat} {p : Nat} {s : Int × Int} (h : SpAt cs p s) : (spAll cs)[p]? = some s := by
  obtain ⟨i, j, c, rfl, h1, h2, rfl⟩ := h
  have := spots_at (k := 0) h1 h2
  simpa [spAll] using this

theorem spots_find {cs : List Nat} {k p : Nat} {s : Int × Int} (h : (spots k cs)[p]? = some s) : ∃ i j c : Nat, s = (((k + i : Nat) : Int), (j : Int)) ∧ cs[i]? = some c ∧ j < c ∧ p = baseN cs i + j := by
  induction cs generalizing k p with
  | nil => simp [spots] at h
  | cons d cs ih =>
    simp only [spots] at h
    by_cases hp : p < d
    · rw [List.getElem?_append_left (by simpa using hp)] at h
      simp [hp] at h
      exact ⟨0, p, d, by rw [← h]; simp, rfl, hp, by simp [baseN]⟩
    · rw [List.getElem?_append_right (by simp; omega)] at h
      simp only [List.length_map, List.length_range] at h
      obtain ⟨i, j, c, rfl, h1, h2, h3⟩ := ih h
      refine ⟨i + 1, j, c, by rw [show k + 1 + i = k + (i + 1) by omega], by simpa using h1, h2, ?_⟩
      simp only [baseN, List.take_succ_cons, List.sum_cons] at h3 ⊢
      omega

theorem SpAt.of {cs : List Nat} {p : Nat} {s : Int × Int} (h : (spAll cs)[p]? = some s) : SpAt cs p s := by
  obtain ⟨i, j, c, h0, h1, h2, h3⟩ := spots_find h
  exact ⟨i, j, c, by simpa using h0, h1, h2, h3⟩

theorem spAll_len (cs : List Nat) : (spAll cs).length = (cs1 cs).sum := spots_len _ _

theorem baseN_le {cs : List Nat} {i c : Nat} (h : cs[i]? = some c) : baseN cs i + c ≤ cs.sum := by
  have h1 := baseN_succ h
  have h2 : baseN cs (i + 1) ≤ cs.sum := by
    unfold baseN
    conv => rhs; rw [← List.take_append_drop (i + 1) cs]
    rw [List.sum_append]; omega
  omega

theorem cs1_pos {cs : List Nat} (h : ∀ c ∈ cs, 1 ≤ c) : ∀ c ∈ cs1 cs, 1 ≤ c := by
  unfold cs1
  split
  · simp
  · exact h
theorem cs1_len (cs : List Nat) : cs.length ≤ (cs1 cs).length := by unfold cs1; split <;> simp_all

/-- One row on is one place on, as far as there are places. -/
theorem spNext_at {cs : List Nat} {p : Nat} {s : Int × Int} (hpos : ∀ c ∈ cs, 1 ≤ c) (h : SpAt cs p s) : SpAt cs (min (p + 1) ((spAll cs).length - 1)) (spNext cs s) := by
  obtain ⟨i, j, c, rfl, h1, h2, rfl⟩ := h
  have hle := baseN_le h1
  rw [spAll_len]
  have hil : i < (cs1 cs).length := (List.getElem?_eq_some_iff.1 h1).1
  have hg : (cs1 cs).getD i 0 = c := by rw [List.getD_eq_getElem?_getD, h1]; rfl
  unfold spNext
  simp only [Int.toNat_natCast, hg]
  by_cases hr : j + 1 < c
  · rw [if_pos (by omega)]
    exact ⟨i, j + 1, c, by simp, h1, hr, by omega⟩
  · rw [if_neg (by omega)]
    have hjc : c = j + 1 := by omega
    have hb := baseN_succ h1
    by_cases hl : i + 1 < cs.length
    · rw [if_pos (by omega)]
      have hl1 : i + 1 < (cs1 cs).length := Nat.lt_of_lt_of_le hl (cs1_len cs)
      have h1' : (cs1 cs)[i + 1]? = some (cs1 cs)[i + 1] := List.getElem?_eq_getElem hl1
      have hp1 := cs1_pos hpos _ (List.getElem_mem hl1)
      have hle' := baseN_le h1'
      refine ⟨i + 1, 0, (cs1 cs)[i + 1], by simp, h1', by omega, by omega⟩
    · rw [if_neg (by omega)]
      have hlast : i + 1 = (cs1 cs).length := by
        by_cases he : cs = []
        · simp [cs1, he] at hil ⊢; omega
        · have : cs1 cs = cs := by simp [cs1, he]
          rw [this] at hil ⊢; omega
      have hs := baseN_len (cs1 cs)
      rw [← hlast, hb] at hs
      exact ⟨i, j, c, rfl, h1, h2, by omega⟩

/-- One row back is one place back. -/
theorem spPrev_at {cs : List Nat} {p : Nat} {s : Int × Int} (hpos : ∀ c ∈ cs, 1 ≤ c) (h : SpAt cs p s) : SpAt cs (p - 1) (spPrev cs s) := by
  obtain ⟨i, j, c, rfl, h1, h2, rfl⟩ := h
  unfold spPrev
  simp only
  by_cases hr : 0 < j
  · rw [if_pos (by omega)]
    refine ⟨i, j - 1, c, ?_, h1, by omega, by omega⟩
    rw [show ((j : Int) - 1) = ((j - 1 : Nat) : Int) by omega]
  · rw [if_neg (by omega)]
    obtain rfl : j = 0 := by omega
    cases i with
    | zero => rw [if_neg (by omega)]; exact ⟨0, 0, c, rfl, h1, h2, by simp [baseN]⟩
    | succ i =>
      rw [if_pos (by omega)]
      have hl1 : i < (cs1 cs).length := Nat.lt_of_succ_lt (List.getElem?_eq_some_iff.1 h1).1
      have h1' : (cs1 cs)[i]? = some (cs1 cs)[i] := List.getElem?_eq_getElem hl1
      have hp1 := cs1_pos hpos _ (List.getElem_mem hl1)
      have he : cs ≠ [] := by
        intro he; subst he; simp [cs1] at h1
      have hc1 : cs1 cs = cs := by simp [cs1, he]
      have hg : cs.getD (((i + 1 : Nat) : Int) - 1).toNat 0 = (cs1 cs)[i] := by
        have h1'' : cs[i]? = some (cs1 cs)[i] := by rw [← h1']; exact congrArg (fun l => l[i]?) hc1.symm
        rw [show (((i + 1 : Nat) : Int) - 1).toNat = i by omega, List.getD_eq_getElem?_getD, h1'']; rfl
      rw [hg]
      have hb := baseN_succ h1'
      refine ⟨i, (cs1 cs)[i] - 1, (cs1 cs)[i], ?_, h1', by omega, by omega⟩
      refine Prod.ext ?_ ?_ <;> simp <;> omega

/-- rows on, or back, one by one -/
def spGo (cs : List Nat) : Nat → Int × Int → Int × Int
  | 0, s => s
  | n + 1, s => spGo cs n (spNext cs s)
def spBack (cs : List Nat) : Nat → Int × Int → Int × Int
  | 0, s => s
  | n + 1, s => spBack cs n (spPrev cs s)
def spMove (cs : List Nat) (s : Int × Int) (rows : Int) : Int × Int := if 0 ≤ rows then spGo cs rows.toNat s else spBack cs (-rows).toNat s

theorem spGo_at {cs : List Nat} (hpos : ∀ c ∈ cs, 1 ≤ c) : ∀ (n p : Nat) (s : Int × Int), SpAt cs p s → SpAt cs (min (p + n) ((spAll cs).length - 1)) (spGo cs n s)
  | 0, p, s, h => by
    have hlt : p < (spAll cs).length := (List.getElem?_eq_some_iff.1 h.get).1
    rw [show min (p + 0) ((spAll cs).length - 1) = p by omega]; exact h
  | n + 1, p, s, h => by
    have := spGo_at hpos n _ _ (spNext_at hpos h)
    rw [show min (p + (n + 1)) ((spAll cs).length - 1) = min (min (p + 1) ((spAll cs).length - 1) + n) ((spAll cs).length - 1) by omega]
    exact this
theorem spBack_at {cs : List Nat} (hpos : ∀ c ∈ cs, 1 ≤ c) : ∀ (n p : Nat) (s : Int × Int), SpAt cs p s → SpAt cs (p - n) (spBack cs n s)
  | 0, p, s, h => h
  | n + 1, p, s, h => by
    have := spBack_at hpos n _ _ (spPrev_at hpos h)
    rw [show p - (n + 1) = p - 1 - n by omega]
    exact this
theorem spMove_at {cs : List Nat} (hpos : ∀ c ∈ cs, 1 ≤ c) {p : Nat} {s : Int × Int} (h : SpAt cs p s) (rows : Int) :
    SpAt cs (min (max ((p : Int) + rows) 0) (((spAll cs).length : Int) - 1)).toNat (spMove cs s rows) := by
  have hlt : p < (spAll cs).length := (List.getElem?_eq_some_iff.1 h.get).1
  unfold spMove
  by_cases hr : 0 ≤ rows
  · rw [if_pos hr]
    have := spGo_at hpos rows.toNat p s h
    rw [show (min (max ((p : Int) + rows) 0) (((spAll cs).length : Int) - 1)).toNat = min (p + rows.toNat) ((spAll cs).length - 1) by omega]
    exact this
  · rw [if_neg hr]
    have := spBack_at hpos (-rows).toNat p s h
    rw [show (min (max ((p : Int) + rows) 0) (((spAll cs).length : Int) - 1)).toNat = p - (-rows).toNat by omega]
    exact this
end Go.Proofs.YtjgmkcmlkffjlaaDoor
