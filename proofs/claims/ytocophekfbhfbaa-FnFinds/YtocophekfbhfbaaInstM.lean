/-
  Chapter 7, plain mathematics: instructions; what ProgFault and SetFault tell. It speaks of no program.
-/
import Derived.Test.YtocophekfbhfbaaNodeFA
namespace Go.Proofs.Ytocophekfbhfbaa
open Go.RowKit
set_option linter.unusedVariables false
set_option linter.unusedSimpArgs false

/-- An instruction, flat. -/
structure In where
  o : Int
  k : Int
  c : Int
  s : ByteArray
  l : Int
  r : Int
  x : Int
  y : Int

instance : Inhabited In := ⟨⟨0, 0, 0, ⟨#[]⟩, 0, 0, 0, 0⟩⟩

/-- Its node. -/
def In.nd (i : In) : Nd := ⟨i.k, i.c, i.s, i.l, i.r⟩

/-- The eight cells of an instruction. -/
def inE (n : In) : List Value := [.int .i64 n.o, .int .i64 n.k, .int .i64 n.c, .string n.s, .int .i64 n.l, .int .i64 n.r, .int .i64 n.x, .int .i64 n.y]
theorem inE_len (n : In) : (inE n).length = 8 := rfl

/-- An instruction that is nothing. -/
def in0 : In := ⟨0, 0, 0, ⟨#[]⟩, 0, 0, 0, 0⟩

theorem eight {w : World} {b off : Nat} {n : In} (h : ∀ f v, (inE n)[f]? = some v → w.cell? ⟨b, off + f, none⟩ = some v) :
    w.cell? ⟨b, off, none⟩ = some (.int .i64 n.o) ∧ w.cell? ⟨b, off + 1, none⟩ = some (.int .i64 n.k) ∧ w.cell? ⟨b, off + 2, none⟩ = some (.int .i64 n.c) ∧ w.cell? ⟨b, off + 3, none⟩ = some (.string n.s) ∧ w.cell? ⟨b, off + 4, none⟩ = some (.int .i64 n.l) ∧ w.cell? ⟨b, off + 5, none⟩ = some (.int .i64 n.r) ∧ w.cell? ⟨b, off + 6, none⟩ = some (.int .i64 n.x) ∧ w.cell? ⟨b, off + 7, none⟩ = some (.int .i64 n.y) :=
  ⟨h 0 _ rfl, h 1 _ rfl, h 2 _ rfl, h 3 _ rfl, h 4 _ rfl, h 5 _ rfl, h 6 _ rfl, h 7 _ rfl⟩

theorem inEq_iff (a b : In) : a = b ↔ a.o = b.o ∧ a.k = b.k ∧ a.c = b.c ∧ a.s = b.s ∧ a.l = b.l ∧ a.r = b.r ∧ a.x = b.x ∧ a.y = b.y := by cases a; cases b; simp
instance : DecidableEq In := fun a b => decidable_of_iff _ (inEq_iff a b).symm

/-- The bytes of all sets. -/
def inSum (cs : List In) : Nat := (cs.map fun n => n.s.size).sum
theorem inSum_succ {cs : List In} {k : Nat} {n : In} (h : cs[k]? = some n) : inSum (cs.take (k + 1)) = inSum (cs.take k) + n.s.size := by
  rw [List.take_add_one, h]
  simp [inSum]
theorem inSum_take (cs : List In) (k : Nat) : inSum (cs.take k) ≤ inSum cs := by
  have h : inSum cs = inSum (cs.take k) + inSum (cs.drop k) := by
    rw [inSum, inSum, inSum, ← List.sum_append_nat, ← List.map_append, List.take_append_drop]
  omega
theorem inSum_at {cs : List In} {n : In} (h : n ∈ cs) : n.s.size ≤ inSum cs := by
  induction cs with
  | nil => simp at h
  | cons a cs ih =>
    simp [inSum] at h ih ⊢
    rcases h with rfl | h
    · omega
    · have := ih h
      omega

/-- An instruction has nothing that its Op has not, and what it has. -/
def FormI (i : In) : Prop := (1 ≤ i.o ∧ i.o ≤ 6) ∧ (i.o = 2 ∨ i.y = 0) ∧ (i.o ≠ 6 ∨ i.x = 0) ∧ (i.o = 1 → FormP i.nd ∧ 2 ≤ i.k ∧ i.k ≤ 5) ∧ (i.o ≠ 1 → i.nd = nd0)
instance (i : In) : Decidable (FormI i) := by unfold FormI; infer_instance

/-- It has no fault among n. -/
def instF (n : Int) (i : In) : Int :=
  if ¬ FormI i then 1 else if i.o = 1 ∧ rangeB i.nd = false then 3 else if ¬ (0 ≤ i.x ∧ i.x < n) ∨ ¬ (0 ≤ i.y ∧ i.y < n) then 3 else 0

def progGo (n : Int) : List In → Int
  | [] => 0
  | i :: is => if instF n i = 0 then progGo n is else instF n i

def progFault (is : List In) : Int := if is.length < 1 ∨ 80 < is.length then 2 else progGo is.length is

def setGo (n p : Int) : List Int → Int
  | [] => 0
  | x :: xs => if x ≤ p ∨ n ≤ x then 3 else setGo n x xs

def setFault (is : List In) (xs : List Int) : Int := if progFault is ≠ 0 then progFault is else if 80 < xs.length then 2 else setGo is.length (-1) xs

theorem progGo_at {n : Int} {is : List In} {k : Nat} {i : In} (h : is[k]? = some i) : progGo n (is.drop k) = if instF n i = 0 then progGo n (is.drop (k + 1)) else instF n i := by
  have hk := List.getElem?_eq_some_iff.1 h
  rw [List.drop_eq_getElem_cons hk.1, hk.2]
  rfl
theorem progGo_end {n : Int} {is : List In} {k : Nat} (h : is.length ≤ k) : progGo n (is.drop k) = 0 := by
  rw [List.drop_of_length_le h]; rfl

theorem setGo_at {n p : Int} {xs : List Int} {k : Nat} (h : k < xs.length) : setGo n p (xs.drop k) = if xs.getD k 0 ≤ p ∨ n ≤ xs.getD k 0 then 3 else setGo n (xs.getD k 0) (xs.drop (k + 1)) := by
  rw [List.drop_eq_getElem_cons h, List.getD_eq_getElem?_getD, List.getElem?_eq_getElem h]
  rfl
theorem setGo_end {n p : Int} {xs : List Int} {k : Nat} (h : xs.length ≤ k) : setGo n p (xs.drop k) = 0 := by
  rw [List.drop_of_length_le h]; rfl

theorem progFault_ok {is : List In} (h : progFault is = 0) : 1 ≤ is.length ∧ is.length ≤ 80 ∧ progGo is.length is = 0 := by
  unfold progFault at h
  by_cases h1 : is.length < 1 ∨ 80 < is.length
  · rw [if_pos h1] at h; omega
  · rw [if_neg h1] at h; exact ⟨by omega, by omega, h⟩

theorem progGo_all {n : Int} {is : List In} (h : progGo n is = 0) : ∀ i ∈ is, instF n i = 0 := by
  induction is with
  | nil => intro i hi; simp at hi
  | cons a is ih =>
    intro i hi
    rw [progGo] at h
    by_cases ha : instF n a = 0
    · rw [if_pos ha] at h
      rcases List.mem_cons.1 hi with rfl | hi
      · exact ha
      · exact ih h i hi
    · rw [if_neg ha] at h
      exact absurd h ha

/-- It has nothing that its Op has not, its node aside. -/
def HasI (i : In) : Prop := (1 ≤ i.o ∧ i.o ≤ 6) ∧ (i.o = 2 ∨ i.y = 0) ∧ (i.o ≠ 6 ∨ i.x = 0) ∧ (i.o = 1 ∨ i.nd = nd0)
instance (i : In) : Decidable (HasI i) := by unfold HasI; infer_instance

theorem form_has {i : In} : FormI i ↔ HasI i ∧ (i.o = 1 → FormP i.nd ∧ 2 ≤ i.k ∧ i.k ≤ 5) := by
  unfold FormI HasI
  constructor
  · rintro ⟨h1, h2, h3, h4, h5⟩
    exact ⟨⟨h1, h2, h3, by by_cases h : i.o = 1; exact .inl h; exact .inr (h5 h)⟩, h4⟩
  · rintro ⟨⟨h1, h2, h3, h5⟩, h4⟩
    exact ⟨h1, h2, h3, h4, fun h => h5.resolve_left h⟩

theorem instF_has {n : Int} {i : In} (h : ¬ HasI i) : instF n i = 1 := by
  unfold instF
  rw [if_pos (fun h' => h (form_has.1 h').1)]

theorem instF_kind {n : Int} {i : In} (h1 : i.o = 1) (h2 : ¬ (2 ≤ i.k ∧ i.k ≤ 5)) : instF n i = 1 := by
  unfold instF
  rw [if_pos (fun h' => h2 ((form_has.1 h').2 h1).2)]

theorem instF_form {n : Int} {i : In} (h1 : i.o = 1) (h2 : ¬ FormP i.nd) : instF n i = 1 := by
  unfold instF
  rw [if_pos (fun h' => h2 ((form_has.1 h').2 h1).1)]

theorem instF_range {n : Int} {i : In} (h0 : HasI i) (h1 : i.o = 1) (hk : 2 ≤ i.k ∧ i.k ≤ 5) (h2 : FormP i.nd) (h3 : rangeB i.nd = false) : instF n i = 3 := by
  unfold instF
  rw [if_neg (fun h' => h' (form_has.2 ⟨h0, fun _ => ⟨h2, hk⟩⟩)), if_pos ⟨h1, h3⟩]

theorem instF_byte {n : Int} {i : In} (h0 : HasI i) (h1 : i.o = 1) (hk : 2 ≤ i.k ∧ i.k ≤ 5) (h2 : FormP i.nd) (h3 : rangeB i.nd = true) : instF n i = if ¬ (0 ≤ i.x ∧ i.x < n) ∨ ¬ (0 ≤ i.y ∧ i.y < n) then 3 else 0 := by
  unfold instF
  rw [if_neg (fun h' => h' (form_has.2 ⟨h0, fun _ => ⟨h2, hk⟩⟩)), if_neg (by simp [h3])]

theorem instF_else {n : Int} {i : In} (h0 : HasI i) (h1 : i.o ≠ 1) : instF n i = if ¬ (0 ≤ i.x ∧ i.x < n) ∨ ¬ (0 ≤ i.y ∧ i.y < n) then 3 else 0 := by
  unfold instF
  rw [if_neg (fun h' => h' (form_has.2 ⟨h0, fun h => absurd h h1⟩)), if_neg (fun h => h1 h.1)]

/-- A node that stands for a byte, as one alone. -/
theorem nodesFault_one {n : Nd} (hk : 2 ≤ n.k ∧ n.k ≤ 5) : nodesFault [n] = if ¬ FormP n then 1 else if rangeB n = false then 3 else 0 := by
  unfold nodesFault
  rw [if_neg (by simp)]
  show (if ¬ FormP n then (1 : Int) else if rangeB n = false then 3 else if beg [] n = -1 then 1 else faultGo ([] ++ [beg [] n]) []) = _
  have hb : beg [] n = 0 := by
    unfold beg
    rw [if_neg (by omega), if_neg (by omega)]
    rfl
  rw [hb]
  rfl

theorem instF_ok {n : Int} {i : In} (h : instF n i = 0) : FormI i ∧ (0 ≤ i.x ∧ i.x < n) ∧ (0 ≤ i.y ∧ i.y < n) ∧ (i.o = 1 → rangeB i.nd = true) := by
  unfold instF at h
  by_cases h1 : ¬ FormI i
  · rw [if_pos h1] at h; omega
  rw [if_neg h1] at h
  by_cases h2 : i.o = 1 ∧ rangeB i.nd = false
  · rw [if_pos h2] at h; omega
  rw [if_neg h2] at h
  by_cases h3 : ¬ (0 ≤ i.x ∧ i.x < n) ∨ ¬ (0 ≤ i.y ∧ i.y < n)
  · rw [if_pos h3] at h; omega
  refine ⟨Decidable.not_not.1 h1, by omega, by omega, fun ho => ?_⟩
  cases hr : rangeB i.nd
  · exact absurd ⟨ho, hr⟩ h2
  · rfl
end Go.Proofs.Ytocophekfbhfbaa
