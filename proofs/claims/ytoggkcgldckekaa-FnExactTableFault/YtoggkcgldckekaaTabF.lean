/-
  Chapter 8: the fault of a table: plain mathematics. It speaks of no program.
-/
import Derived.Test.YtoggkcgldckekaaTabM
import Derived.Test.YtoggkcgldckekaaInstM
namespace Go.Proofs.Ytoggkcgldckekaa
open Go.RowKit
set_option linter.unusedVariables false
set_option linter.unusedSimpArgs false

/-- Its Byte or its To is none. -/
def ArcBad (n : Int) (a : L2) : Prop := ¬ (0 ≤ a.1 ∧ a.1 ≤ 255) ∨ ¬ (0 ≤ a.2 ∧ a.2 ≤ n - 1)
instance (n : Int) (a : L2) : Decidable (ArcBad n a) := by unfold ArcBad; infer_instance
def arcGo (n : Int) : List L2 → List L2 → Int
  | _, [] => 0
  | seen, a :: az => if ArcBad n a then 3 else if a.1 ∈ seen.map (·.1) then 6 else arcGo n (seen ++ [a]) az
def arcsF (n : Int) (az : List L2) : Int := if 256 < az.length then 2 else arcGo n [] az
theorem arcGo_at {n : Int} {az : List L2} {k : Nat} {c : L2} (h : az[k]? = some c) :
    arcGo n (az.take k) (az.drop k) = if ArcBad n c then 3 else if c.1 ∈ (az.take k).map (·.1) then 6 else arcGo n (az.take (k + 1)) (az.drop (k + 1)) := by
  obtain ⟨hk, e⟩ := List.getElem?_eq_some_iff.1 h
  rw [List.drop_eq_getElem_cons hk, e, arcGo, List.take_succ_eq_append_getElem hk, e]
theorem arcGo_end {n : Int} {az : List L2} {k : Nat} (h : az.length ≤ k) : arcGo n (az.take k) (az.drop k) = 0 := by
  rw [List.drop_of_length_le h]; rfl

/-- The fault of a state, of states. -/
def stateF (is : List In) (n : Int) (x : St) : Int := if setFault is x.1 ≠ 0 then setFault is x.1 else arcsF n x.2
def stateGo (is : List In) (n : Int) : List St → Int
  | [] => 0
  | x :: ts => if stateF is n x ≠ 0 then stateF is n x else stateGo is n ts
theorem stateGo_at {is : List In} {n : Int} {ts : List St} {k : Nat} {x : St} (h : ts[k]? = some x) : stateGo is n (ts.drop k) = if stateF is n x ≠ 0 then stateF is n x else stateGo is n (ts.drop (k + 1)) := by
  obtain ⟨hk, e⟩ := List.getElem?_eq_some_iff.1 h
  rw [List.drop_eq_getElem_cons hk, e, stateGo]
theorem stateGo_end {is : List In} {n : Int} {ts : List St} {k : Nat} (h : ts.length ≤ k) : stateGo is n (ts.drop k) = 0 := by
  rw [List.drop_of_length_le h]; rfl

/-- The place of a set; -1: there is none. -/
def tAtGo : Int → List St → List Int → Int
  | _, [], _ => -1
  | k, t :: ts, xs => if t.1 = xs then k else tAtGo (k + 1) ts xs
def tAt (ts : List St) (xs : List Int) : Int := tAtGo 0 ts xs
theorem tAtGo_at {ts : List St} {xs : List Int} {k : Nat} {q : Int} {x : St} (h : ts[k]? = some x) : tAtGo q (ts.drop k) xs = if x.1 = xs then q else tAtGo (q + 1) (ts.drop (k + 1)) xs := by
  obtain ⟨hk, e⟩ := List.getElem?_eq_some_iff.1 h
  rw [List.drop_eq_getElem_cons hk, e, tAtGo]
theorem tAtGo_spec : ∀ (ts : List St) (q : Int) (xs : List Int), (tAtGo q ts xs = -1 ∧ xs ∉ ts.map (·.1)) ∨ ∃ j : Nat, tAtGo q ts xs = q + j ∧ (ts.map (·.1))[j]? = some xs ∧ xs ∉ (ts.take j).map (·.1)
  | [], q, xs => .inl ⟨rfl, by simp⟩
  | t :: ts, q, xs => by
    rw [tAtGo]
    by_cases h : t.1 = xs
    · rw [if_pos h]
      exact .inr ⟨0, by simp, by simp [h], by simp⟩
    · rw [if_neg h]
      rcases tAtGo_spec ts (q + 1) xs with ⟨h1, h2⟩ | ⟨j, h1, h2, h3⟩
      · refine .inl ⟨h1, ?_⟩
        rw [List.map_cons, List.mem_cons]
        exact fun e => e.elim (fun e => h e.symm) h2
      · refine .inr ⟨j + 1, by rw [h1]; push_cast; omega, by simpa using h2, ?_⟩
        rw [List.take_succ_cons, List.map_cons, List.mem_cons]
        exact fun e => e.elim (fun e => h e.symm) h3
/-- No such set: -1; else the first place that has it. -/
theorem tAt_spec (ts : List St) (xs : List Int) : (tAt ts xs = -1 ∧ xs ∉ ts.map (·.1)) ∨ ∃ j : Nat, tAt ts xs = j ∧ (ts.map (·.1))[j]? = some xs ∧ xs ∉ (ts.take j).map (·.1) := by
  rcases tAtGo_spec ts 0 xs with h | ⟨j, h1, h2⟩
  · exact .inl h
  · exact .inr ⟨j, by unfold tAt; omega, h2⟩
theorem tAt_lt (ts : List St) (xs : List Int) : -1 ≤ tAt ts xs ∧ tAt ts xs < ts.length ∨ tAt ts xs = -1 := by
  rcases tAt_spec ts xs with h | ⟨j, h1, h2, _⟩
  · exact .inr h.1
  · have := (List.getElem?_eq_some_iff.1 h2).1
    simp at this
    exact .inl (by omega)
/-- The set of a state is met first where it stands, or ahead. -/
theorem tAt_self {ts : List St} {k : Nat} {x : St} (h : ts[k]? = some x) : tAt ts x.1 = k ↔ x.1 ∉ (ts.take k).map (·.1) := by
  have hm : (ts.map (·.1))[k]? = some x.1 := by simp [h]
  rcases tAt_spec ts x.1 with ⟨h1, h2⟩ | ⟨j, h1, h2, h3⟩
  · exact absurd (List.mem_of_getElem? hm) h2
  · rw [h1]
    constructor
    · intro e
      have : j = k := by omega
      subst this
      exact h3
    · intro hn
      rcases Nat.lt_trichotomy j k with hj | hj | hj
      · exfalso
        apply hn
        rw [List.map_take]
        exact List.mem_of_getElem? (i := j) (by rw [List.getElem?_take_of_lt hj]; exact h2)
      · rw [hj]
      · exfalso
        apply h3
        rw [List.map_take]
        exact List.mem_of_getElem? (i := k) (by rw [List.getElem?_take_of_lt hj]; exact hm)

/-- No two states have one set. -/
def Lone (ts : List St) : Prop := (ts.map (·.1)).Nodup
instance (ts : List St) : Decidable (Lone ts) := by unfold Lone; infer_instance
theorem lone_take {ts : List St} {k : Nat} {x : St} (h : ts[k]? = some x) : Lone (ts.take (k + 1)) ↔ Lone (ts.take k) ∧ x.1 ∉ (ts.take k).map (·.1) := by
  obtain ⟨hk, e⟩ := List.getElem?_eq_some_iff.1 h
  unfold Lone
  rw [List.take_succ_eq_append_getElem hk, e, List.map_append, List.nodup_append]
  simp only [List.map_cons, List.map_nil, List.nodup_cons, List.not_mem_nil, not_false_eq_true, List.nodup_nil, and_self, List.mem_singleton, true_and]
  constructor
  · rintro ⟨h1, h2⟩
    exact ⟨h1, fun hm => h2 _ hm _ rfl rfl⟩
  · rintro ⟨h1, h2⟩
    exact ⟨h1, fun a ha b hb => by rintro rfl; rw [hb] at ha; exact h2 ha⟩
theorem lone_less {ts : List St} {k : Nat} (h : Lone ts) : Lone (ts.take k) := by
  unfold Lone at *
  rw [List.map_take]
  exact h.sublist (List.take_sublist _ _)

/-- The fault of a table. -/
def tabF (is : List In) (z : Int) (ts : List St) : Int :=
  if progFault is ≠ 0 then progFault is else if ¬ (1 ≤ z ∧ z ≤ 12) then 3 else if z < ts.length then 2 else
    if stateGo is ts.length ts ≠ 0 then stateGo is ts.length ts else if Lone ts then 0 else 6

theorem tabF_ok {is : List In} {z : Int} {ts : List St} (h : tabF is z ts = 0) : progFault is = 0 ∧ (1 ≤ z ∧ z ≤ 12) ∧ (ts.length : Int) ≤ z ∧ stateGo is ts.length ts = 0 ∧ Lone ts := by
  unfold tabF at h
  by_cases h1 : progFault is ≠ 0
  · rw [if_pos h1] at h; exact absurd h h1
  rw [if_neg h1] at h
  by_cases h2 : ¬ (1 ≤ z ∧ z ≤ 12)
  · rw [if_pos h2] at h; omega
  rw [if_neg h2] at h
  by_cases h3 : z < ts.length
  · rw [if_pos h3] at h; omega
  rw [if_neg h3] at h
  by_cases h4 : stateGo is ts.length ts ≠ 0
  · rw [if_pos h4] at h; exact absurd h h4
  rw [if_neg h4] at h
  by_cases h5 : Lone ts
  · exact ⟨Decidable.not_not.1 h1, Decidable.not_not.1 h2, by omega, Decidable.not_not.1 h4, h5⟩
  · rw [if_neg h5] at h; omega
theorem stateGo_all {is : List In} {n : Int} : ∀ {ts : List St}, stateGo is n ts = 0 → ∀ x ∈ ts, stateF is n x = 0
  | [], _, x, hx => by simp at hx
  | t :: ts, h, x, hx => by
    rw [stateGo] at h
    by_cases h1 : stateF is n t ≠ 0
    · rw [if_pos h1] at h; exact absurd h h1
    · rw [if_neg h1] at h
      rcases List.mem_cons.1 hx with rfl | hx
      · exact Decidable.not_not.1 h1
      · exact stateGo_all h x hx
theorem stateF_ok {is : List In} {n : Int} {x : St} (h : stateF is n x = 0) : setFault is x.1 = 0 ∧ arcsF n x.2 = 0 := by
  unfold stateF at h
  by_cases h1 : setFault is x.1 ≠ 0
  · rw [if_pos h1] at h; exact absurd h h1
  · rw [if_neg h1] at h; exact ⟨Decidable.not_not.1 h1, h⟩
theorem arcGo_all {n : Int} : ∀ {az seen : List L2}, arcGo n seen az = 0 → ∀ a ∈ az, ¬ ArcBad n a
  | [], _, _, a, ha => by simp at ha
  | b :: az, seen, h, a, ha => by
    rw [arcGo] at h
    by_cases h1 : ArcBad n b
    · rw [if_pos h1] at h; omega
    rw [if_neg h1] at h
    by_cases h2 : b.1 ∈ seen.map (·.1)
    · rw [if_pos h2] at h; omega
    rw [if_neg h2] at h
    rcases List.mem_cons.1 ha with rfl | ha
    · exact h1
    · exact arcGo_all h a ha
theorem arcsF_ok {n : Int} {az : List L2} (h : arcsF n az = 0) : az.length ≤ 256 ∧ ∀ a ∈ az, ¬ ArcBad n a := by
  unfold arcsF at h
  by_cases h1 : 256 < az.length
  · rw [if_pos h1] at h; omega
  · rw [if_neg h1] at h; exact ⟨by omega, arcGo_all h⟩
end Go.Proofs.Ytoggkcgldckekaa
