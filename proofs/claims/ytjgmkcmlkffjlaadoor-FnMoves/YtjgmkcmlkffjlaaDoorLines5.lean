/-
  The program's LineBytes: its contract.
-/
import Derived.Test.YtjgmkcmlkffjlaaDoorLines4
namespace Go.Proofs.YtjgmkcmlkffjlaaDoor
open Go.RowKit Go.Shelf
set_option linter.unusedVariables false
attribute [local go_sem] Oper.semAt_some lineEncs

theorem lb_found {xs : List Int} {I : Int} {x : Int × L2} (hx : x ∈ numL 0 (lns xs)) (hI : x.1 = I) (hn : ¬ 400 < xs.length) : lbCode xs I = 0 ∧ lbRes xs I = cutOf xs x.2 := by
  obtain ⟨j, hj⟩ := List.getElem?_of_mem hx
  rw [numL_at] at hj
  cases hl : (lns xs)[j]? with
  | none => rw [hl] at hj; cases hj
  | some l =>
    rw [hl] at hj
    simp at hj
    subst hj
    simp at hI
    subst hI
    have hjl : j < (lns xs).length := (List.getElem?_eq_some_iff.1 hl).1
    have e0 : lbCode xs (j : Int) = 0 := by unfold lbCode; rw [if_neg hn, if_neg (by omega)]
    refine ⟨e0, ?_⟩
    unfold lbRes
    rw [if_pos e0, Int.toNat_natCast, List.getD_eq_getElem?_getD, hl]
    rfl
theorem lb_none {xs : List Int} {I : Int} (h : ∀ x ∈ numL 0 (lns xs), x.1 ≠ I) (hn : ¬ 400 < xs.length) : lbCode xs I = 3 ∧ lbRes xs I = [] := by
  have e0 : lbCode xs I = 3 := by
    unfold lbCode
    rw [if_neg hn, if_pos]
    apply Classical.byContradiction
    intro hI
    obtain ⟨i, rfl⟩ : ∃ i : Nat, I = (i : Int) := ⟨I.toNat, by omega⟩
    have hil : i < (lns xs).length := by omega
    have hm : (numL 0 (lns xs))[i]? = some ((i : Int), (lns xs)[i]) := by rw [numL_at, List.getElem?_eq_getElem hil]; simp
    exact h _ (List.mem_of_getElem? hm) rfl
  exact ⟨e0, by unfold lbRes; rw [if_neg (by omega)]⟩

theorem ownsRow_turn {X Y : World} {row : Option Nat} {base : Nat} {e : TypeId} {size k : Nat} {v : Value} {ys : List Value} (hr : X.ownsRow base e size v k ys) (hg : X.grownBy Y row) (hrow : ∀ r, row = some r → ∃ o : Obj, X.heap[r]? = some o ∧ o.isCells = false) : Y.ownsRow base e size v k ys := by
  refine hr.kept hg ?_
  rcases hr.2 with ⟨rfl, _⟩ | ⟨g, cap, cur, rfl, _, hgb, _⟩
  · exact .inl rfl
  · refine .inr (fun e' => ?_)
    obtain ⟨o, ho, hc⟩ := hrow g e'.symm
    rw [hgb] at ho
    cases ho
    cases hc

/-- None of the lines has the number I. -/
def NoneIs {n : Nat} (I : Int) (pre : List (LineIn n)) : Prop := ∀ x ∈ pre, x.1.1 ≠ I
theorem NoneIs.snoc {n : Nat} {I : Int} {pre : List (LineIn n)} {x : LineIn n} (h : NoneIs I pre) (hx : x.1.1 ≠ I) : NoneIs I (pre ++ [x]) :=
  fun y hy => (List.mem_append.1 hy).elim (h y) (fun e => by simp at e; subst e; exact hx)

end Go.Proofs.YtjgmkcmlkffjlaaDoor