/-
  What is fetched, in the words of the specification: plain mathematics.
-/
import Derived.Test.YtckkkhabjfbngaaLess
import Derived.Test.YtckkkhabjfbngaaFetch1
namespace Go.Proofs.Ytckkkhabjfbngaa
open Go.RowKit Go.ChangeMaps Go.MapKept
set_option linter.unusedVariables false
set_option linter.unusedSimpArgs false

theorem lessI_first (m : List Bk) : lessI 0 m m.length = m.drop 1 := by
  have h := lessI_at (bs := m) (j := 0) m.length (Nat.le_refl _)
  rw [List.take_length] at h
  simpa using h

theorem lessB_of_no {bs : List Bk} {x : Int} (h : ∀ b ∈ bs, b.1 ≠ x) : lessB bs x = bs := by
  unfold lessB
  rw [List.filter_eq_self]
  intro b hb
  simpa using h b hb

/-- Either no block has the number, or just one has. -/
theorem at_parts (x : Int) : ∀ (bs : List Bk), (bs.map (·.1)).Nodup → (atN bs x = none ∧ (∀ b ∈ bs, b.1 ≠ x)) ∨ ∃ i ys, atN bs x = some i ∧ bs[i]? = some (x, ys) ∧ bs.eraseIdx i = lessB bs x ∧ getN bs x = some ys
  | [], _ => .inl ⟨rfl, fun b hb => by simp at hb⟩
  | b :: bs, hn => by
    rw [List.map_cons, List.nodup_cons] at hn
    by_cases e : b.1 = x
    · refine .inr ⟨0, b.2, by simp [atN, e], by simp [← e], ?_, by simp [getN, e]⟩
      have hno : ∀ c ∈ bs, c.1 ≠ x := fun c hc q => hn.1 (by rw [e, ← q]; exact List.mem_map.2 ⟨c, hc, rfl⟩)
      have h2 : lessB (b :: bs) x = lessB bs x := by simp [lessB, e]
      rw [h2, lessB_of_no hno]
      rfl
    · rcases at_parts x bs hn.2 with ⟨q1, q2⟩ | ⟨i, ys, q1, q2, q3, q4⟩
      · refine .inl ⟨by simp [atN, e, q1], fun c hc => ?_⟩
        rcases List.mem_cons.1 hc with q | q
        · subst q; exact e
        · exact q2 c q
      · refine .inr ⟨i + 1, ys, by simp [atN, e, q1], by simpa using q2, ?_, by rw [getN, if_neg e]; exact q4⟩
        have h2 : lessB (b :: bs) x = b :: lessB bs x := by simp [lessB, e]
        rw [h2, ← q3]
        rfl

/-- The two ways of a fetch: the block is not there; it is there. -/
theorem fetch_ways {u z : Int} {bs : List Bk} {U : Nat} (hok : OkC u z bs) (xs : List Int) (num : Nat) :
    (atI bs num = -1 ∧ lessI (-1) bs bs.length = lessB bs num ∧ lessB bs num = bs ∧ ftB U bs xs num = blkAt xs num U) ∨
    ∃ (i : Nat) (ys : List Int), atI bs num = (i : Int) ∧ i < bs.length ∧ bs[i]? = some ((num : Int), ys) ∧ lessI (i : Int) bs bs.length = lessB bs num ∧ ftB U bs xs num = ys ∧ 1 ≤ ys.length := by
  rcases at_parts (num : Int) bs hok.nodup with ⟨q1, q2⟩ | ⟨i, ys, q1, q2, q3, q4⟩
  · refine .inl ⟨by simp [atI, q1], ?_, lessB_of_no q2, ?_⟩
    · rw [lessI_none (by omega) _ (Nat.le_refl _), List.take_length, lessB_of_no q2]
    · simp [ftB, getN_none q2]
  · have hi : i < bs.length := (List.getElem?_eq_some_iff.1 q2).1
    refine .inr ⟨i, ys, by simp [atI, q1], hi, q2, ?_, by simp [ftB, q4], ?_⟩
    · rw [lessI_at _ (Nat.le_refl _), List.take_length, q3]
    · exact (hok.each _ (List.mem_of_getElem? q2)).2.2.1

/-- What is held behind a fetch. -/
theorem ftQ_none {z : Int} {bs : List Bk} {num : Int} {Y : List Int} (h : Y.length = 0) : ftQ z bs num Y = bs := if_pos h
theorem ftQ_more {z : Int} {bs : List Bk} {num : Int} {Y : List Int} (h : ¬ Y.length = 0) (hz : z < ((lessB bs num).length + 1 : Nat)) : ftQ z bs num Y = lessI 0 (lessB bs num ++ [(num, Y)]) ((lessB bs num).length + 1) := by
  have e : (lessB bs num ++ [(num, Y)]).length = (lessB bs num).length + 1 := by simp
  rw [← e, lessI_first]
  unfold ftQ
  rw [if_neg h, if_pos (by rw [e]; exact hz)]
theorem ftQ_just {z : Int} {bs : List Bk} {num : Int} {Y : List Int} (h : ¬ Y.length = 0) (hz : ¬ z < ((lessB bs num).length + 1 : Nat)) : ftQ z bs num Y = lessB bs num ++ [(num, Y)] := by
  have e : (lessB bs num ++ [(num, Y)]).length = (lessB bs num).length + 1 := by simp
  unfold ftQ
  rw [if_neg h, if_neg (by rw [e]; exact hz)]
theorem lessB_len (bs : List Bk) (x : Int) : (lessB bs x).length ≤ bs.length ∧ byB (lessB bs x) ≤ byB bs := by
  induction bs with
  | nil => exact ⟨Nat.le_refl _, Nat.le_refl _⟩
  | cons b bs ih =>
    have e1 : byB (b :: bs) = b.2.length + byB bs := rfl
    by_cases e : b.1 = x
    · have h2 : lessB (b :: bs) x = lessB bs x := by simp [lessB, e]
      rw [h2, e1, List.length_cons]
      omega
    · have h2 : lessB (b :: bs) x = b :: lessB bs x := by simp [lessB, e]
      have e2 : byB (b :: lessB bs x) = b.2.length + byB (lessB bs x) := rfl
      rw [h2, e1, e2, List.length_cons, List.length_cons]
      omega
end Go.Proofs.Ytckkkhabjfbngaa
