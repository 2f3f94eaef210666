/-
  Plain mathematics of blocks: how many values they hold, marks.
-/
import Derived.Test.YtckkkhabjfbngaaBlk
namespace Go.Proofs.Ytckkkhabjfbngaa
open Go.RowKit
set_option linter.unusedVariables false

/-- How many bytes blocks have. -/
def byB : List Bk → Nat
  | [] => 0
  | b :: bs => b.2.length + byB bs

theorem byB_append (xs ys : List Bk) : byB (xs ++ ys) = byB xs + byB ys := by
  induction xs with
  | nil => simp [byB]
  | cons x xs ih => simp [byB, ih]; omega

theorem byB_succ {bs : List Bk} {k : Nat} {num : Int} {xs : List Int} (h : bs[k]? = some (num, xs)) : byB (bs.take (k + 1)) = byB (bs.take k) + xs.length := by
  obtain ⟨hk, e⟩ := List.getElem?_eq_some_iff.1 h
  rw [List.take_succ_eq_append_getElem hk, byB_append, e]
  simp [byB]

theorem byB_take (bs : List Bk) (k : Nat) : byB (bs.take k) ≤ byB bs := by
  have : byB bs = byB (bs.take k) + byB (bs.drop k) := by rw [← byB_append, List.take_append_drop]
  omega

theorem byB_at {bs : List Bk} {k : Nat} {num : Int} {xs : List Int} (h : bs[k]? = some (num, xs)) : xs.length ≤ byB bs := by
  have h1 := byB_succ h
  have h2 := byB_take bs (k + 1)
  omega

/-- Blocks that count on from x. -/
def mkBs : Int → List Bk → List Bk
  | _, [] => []
  | x, b :: bs => (x, mkB (x + 1) b.2.length) :: mkBs (x + 1 + b.2.length) bs

theorem mkBs_len (x : Int) (bs : List Bk) : (mkBs x bs).length = bs.length := by
  induction bs generalizing x with
  | nil => rfl
  | cons b bs ih => simp [mkBs, ih]

theorem mkBs_byB (x : Int) (bs : List Bk) : byB (mkBs x bs) = byB bs := by
  induction bs generalizing x with
  | nil => rfl
  | cons b bs ih => simp [mkBs, ih, byB, mkB_len]

theorem mkBs_append (x : Int) (xs ys : List Bk) : mkBs x (xs ++ ys) = mkBs x xs ++ mkBs (x + xs.length + byB xs) ys := by
  induction xs generalizing x with
  | nil => simp [mkBs, byB]
  | cons b bs ih =>
    simp only [List.cons_append, mkBs, ih, byB, List.length_cons]
    congr 3
    push_cast
    omega

theorem mkBs_succ {bs : List Bk} {k : Nat} {num : Int} {xs : List Int} (x : Int) (h : bs[k]? = some (num, xs)) :
    mkBs x (bs.take (k + 1)) = mkBs x (bs.take k) ++ [(x + k + byB (bs.take k), mkB (x + k + byB (bs.take k) + 1) xs.length)] := by
  obtain ⟨hk, e⟩ := List.getElem?_eq_some_iff.1 h
  rw [List.take_succ_eq_append_getElem hk, mkBs_append, e]
  simp only [mkBs, List.length_take]
  rw [Nat.min_eq_left (by omega)]

theorem mkBs_at {bs : List Bk} {k : Nat} {num : Int} {xs : List Int} (x : Int) (h : bs[k]? = some (num, xs)) :
    (mkBs x bs)[k]? = some (x + k + byB (bs.take k), mkB (x + k + byB (bs.take k) + 1) xs.length) := by
  obtain ⟨hk, e⟩ := List.getElem?_eq_some_iff.1 h
  have h1 : mkBs x bs = mkBs x (bs.take (k + 1)) ++ mkBs (x + (bs.take (k + 1)).length + byB (bs.take (k + 1))) (bs.drop (k + 1)) := by
    rw [← mkBs_append, List.take_append_drop]
  have hl : (mkBs x (bs.take k)).length = k := by rw [mkBs_len, List.length_take]; omega
  rw [h1, mkBs_succ x h, List.getElem?_append_left (by simp [mkBs_len]; omega), List.getElem?_append_right (by omega), hl]
  simp

/-- The mark of one block more. -/
theorem mkBs_set {bs : List Bk} {k : Nat} {num : Int} {xs : List Int} (x : Int) (h : bs[k]? = some (num, xs)) :
    (mkBs x (bs.take k) ++ bs.drop k).set k (x + k + byB (bs.take k), mkB (x + k + byB (bs.take k) + 1) xs.length) = mkBs x (bs.take (k + 1)) ++ bs.drop (k + 1) := by
  obtain ⟨hk, e⟩ := List.getElem?_eq_some_iff.1 h
  rw [List.drop_eq_getElem_cons hk, set_mid _ _ (by rw [mkBs_len, List.length_take]; omega), mkBs_succ x h]

theorem mkBs_mid {bs : List Bk} {k : Nat} {num : Int} {xs : List Int} (x : Int) (h : bs[k]? = some (num, xs)) : (mkBs x (bs.take k) ++ bs.drop k)[k]? = some (num, xs) := by
  obtain ⟨hk, e⟩ := List.getElem?_eq_some_iff.1 h
  have hl : (mkBs x (bs.take k)).length = k := by rw [mkBs_len, List.length_take]; omega
  rw [List.getElem?_append_right (by omega), hl, Nat.sub_self, List.drop_eq_getElem_cons hk, e]
  rfl

/-- A copy of one block more. -/
theorem cpB_set {bs : List Bk} {k n : Nat} {num : Int} {xs : List Int} (hn : bs.length = n) (h : bs[k]? = some (num, xs)) :
    (bs.take k ++ List.replicate (n - k) (0, [])).set k (num, xs) = bs.take (k + 1) ++ List.replicate (n - (k + 1)) (0, []) := by
  obtain ⟨hk, e⟩ := List.getElem?_eq_some_iff.1 h
  obtain ⟨d, hd⟩ : ∃ d, n - k = d + 1 := ⟨n - k - 1, by omega⟩
  rw [hd, List.replicate_succ, set_mid _ _ (by rw [List.length_take]; omega), show n - (k + 1) = d by omega, List.take_succ_eq_append_getElem hk, e]

section
variable {eB eU : TypeId} {w w' : World} {lo hi n : Nat} {v : Value} {bs : List Bk}

/-- One element's bytes, and the way back. -/
theorem RowB.elem {g cap j : Nat} {num : Int} {xs : List Int} (hne : eB ≠ eU) (h : RowB eB eU w lo hi (.slice (some ⟨g, 0, none⟩) n cap) n bs) (hj : bs[j]? = some (num, xs)) :
    ∃ a c, w.cell? ⟨g, j * 2, none⟩ = some (.int .i64 num) ∧ w.cell? ⟨g, j * 2 + 1, none⟩ = some (.slice a xs.length c) ∧ RowI .u8 eU w lo hi (.slice a xs.length c) xs.length xs ∧
      ∀ w' ys, ys.length = xs.length → Own .u8 eU w' lo (.slice a xs.length c) xs.length ys → w.grownBy w' (Value.slice a xs.length c).ownBlock → RowB eB eU w' lo hi (.slice (some ⟨g, 0, none⟩) n cap) n (bs.set j (num, ys)) := by
  obtain ⟨us, h1, h2, h3, h4⟩ := h
  have hjb : j < bs.length := (List.getElem?_eq_some_iff.1 hj).1
  have hju : j < us.length := by omega
  have hx : us[j]? = some us[j] := by simp [hju]
  obtain ⟨e1, hr⟩ := h3 j us[j] _ hx hj
  obtain ⟨a, c, e2, _⟩ := hr.shape
  have c0 := OwnR.cell (f := 0) bkE_len h1.1 hx rfl
  have c1 := OwnR.cell (f := 1) bkE_len h1.1 hx rfl
  simp only at e1 e2 hr
  rw [Nat.add_zero, e1] at c0
  rw [e2] at c1 hr
  refine ⟨a, c, c0, c1, hr, fun w' ys hys ho hg => ?_⟩
  have keep : ∀ i y b, i ≠ j → us[i]? = some y → bs[i]? = some b → RowI .u8 eU w' lo hi y.2 b.2.length b.2 := fun i y b hi hy hb =>
    ⟨Own.kept (h3 i y b hy hb).2.1 hg (fun g' hg' e => h4 j i us[j] y (Ne.symm hi) hx hy g' (by rw [e2]; exact e) hg'), (h3 i y b hy hb).2.2⟩
  refine ⟨us, ⟨⟨h1.1.1, World.ownsRow.kept h1.1.2 hg ?_⟩, h1.2⟩, by simp [h2], ?_, h4⟩
  · right
    intro e
    exact rows_apart hr.1 h1.1.2 (Ne.symm hne) g e.symm rfl
  · intro i y b hy hb
    by_cases hi : i = j
    · subst hi
      have e3 : y = us[i] := by rw [hx] at hy; simpa using hy.symm
      have e4 : b = (num, ys) := by simpa [hjb] using hb.symm
      subst e3 e4
      refine ⟨e1, ?_⟩
      rw [e2, hys]
      exact ⟨ho, hr.2⟩
    · rw [List.getElem?_set_ne (Ne.symm hi)] at hb
      exact ⟨(h3 i y b hy hb).1, keep i y b hi hy hb⟩

/-- A number is stored. -/
theorem RowB.num {g cap j : Nat} {num num' : Int} {xs : List Int} (hne : eB ≠ eU) (h : RowB eB eU w lo hi (.slice (some ⟨g, 0, none⟩) n cap) n bs) (hj : bs[j]? = some (num, xs)) :
    RowB eB eU (w.setCell ⟨g, j * 2, none⟩ (.int .i64 num')) lo hi (.slice (some ⟨g, 0, none⟩) n cap) n (bs.set j (num', xs)) ∧ w.grownBy (w.setCell ⟨g, j * 2, none⟩ (.int .i64 num')) (some g) ∧ lo ≤ g ∧ g < hi := by
  obtain ⟨us, h1, h2, h3, h4⟩ := h
  have hjb : j < bs.length := (List.getElem?_eq_some_iff.1 hj).1
  have hju : j < us.length := by omega
  have hx : us[j]? = some us[j] := by simp [hju]
  obtain ⟨e1, hr⟩ := h3 j us[j] _ hx hj
  have s0 := OwnR.store (f := 0) (u := .int .i64 num') (y := (num', us[j].2)) bkE_len h1.1 hx (by omega) rfl
  have hg := s0.2
  rw [Nat.add_zero] at s0 hg
  have keep : ∀ {v' : Value} {m : Nat} {ys : List Int} {l k : Nat}, RowI .u8 eU w l k v' m ys → RowI .u8 eU (w.setCell ⟨g, j * 2, none⟩ (.int .i64 num')) l k v' m ys := fun hr =>
    ⟨Own.kept hr.1 hg (fun i hi e => by
      have e' : g = i := by simpa using e
      subst e'
      exact rows_apart hr.1 h1.1.2 (Ne.symm hne) g hi rfl), hr.2⟩
  have back : ∀ (i : Nat) (y : Bv), (us.set j (num', us[j].2))[i]? = some y → ∃ y' : Bv, us[i]? = some y' ∧ y.2 = y'.2 := by
    intro i y hy
    by_cases hi : i = j
    · subst hi
      have e3 : y = (num', us[i].2) := by simpa [hju] using hy.symm
      exact ⟨us[i], hx, by rw [e3]⟩
    · rw [List.getElem?_set_ne (Ne.symm hi)] at hy
      exact ⟨y, hy, rfl⟩
  refine ⟨⟨us.set j (num', us[j].2), ⟨s0.1, h1.2⟩, by simp [h2], ?_, ?_⟩, hg, (h1.1.lt g rfl).1, h1.2 g rfl⟩
  · intro i y b hy hb
    by_cases hi : i = j
    · subst hi
      have e3 : y = (num', us[i].2) := by simpa [hju] using hy.symm
      have e4 : b = (num', xs) := by simpa [hjb] using hb.symm
      subst e3 e4
      exact ⟨rfl, keep hr⟩
    · rw [List.getElem?_set_ne (Ne.symm hi)] at hy hb
      exact ⟨(h3 i y b hy hb).1, keep (h3 i y b hy hb).2⟩
  · intro i i' y y' hne' hy hy' g' hg' hg2
    obtain ⟨z, hz, e⟩ := back i y hy
    obtain ⟨z', hz', e'⟩ := back i' y' hy'
    exact h4 i i' z z' hne' hz hz' g' (by rw [← e]; exact hg') (by rw [← e']; exact hg2)

theorem RowB.frozen {g cap : Nat} (h : RowB eB eU w lo hi (.slice (some ⟨g, 0, none⟩) n cap) n bs) (j : Nat) : w.frozen? ⟨g, j, none⟩ = false := by
  obtain ⟨us, h1, _⟩ := h
  exact h1.1.frozen j

theorem RowB.cases (h : RowB eB eU w lo hi v n bs) : (v = .slice none 0 0 ∧ n = 0 ∧ bs = []) ∨ ∃ g cap, v = .slice (some ⟨g, 0, none⟩) n cap ∧ lo ≤ g ∧ g < hi ∧ g < w.heap.size := by
  have hl := h.len
  obtain ⟨us, h1, _⟩ := h
  have hlt := h1.1.lt
  have hhi := h1.2
  rcases h1.1.2.2 with ⟨rfl, rfl⟩ | ⟨g, cap, cur, rfl, _⟩
  · exact .inl ⟨rfl, rfl, List.eq_nil_of_length_eq_zero hl⟩
  · exact .inr ⟨g, cap, rfl, (hlt g rfl).1, hhi g rfl, (hlt g rfl).2⟩
end
end Go.Proofs.Ytckkkhabjfbngaa
