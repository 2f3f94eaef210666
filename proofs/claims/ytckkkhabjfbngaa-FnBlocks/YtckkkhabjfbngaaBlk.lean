/-
  Rows of blocks: each element bears a number and a row of bytes of its own. What such a slice reads as, and what the call owns of it. It speaks of no program.
-/
import Derived.Test.YtckkkhabjfbngaaChg
namespace Go.Proofs.Ytckkkhabjfbngaa
open Go.RowKit
set_option linter.unusedVariables false

/-- A block as read: its number and its bytes. -/
abbrev Bk := Int × List Int

/-- A block as it stands: its number and the slice of its bytes. -/
abbrev Bv := Int × Value

def bkE (u : Bv) : List Value := [.int .i64 u.1, u.2]

theorem bkE_len (u : Bv) : (bkE u).length = 2 := rfl

/-- The slice with head a, of n blocks, reads in w as bs. -/
def RdB (w : World) (a : Option Addr) (n : Nat) (bs : List Bk) : Prop :=
  ∃ us : List Bv, RdR bkE 2 w a n us ∧ us.length = bs.length ∧ ∀ (j : Nat) (u : Bv) (b : Bk), us[j]? = some u → bs[j]? = some b → u.1 = b.1 ∧ ∃ a' c', u.2 = .slice a' b.2.length c' ∧ Rd .u8 w a' b.2.length b.2 ∧ b.2.length ≤ c' ∧ c' ≤ maxLen

section
variable {w w' : World} {a : Option Addr} {n : Nat} {bs : List Bk}

theorem RdB.len (h : RdB w a n bs) : bs.length = n := by
  obtain ⟨us, h1, h2, _⟩ := h
  rw [← h2]; exact h1.1

theorem RdB.below (h : RdB w a n bs) (hb : Below w.heap.size w w') : RdB w' a n bs := by
  obtain ⟨us, h1, h2, h3⟩ := h
  refine ⟨us, h1.below hb, h2, fun j u b hu hv => ?_⟩
  obtain ⟨e, a', c', e2, hr, hx⟩ := h3 j u b hu hv
  exact ⟨e, a', c', e2, hr.below hb, hx⟩

theorem RdB.at (h : RdB w a n bs) {j : Nat} (hj : j < n) :
    ∃ blk off num a' c' xs, a = some ⟨blk, off, none⟩ ∧ bs[j]? = some (num, xs) ∧ w.cell? ⟨blk, off + j * 2, none⟩ = some (.int .i64 num) ∧ w.cell? ⟨blk, off + j * 2 + 1, none⟩ = some (.slice a' xs.length c') ∧ Rd .u8 w a' xs.length xs ∧ xs.length ≤ c' ∧ c' ≤ maxLen := by
  have hlen := h.len
  obtain ⟨us, h1, h2, h3⟩ := h
  obtain ⟨blk, off, u, ha, hu, hc⟩ := h1.at hj
  have hj' : j < bs.length := by omega
  obtain ⟨e, a', c', e2, hr, hx⟩ := h3 j u bs[j] hu (by simp [hj'])
  refine ⟨blk, off, bs[j].1, a', c', bs[j].2, ha, by simp [hj'], ?_, ?_, hr, hx⟩
  · rw [← e]; exact hc 0 _ rfl
  · rw [← e2]; exact hc 1 _ rfl

theorem RdB.nil (w : World) (a : Option Addr) : RdB w a 0 [] := ⟨[], ⟨rfl, .inl rfl⟩, rfl, fun j u b hu => by simp at hu⟩
end

/-- A row of blocks that the call owns, between lo and hi; each block's bytes are a row of its own there. -/
def RowB (eB eU : TypeId) (w : World) (lo hi : Nat) (v : Value) (n : Nat) (bs : List Bk) : Prop :=
  ∃ us : List Bv, RowS bkE 2 eB w lo hi v n us ∧ us.length = bs.length ∧
    (∀ (j : Nat) (u : Bv) (b : Bk), us[j]? = some u → bs[j]? = some b → u.1 = b.1 ∧ RowI .u8 eU w lo hi u.2 b.2.length b.2) ∧
    ∀ (i j : Nat) (u u' : Bv), i ≠ j → us[i]? = some u → us[j]? = some u' → ∀ g, u.2.ownBlock = some g → u'.2.ownBlock ≠ some g

section
variable {eB eU : TypeId} {w w' : World} {lo hi n : Nat} {v : Value} {bs : List Bk}

theorem RowB.len (h : RowB eB eU w lo hi v n bs) : bs.length = n := by
  obtain ⟨us, h1, h2, _⟩ := h
  rw [← h2]; exact h1.len

theorem RowB.below (h : RowB eB eU w lo hi v n bs) (hb : Below w.heap.size w w') : RowB eB eU w' lo hi v n bs := by
  obtain ⟨us, h1, h2, h3, h4⟩ := h
  exact ⟨us, h1.below hb, h2, fun j u b hu hv => ⟨(h3 j u b hu hv).1, (h3 j u b hu hv).2.below hb⟩, h4⟩

theorem RowB.chg {lo' hi' : Nat} (h : RowB eB eU w lo hi v n bs) (hc : Chg lo' hi' w w') (hd : hi ≤ lo' ∨ hi' ≤ lo) : RowB eB eU w' lo hi v n bs := by
  obtain ⟨us, h1, h2, h3, h4⟩ := h
  exact ⟨us, h1.chg hc hd, h2, fun j u b hu hv => ⟨(h3 j u b hu hv).1, (h3 j u b hu hv).2.chg hc hd⟩, h4⟩

theorem RowB.mono {lo' hi' : Nat} (h : RowB eB eU w lo hi v n bs) (h1 : lo' ≤ lo) (h2 : hi ≤ hi') : RowB eB eU w lo' hi' v n bs := by
  obtain ⟨us, k1, k2, k3, k4⟩ := h
  exact ⟨us, k1.mono h1 h2, k2, fun j u b hu hv => ⟨(k3 j u b hu hv).1, (k3 j u b hu hv).2.mono h1 h2⟩, k4⟩

theorem RowB.shape (h : RowB eB eU w lo hi v n bs) : ∃ a cap, v = .slice a n cap ∧ n ≤ cap ∧ cap ≤ maxLen := by
  obtain ⟨us, h1, _⟩ := h
  exact RowS.shape bkE_len h1

theorem RowB.read {a : Option Addr} {c : Nat} (h : RowB eB eU w lo hi (.slice a n c) n bs) : RdB w a n bs := by
  obtain ⟨us, h1, h2, h3, _⟩ := h
  refine ⟨us, RowS.read bkE_len h1, h2, fun j u b hu hv => ?_⟩
  obtain ⟨e, hr⟩ := h3 j u b hu hv
  obtain ⟨a', c', e2, k1, k2⟩ := hr.shape
  rw [e2] at hr
  exact ⟨e, a', c', e2, hr.read, k1, k2⟩

theorem RowB.nil (eB eU : TypeId) (w : World) (lo hi : Nat) : RowB eB eU w lo hi (.slice none 0 0) 0 [] :=
  ⟨[], RowS.nil _ _ _ _ _ _, rfl, fun j u b hu => by simp at hu, fun i j u u' _ hu => by simp at hu⟩

/-- A row just made: blocks of number nought and no bytes. -/
theorem RowB.zeros {g cap : Nat} (h : w.ownsRow lo eB 2 (.slice (some ⟨g, 0, none⟩) n cap) n ((List.replicate n ((0 : Int), Value.slice none 0 0)).flatMap bkE)) (hg : g < hi) :
    RowB eB eU w lo hi (.slice (some ⟨g, 0, none⟩) n cap) n (List.replicate n (0, [])) := by
  refine ⟨List.replicate n (0, .slice none 0 0), ⟨⟨by simp, h⟩, fun j hj => ?_⟩, by simp, fun j u b hu hv => ?_, fun i j u u' _ hu hu' g' hg' => ?_⟩
  · simp [Value.ownBlock] at hj; omega
  · simp [List.getElem?_replicate] at hu hv
    rw [← hu.2, ← hv.2]
    exact ⟨rfl, RowI.nil _ _ _ _ _⟩
  · simp [List.getElem?_replicate] at hu
    rw [← hu.2] at hg'
    simp [Value.ownBlock] at hg'

/-- A whole block is stored: its bytes lie behind all that the row had. -/
theorem RowB.set {g cap j lo' hi' : Nat} {num : Int} {u : Value} {xs : List Int} (hne : eB ≠ eU) (h : RowB eB eU w lo hi (.slice (some ⟨g, 0, none⟩) n cap) n bs) (hj : j < n) (hu : RowI .u8 eU w lo' hi' u xs.length xs) (hd : hi ≤ lo') (hl : lo ≤ lo') (hh : hi ≤ hi') :
    RowB eB eU ((w.setCell ⟨g, j * 2, none⟩ (.int .i64 num)).setCell ⟨g, j * 2 + 1, none⟩ u) lo hi' (.slice (some ⟨g, 0, none⟩) n cap) n (bs.set j (num, xs)) ∧
      w.grownBy ((w.setCell ⟨g, j * 2, none⟩ (.int .i64 num)).setCell ⟨g, j * 2 + 1, none⟩ u) (some g) ∧ lo ≤ g ∧ g < hi := by
  obtain ⟨us, h1, h2, h3, h4⟩ := h
  have hn := h1.len
  have hj' : j < us.length := by omega
  have hx : us[j]? = some us[j] := by simp [hj']
  have s0 := OwnR.store (f := 0) (u := .int .i64 num) (y := (num, us[j].2)) bkE_len h1.1 hx (by omega) rfl
  have x1 : (us.set j (num, us[j].2))[j]? = some (num, us[j].2) := by simp [hj']
  have s1 := OwnR.store (f := 1) (u := u) (y := (num, u)) bkE_len s0.1 x1 (by omega) rfl
  rw [List.set_set] at s1
  have hg : w.grownBy ((w.setCell ⟨g, j * 2, none⟩ (.int .i64 num)).setCell ⟨g, j * 2 + 1, none⟩ u) (some g) :=
    ⟨s1.2.os.trans s0.2.os, s1.2.tape.trans s0.2.tape, s1.2.output.trans s0.2.output, Nat.le_trans s0.2.size s1.2.size, fun i hi hr => (s1.2.block i (Nat.lt_of_lt_of_le hi s0.2.size) hr).trans (s0.2.block i hi hr)⟩
  have hglo := (h1.1.lt g rfl).1
  have hghi := h1.2 g rfl
  have keep : ∀ {v' : Value} {m : Nat} {ys : List Int} {l k : Nat}, RowI .u8 eU w l k v' m ys → RowI .u8 eU ((w.setCell ⟨g, j * 2, none⟩ (.int .i64 num)).setCell ⟨g, j * 2 + 1, none⟩ u) l k v' m ys := fun hr =>
    ⟨Own.kept hr.1 hg (fun i hi e => by
      have e' : g = i := by simpa using e
      subst e'
      exact rows_apart hr.1 h1.1.2 (Ne.symm hne) g hi rfl), hr.2⟩
  refine ⟨⟨us.set j (num, u), ⟨s1.1, fun i hi' => by have := h1.2 i hi'; omega⟩, by simp [h2], ?_, ?_⟩, hg, hglo, hghi⟩
  · intro i y b hy hb
    by_cases e : i = j
    · subst e
      have e1 : y = (num, u) := by simpa [hj'] using hy.symm
      have hjb : i < bs.length := by omega
      have e2 : b = (num, xs) := by simpa [hjb] using hb.symm
      subst e1 e2
      exact ⟨rfl, (keep hu).mono hl (Nat.le_refl _)⟩
    · rw [List.getElem?_set_ne (Ne.symm e)] at hy hb
      exact ⟨(h3 i y b hy hb).1, (keep (h3 i y b hy hb).2).mono (Nat.le_refl _) hh⟩
  · have old : ∀ i y, i ≠ j → us[i]? = some y → ∀ g', y.2.ownBlock = some g' → g' < hi := fun i y hi hy g' hg' => by
      have : i < bs.length := by rw [← h2]; exact (List.getElem?_eq_some_iff.1 hy).1
      exact (h3 i y bs[i] hy (by simp [this])).2.2 g' hg'
    intro i i' y y' hne' hy hy' g' hg' hg2
    by_cases e : i = j
    · subst e
      have e1 : y = (num, u) := by simpa [hj'] using hy.symm
      rw [List.getElem?_set_ne hne'] at hy'
      subst e1
      have k1 := (hu.1.lt g' hg').1
      have k2 := old i' y' (Ne.symm hne') hy' g' hg2
      omega
    · rw [List.getElem?_set_ne (Ne.symm e)] at hy
      by_cases e' : i' = j
      · subst e'
        have e1 : y' = (num, u) := by simpa [hj'] using hy'.symm
        subst e1
        have k1 := (hu.1.lt g' hg2).1
        have k2 := old i y e hy g' hg'
        omega
      · rw [List.getElem?_set_ne (Ne.symm e')] at hy'
        exact h4 i i' y y' hne' hy hy' g' hg' hg2

theorem bkE_one (num : Int) (a : Option Addr) (m c : Nat) : ∀ u ∈ bkE (num, .slice a m c), u.oneCell' = true := by
  intro u hu
  simp [bkE] at hu
  rcases hu with rfl | rfl <;> rfl

/-- What the row holds, and one block more: the appended row, and the bytes of the new one, which lie behind all that the row had. -/
theorem RowB.snoc {v' u : Value} {num : Int} {xs : List Int} {lo' hi' : Nat} (hne : eB ≠ eU) (h : RowB eB eU w lo hi v n bs) (hu : RowI .u8 eU w lo' hi' u xs.length xs) (hd : hi ≤ lo') (hl : lo ≤ lo') (hs : hi' ≤ w.heap.size)
    (happ : ∀ us : List Bv, w.ownsRow lo eB 2 v n (us.flatMap bkE) → w'.ownsRow lo eB 2 v' (n + 1) (us.flatMap bkE ++ bkE (num, u))) (hg : w.grownBy w' v.ownBlock) :
    RowB eB eU w' lo w'.heap.size v' (n + 1) (bs ++ [(num, xs)]) := by
  obtain ⟨us, h1, h2, h3, h4⟩ := h
  have hn := h1.len
  have ho := happ us h1.1.2
  have hz : w.heap.size ≤ w'.heap.size := hg.size
  have hhi : ∀ g, v.ownBlock = some g → g < hi := h1.2
  have keep : ∀ {v1 : Value} {m : Nat} {ys : List Int} {l k : Nat}, RowI .u8 eU w l k v1 m ys → RowI .u8 eU w' l k v1 m ys := fun hr =>
    ⟨Own.kept hr.1 hg (fun i hi e => rows_apart hr.1 h1.1.2 (Ne.symm hne) i hi e), hr.2⟩
  have olt : ∀ {v1 : Value} {m : Nat} {ys : List Int} {l k : Nat}, RowI .u8 eU w l k v1 m ys → RowI .u8 eU w' l w'.heap.size v1 m ys := fun hr =>
    ⟨(keep hr).1, fun i hi => by have := (hr.1.lt i hi).2; omega⟩
  have hcut : ∀ {α : Type} (l : List α) (y : α) (i : Nat) (z : α), (l ++ [y])[i]? = some z → (i < l.length ∧ l[i]? = some z) ∨ (i = l.length ∧ z = y) := by
    intro α l y i z hz
    by_cases hi : i < l.length
    · rw [List.getElem?_append_left hi] at hz; exact .inl ⟨hi, hz⟩
    · rw [List.getElem?_append_right (by omega)] at hz
      have : i - l.length = 0 := by
        have := (List.getElem?_eq_some_iff.1 hz).1
        simp at this; omega
      rw [this] at hz
      simp at hz
      exact .inr ⟨by omega, hz.symm⟩
  refine ⟨us ++ [(num, u)], ⟨⟨by simp [hn], ?_⟩, fun i hi' => (World.ownsRow.lt ho i hi').2⟩, by simp [h2], ?_, ?_⟩
  · rw [List.flatMap_append]
    simpa using ho
  · intro i y b hy hb
    rcases hcut _ _ _ _ hy with ⟨i1, k1⟩ | ⟨i1, k1⟩
    · rcases hcut _ _ _ _ hb with ⟨_, k2⟩ | ⟨i2, _⟩
      · exact ⟨(h3 i y b k1 k2).1, olt (h3 i y b k1 k2).2⟩
      · omega
    · rcases hcut _ _ _ _ hb with ⟨i2, _⟩ | ⟨_, k2⟩
      · omega
      · subst k1 k2
        exact ⟨rfl, (olt hu).mono hl (Nat.le_refl _)⟩
  · have old : ∀ (i : Nat) (y : Bv), us[i]? = some y → ∀ g', y.2.ownBlock = some g' → g' < hi := fun i y hy g' hg' => by
      have : i < bs.length := by rw [← h2]; exact (List.getElem?_eq_some_iff.1 hy).1
      exact (h3 i y bs[i] hy (by simp [this])).2.2 g' hg'
    intro i i' y y' hne' hy hy' g' hg' hg2
    rcases hcut _ _ _ _ hy with ⟨i1, k1⟩ | ⟨i1, k1⟩ <;> rcases hcut _ _ _ _ hy' with ⟨i2, k2⟩ | ⟨i2, k2⟩
    · exact h4 i i' y y' hne' k1 k2 g' hg' hg2
    · subst k2
      have q1 := (hu.1.lt g' hg2).1
      have q2 := old i y k1 g' hg'
      omega
    · subst k1
      have q1 := (hu.1.lt g' hg').1
      have q2 := old i' y' k2 g' hg2
      omega
    · omega
end
end Go.Proofs.Ytckkkhabjfbngaa
