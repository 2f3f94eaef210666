/-
  Nest, TabM, TabF, SlEq in one text.
-/
import Derived.Test.YtocophekfbhfbaaChg
import Derived.Test.YtocophekfbhfbaaLinesM
import Derived.Test.YtocophekfbhfbaaHlpA
import Derived.Test.YtocophekfbhfbaaInstM
import Derived.Test.YtocophekfbhfbaaHlp1
namespace Go.Proofs.Ytocophekfbhfbaa
open Go.RowKit
set_option linter.unusedVariables false
set_option linter.unusedSimpArgs false

/-- A row that the call owns hangs on its own block alone. -/
theorem ownsRow_at {w w' : World} {base : Nat} {e : TypeId} {size n : Nat} {v : Value} {xs : List Value} (h : w.ownsRow base e size v n xs) (hk : ∀ g, v.ownBlock = some g → w'.heap[g]? = w.heap[g]?) : w'.ownsRow base e size v n xs := by
  obtain ⟨h1, h2⟩ := h
  refine ⟨h1, ?_⟩
  rcases h2 with h2 | ⟨g, cap, cur, rfl, hg, hh, r⟩
  · exact .inl h2
  · exact .inr ⟨g, cap, cur, rfl, hg, (hk g rfl).trans hh, r⟩

/-- The row that an element has: the slice, and the block that it owns; 'weak': an empty slice may have whatever head. -/
def SubV (weak : Bool) (e : TypeId) (size : Nat) (w : World) (lo hi : Nat) (s : Value × Option Nat) (n : Nat) (vs : List Value) : Prop :=
  (s.2 = none ∧ n = 0 ∧ vs = [] ∧ ∃ a, s.1 = .slice a 0 0 ∧ (weak = false → a = none)) ∨
  (∃ g cap, s = (.slice (some ⟨g, 0, none⟩) n cap, some g) ∧ g < hi ∧ w.ownsRow lo e size (.slice (some ⟨g, 0, none⟩) n cap) n vs)

section
variable {weak : Bool} {e : TypeId} {size : Nat} {w w' : World} {lo hi n : Nat} {s : Value × Option Nat} {vs : List Value}

theorem SubV.kept (h : SubV weak e size w lo hi s n vs) (hk : ∀ g, s.2 = some g → w'.heap[g]? = w.heap[g]?) : SubV weak e size w' lo hi s n vs := by
  rcases h with h | ⟨g, cap, rfl, hh, ho⟩
  · exact .inl h
  · exact .inr ⟨g, cap, rfl, hh, ownsRow_at ho (fun g' hg => by simp [Value.ownBlock] at hg; subst hg; exact hk _ rfl)⟩

theorem SubV.move {lo' hi' : Nat} (h : SubV weak e size w lo hi s n vs) (hb : ∀ g, s.2 = some g → lo' ≤ g ∧ g < hi') : SubV weak e size w lo' hi' s n vs := by
  rcases h with h | ⟨g, cap, rfl, hh, ho⟩
  · exact .inl h
  · have h1 := hb g rfl
    refine .inr ⟨g, cap, rfl, h1.2, ho.1, ?_⟩
    rcases ho.2 with h0 | ⟨g', cap', cur, hv, hg, r⟩
    · exact .inl h0
    · refine .inr ⟨g', cap', cur, hv, ?_, r⟩
      simp at hv
      omega

theorem SubV.inn (h : SubV weak e size w lo hi s n vs) : ∀ g, s.2 = some g → lo ≤ g ∧ g < hi ∧ g < w.heap.size := by
  rcases h with h | ⟨g, cap, rfl, hh, ho⟩
  · intro g hg; rw [h.1] at hg; cases hg
  · intro g' hg
    cases hg
    have := World.ownsRow.lt ho g rfl
    omega

theorem SubV.mono {lo' hi' : Nat} (h : SubV weak e size w lo hi s n vs) (h1 : lo' ≤ lo) (h2 : hi ≤ hi') : SubV weak e size w lo' hi' s n vs :=
  h.move (fun g hg => by have := h.inn g hg; omega)

theorem SubV.apart {e' : TypeId} (hne : e ≠ e') (h : SubV weak e size w lo hi s n vs) : ∀ g, s.2 = some g → ∀ cs q, w.heap[g]? ≠ some (.cells cs e' q) := by
  rcases h with h | ⟨g, cap, rfl, hh, ho⟩
  · intro g hg; rw [h.1] at hg; cases hg
  · intro g' hg cs q hc
    cases hg
    rcases ho.2 with h0 | ⟨g', cap', cur, hv, _, hcur, _⟩
    · simp at h0
    · simp at hv
      rw [← hv.1, hc] at hcur
      simp at hcur
      exact hne hcur.2.1.symm

theorem SubV.weaken (h : SubV weak e size w lo hi s n vs) : SubV true e size w lo hi s n vs := by
  rcases h with ⟨h1, h2, h3, a, h4, _⟩ | h
  · exact .inl ⟨h1, h2, h3, a, h4, by simp⟩
  · exact .inr h

theorem SubV.shape (h : SubV weak e size w lo hi s n vs) : ∃ a cap, s.1 = .slice a n cap ∧ n ≤ cap ∧ cap ≤ maxLen := by
  rcases h with ⟨h1, rfl, h3, a, h4, _⟩ | ⟨g, cap, rfl, hh, ho⟩
  · exact ⟨a, 0, h4, Nat.le_refl _, by simp [maxLen]⟩
  · rcases ho.2 with h0 | ⟨g', cap', cur, hv, _, _, h1, h2, _⟩
    · simp at h0
    · simp at hv
      exact ⟨_, cap, rfl, by omega, by omega⟩

theorem SubV.nil (weak : Bool) (e : TypeId) (size : Nat) (w : World) (lo hi : Nat) : SubV weak e size w lo hi (.slice none 0 0, none) 0 [] :=
  .inl ⟨rfl, rfl, rfl, none, rfl, fun _ => rfl⟩

theorem SubV.of {v : Value} (h : w.ownsRow lo e size v n vs) (hv : ∀ j, v.ownBlock = some j → j < hi) : SubV weak e size w lo hi (v, v.ownBlock) n vs := by
  rcases h.2 with ⟨rfl, rfl⟩ | ⟨g, cap, cur, rfl, r⟩
  · refine .inl ⟨rfl, rfl, ?_, none, rfl, fun _ => rfl⟩
    have := h.1
    rw [Nat.zero_mul] at this
    exact List.eq_nil_of_length_eq_zero this
  · exact .inr ⟨g, cap, rfl, hv g rfl, h⟩

/-- A strong one is a row that the call owns. -/
theorem SubV.row (h : SubV false e size w lo hi s n vs) : w.ownsRow lo e size s.1 n vs ∧ s.2 = s.1.ownBlock ∧ ∀ j, s.1.ownBlock = some j → j < hi := by
  rcases h with ⟨h1, rfl, rfl, a, h4, h5⟩ | ⟨g, cap, rfl, hh, ho⟩
  · rw [h4, h5 rfl, h1]
    exact ⟨World.ownsRow_nil _ _ _ _, rfl, fun j hj => by simp [Value.ownBlock] at hj⟩
  · exact ⟨ho, rfl, fun j hj => by simp [Value.ownBlock] at hj; omega⟩
end

/-- A row of integers, of structs, that an element has. -/
def SubI (weak : Bool) (k : IntKind) (e : TypeId) (w : World) (lo hi : Nat) (s : Value × Option Nat) (xs : List Int) : Prop := SubV weak e 1 w lo hi s xs.length (xs.map (Value.int k))
def SubS {α : Type} (weak : Bool) (enc : α → List Value) (size : Nat) (e : TypeId) (w : World) (lo hi : Nat) (s : Value × Option Nat) (xs : List α) : Prop := SubV weak e size w lo hi s xs.length (xs.flatMap enc)

section
variable {α : Type} {enc : α → List Value} {weak : Bool} {k : IntKind} {e : TypeId} {size : Nat} {w w' : World} {lo hi n : Nat} {s : Value × Option Nat}

theorem SubI.of {v : Value} {xs : List Int} (h : RowI k e w lo hi v n xs) : SubI weak k e w lo hi (v, v.ownBlock) xs := by
  have hn := h.len
  subst hn
  exact SubV.of h.1 h.2
theorem SubS.of {v : Value} {xs : List α} (h : RowS enc size e w lo hi v n xs) : SubS weak enc size e w lo hi (v, v.ownBlock) xs := by
  have hn := h.len
  subst hn
  exact SubV.of h.1.2 h.2
theorem SubI.row {xs : List Int} (h : SubI false k e w lo hi s xs) : RowI k e w lo hi s.1 xs.length xs ∧ s.2 = s.1.ownBlock := by
  obtain ⟨h1, h2, h3⟩ := SubV.row h
  exact ⟨⟨h1, h3⟩, h2⟩
theorem SubS.row {xs : List α} (h : SubS false enc size e w lo hi s xs) : RowS enc size e w lo hi s.1 xs.length xs ∧ s.2 = s.1.ownBlock := by
  obtain ⟨h1, h2, h3⟩ := SubV.row h
  exact ⟨⟨⟨rfl, h1⟩, h3⟩, h2⟩

theorem SubI.read {xs : List Int} {a : Option Addr} {c : Nat} (h : SubI weak k e w lo hi s xs) (hs : s.1 = .slice a xs.length c) : Rd k w a xs.length xs := by
  rcases h with ⟨h1, h2, h3, _⟩ | ⟨g, cap, rfl, hh, ho⟩
  · exact ⟨rfl, .inl h2⟩
  · simp at hs
    obtain ⟨rfl, rfl⟩ := hs
    exact Own.read (e := e) (base := lo) (c := cap) ho
theorem SubS.read {xs : List α} {a : Option Addr} {c : Nat} (he : ∀ x, (enc x).length = size) (h : SubS weak enc size e w lo hi s xs) (hs : s.1 = .slice a xs.length c) : RdR enc size w a xs.length xs := by
  rcases h with ⟨h1, h2, h3, _⟩ | ⟨g, cap, rfl, hh, ho⟩
  · exact ⟨rfl, .inl h2⟩
  · simp at hs
    obtain ⟨rfl, rfl⟩ := hs
    exact OwnR.read (e := e) (base := lo) (c := cap) he ⟨rfl, ho⟩
end

/-- What a kind of elements keeps: El says that u stands for x, and that the blocks blk u, which lie between lo and hi, are its own; none is of the type e. -/
structure ElOk {σ α : Type} (El : World → Nat → Nat → σ → α → Prop) (blk : σ → List Nat) (e : TypeId) : Prop where
  kept : ∀ {w w' : World} {lo hi : Nat} {u : σ} {x : α}, El w lo hi u x → (∀ g ∈ blk u, w'.heap[g]? = w.heap[g]?) → El w' lo hi u x
  move : ∀ {w : World} {lo hi lo' hi' : Nat} {u : σ} {x : α}, El w lo hi u x → (∀ g ∈ blk u, lo' ≤ g ∧ g < hi') → El w lo' hi' u x
  inn : ∀ {w : World} {lo hi : Nat} {u : σ} {x : α}, El w lo hi u x → ∀ g ∈ blk u, lo ≤ g ∧ g < hi ∧ g < w.heap.size
  apart : ∀ {w : World} {lo hi : Nat} {u : σ} {x : α}, El w lo hi u x → ∀ g ∈ blk u, ∀ cs q, w.heap[g]? ≠ some (.cells cs e q)

/-- A row that the call owns, between lo and hi, whose elements have rows of their own there. -/
def RowN {σ α : Type} (El : World → Nat → Nat → σ → α → Prop) (blk : σ → List Nat) (cells : σ → List Value) (size : Nat) (e : TypeId) (w : World) (lo hi : Nat) (v : Value) (n : Nat) (xs : List α) : Prop :=
  ∃ us : List σ, RowS cells size e w lo hi v n us ∧ us.length = xs.length ∧ (∀ (j : Nat) (u : σ) (x : α), us[j]? = some u → xs[j]? = some x → El w lo hi u x) ∧
    ∀ (i j : Nat) (u u' : σ), i ≠ j → us[i]? = some u → us[j]? = some u' → ∀ g ∈ blk u, g ∉ blk u'

section
variable {σ α : Type} {El : World → Nat → Nat → σ → α → Prop} {blk : σ → List Nat} {cells : σ → List Value} {size : Nat} {e : TypeId} {w w' : World} {lo hi n : Nat} {v : Value} {xs : List α}

theorem ElOk.mono (H : ElOk El blk e) {u : σ} {x : α} {lo' hi' : Nat} (h : El w lo hi u x) (h1 : lo' ≤ lo) (h2 : hi ≤ hi') : El w lo' hi' u x :=
  H.move h (fun g hg => by have := H.inn h g hg; omega)
theorem ElOk.chg (H : ElOk El blk e) {u : σ} {x : α} {lo' hi' : Nat} (h : El w lo hi u x) (hc : Chg lo' hi' w w') (hd : hi ≤ lo' ∨ hi' ≤ lo) : El w' lo hi u x :=
  H.kept h (fun g hg => by have := H.inn h g hg; exact hc.block g this.2.2 (by omega))
theorem ElOk.below (H : ElOk El blk e) {u : σ} {x : α} (h : El w lo hi u x) (hb : Below w.heap.size w w') : El w' lo hi u x :=
  H.kept h (fun g hg => hb.block g (H.inn h g hg).2.2)
theorem ElOk.grown (H : ElOk El blk e) {u : σ} {x : α} {row : Option Nat} (h : El w lo hi u x) (hg : w.grownBy w' row) (hr : ∀ g ∈ blk u, row ≠ some g) : El w' lo hi u x :=
  H.kept h (fun g hgm => hg.block g (H.inn h g hgm).2.2 (fun e => hr g hgm e.symm))

theorem RowN.len (h : RowN El blk cells size e w lo hi v n xs) : xs.length = n := by
  obtain ⟨us, h1, h2, _⟩ := h
  rw [← h2]; exact h1.len
theorem RowN.below (H : ElOk El blk e) (h : RowN El blk cells size e w lo hi v n xs) (hb : Below w.heap.size w w') : RowN El blk cells size e w' lo hi v n xs := by
  obtain ⟨us, h1, h2, h3, h4⟩ := h
  exact ⟨us, h1.below hb, h2, fun j u x hu hx => H.below (h3 j u x hu hx) hb, h4⟩
theorem RowN.chg (H : ElOk El blk e) {lo' hi' : Nat} (h : RowN El blk cells size e w lo hi v n xs) (hc : Chg lo' hi' w w') (hd : hi ≤ lo' ∨ hi' ≤ lo) : RowN El blk cells size e w' lo hi v n xs := by
  obtain ⟨us, h1, h2, h3, h4⟩ := h
  exact ⟨us, h1.chg hc hd, h2, fun j u x hu hx => H.chg (h3 j u x hu hx) hc hd, h4⟩
theorem RowN.mono (H : ElOk El blk e) {lo' hi' : Nat} (h : RowN El blk cells size e w lo hi v n xs) (h1 : lo' ≤ lo) (h2 : hi ≤ hi') : RowN El blk cells size e w lo' hi' v n xs := by
  obtain ⟨us, k1, k2, k3, k4⟩ := h
  exact ⟨us, k1.mono h1 h2, k2, fun j u x hu hx => H.mono (k3 j u x hu hx) h1 h2, k4⟩
theorem RowN.shape (hE : ∀ u, (cells u).length = size) (h : RowN El blk cells size e w lo hi v n xs) : ∃ a cap, v = .slice a n cap ∧ n ≤ cap ∧ cap ≤ maxLen := by
  obtain ⟨us, h1, _⟩ := h
  exact RowS.shape hE h1
theorem RowN.nil (w : World) (lo hi : Nat) : RowN El blk cells size e w lo hi (.slice none 0 0) 0 [] :=
  ⟨[], RowS.nil _ _ _ _ _ _, rfl, fun j u x hu => by simp at hu, fun i j u u' _ hu => by simp at hu⟩
theorem RowN.frozen {g cap : Nat} (h : RowN El blk cells size e w lo hi (.slice (some ⟨g, 0, none⟩) n cap) n xs) (j : Nat) : w.frozen? ⟨g, j, none⟩ = false := by
  obtain ⟨us, h1, _⟩ := h
  exact h1.1.frozen j
theorem RowN.cases (h : RowN El blk cells size e w lo hi v n xs) : (v = .slice none 0 0 ∧ n = 0 ∧ xs = []) ∨ ∃ g cap, v = .slice (some ⟨g, 0, none⟩) n cap ∧ lo ≤ g ∧ g < hi ∧ g < w.heap.size := by
  have hl := h.len
  obtain ⟨us, h1, _⟩ := h
  have hlt := h1.1.lt
  have hhi := h1.2
  rcases h1.1.2.2 with ⟨rfl, rfl⟩ | ⟨g, cap, cur, rfl, _⟩
  · exact .inl ⟨rfl, rfl, List.eq_nil_of_length_eq_zero hl⟩
  · exact .inr ⟨g, cap, rfl, (hlt g rfl).1, hhi g rfl, (hlt g rfl).2⟩

/-- The elements' own blocks are no block of the row's. -/
theorem RowN.own (H : ElOk El blk e) {us : List σ} {g cap : Nat} (h1 : RowS cells size e w lo hi (.slice (some ⟨g, 0, none⟩) n cap) n us) {u : σ} {x : α} (h : El w lo hi u x) : g ∉ blk u := by
  intro hm
  rcases h1.1.2.2 with h0 | ⟨g', cap', cur, hv, _, hcur, _⟩
  · simp at h0
  · simp at hv
    exact H.apart h g hm cur (0, 0) (by rw [hv.1]; exact hcur)

/-- One element, and the way back behind a change of what it owns. -/
theorem RowN.elem (H : ElOk El blk e) (hE : ∀ u, (cells u).length = size) {g cap j : Nat} {x : α} (h : RowN El blk cells size e w lo hi (.slice (some ⟨g, 0, none⟩) n cap) n xs) (hj : xs[j]? = some x) :
    ∃ u, (∀ f y, (cells u)[f]? = some y → w.cell? ⟨g, j * size + f, none⟩ = some y) ∧ El w lo hi u x ∧
      ∀ w' y row, w.grownBy w' row → (∀ b, row = some b → b ∈ blk u) → El w' lo hi u y → RowN El blk cells size e w' lo hi (.slice (some ⟨g, 0, none⟩) n cap) n (xs.set j y) := by
  obtain ⟨us, h1, h2, h3, h4⟩ := h
  have hjb : j < xs.length := (List.getElem?_eq_some_iff.1 hj).1
  have hju : j < us.length := by omega
  have hx : us[j]? = some us[j] := by simp [hju]
  have hel := h3 j us[j] x hx hj
  refine ⟨us[j], fun f y hy => OwnR.cell hE h1.1 hx hy, hel, fun w' y row hg hr hel' => ?_⟩
  have hgn := RowN.own H h1 hel
  refine ⟨us, ⟨⟨h1.1.1, World.ownsRow.kept h1.1.2 hg (.inr (fun e1 => ?_))⟩, h1.2⟩, by simp [h2], ?_, h4⟩
  · exact hgn (hr g (by simpa [Value.ownBlock] using e1.symm))
  · intro i u' x' hu' hx'
    by_cases e1 : i = j
    · subst e1
      have e3 : u' = us[i] := by rw [hx] at hu'; simpa using hu'.symm
      have e4 : x' = y := by simpa [hjb] using hx'.symm
      subst e3 e4
      exact hel'
    · rw [List.getElem?_set_ne (Ne.symm e1)] at hx'
      exact H.grown (h3 i u' x' hu' hx') hg (fun b hb e2 => h4 j i us[j] u' (Ne.symm e1) hx hu' b (hr b e2) hb)

/-- A whole element is stored: what it owns lies behind all that the row had, or it was the element's own. -/
theorem RowN.set (H : ElOk El blk e) {g cap j hi' : Nat} {x' : α} {u' : σ} (h : RowN El blk cells size e w lo hi (.slice (some ⟨g, 0, none⟩) n cap) n xs) (hj : j < n)
    (hst : ∀ us : List σ, ∀ u, OwnR cells size e w lo (.slice (some ⟨g, 0, none⟩) n cap) n us → us[j]? = some u → OwnR cells size e w' lo (.slice (some ⟨g, 0, none⟩) n cap) n (us.set j u')) (hg : w.grownBy w' (some g))
    (hel : El w lo hi' u' x') (hd : ∀ b ∈ blk u', hi ≤ b) (hh : hi ≤ hi') (hgn : g ∉ blk u') :
    RowN El blk cells size e w' lo hi' (.slice (some ⟨g, 0, none⟩) n cap) n (xs.set j x') := by
  obtain ⟨us, h1, h2, h3, h4⟩ := h
  have hn := h1.len
  have hj' : j < us.length := by omega
  have hx : us[j]? = some us[j] := by simp [hj']
  have s1 := hst us us[j] h1.1 hx
  have old : ∀ (i : Nat) (y : σ), us[i]? = some y → ∀ b ∈ blk y, b < hi := fun i y hy b hb => by
    have : i < xs.length := by rw [← h2]; exact (List.getElem?_eq_some_iff.1 hy).1
    exact (H.inn (h3 i y xs[i] hy (by simp [this])) b hb).2.1
  refine ⟨us.set j u', ⟨s1, fun i hi1 => by have := h1.2 i hi1; omega⟩, by simp [h2], ?_, ?_⟩
  · intro i y z hy hz
    by_cases e1 : i = j
    · subst e1
      have e3 : y = u' := by simpa [hj'] using hy.symm
      have hjx : i < xs.length := by omega
      have e4 : z = x' := by simpa [hjx] using hz.symm
      subst e3 e4
      exact H.grown hel hg (fun b hb e2 => hgn (by cases e2; exact hb))
    · rw [List.getElem?_set_ne (Ne.symm e1)] at hy hz
      have h5 := h3 i y z hy hz
      exact H.mono (H.grown h5 hg (fun b hb e2 => RowN.own H h1 h5 (by cases e2; exact hb))) (Nat.le_refl _) hh
  · intro i i' y y' hne hy hy' b hb hb'
    by_cases e1 : i = j
    · subst e1
      have e3 : y = u' := by simpa [hj'] using hy.symm
      subst e3
      rw [List.getElem?_set_ne hne] at hy'
      have q1 := hd b hb
      have q2 := old i' y' hy' b hb'
      omega
    · rw [List.getElem?_set_ne (Ne.symm e1)] at hy
      by_cases e2 : i' = j
      · subst e2
        have e3 : y' = u' := by simpa [hj'] using hy'.symm
        subst e3
        have q1 := hd b hb'
        have q2 := old i y hy b hb
        omega
      · rw [List.getElem?_set_ne (Ne.symm e2)] at hy'
        exact h4 i i' y y' hne hy hy' b hb hb'

/-- One element more, whose own blocks lie behind all that the row had. -/
theorem RowN.snoc (H : ElOk El blk e) {v' : Value} {u' : σ} {x' : α} {hi' : Nat} (h : RowN El blk cells size e w lo hi v n xs) (hel : El w lo hi' u' x') (hd : ∀ b ∈ blk u', hi ≤ b) (hgn : ∀ g, v.ownBlock = some g → g ∉ blk u')
    (happ : ∀ us : List σ, w.ownsRow lo e size v n (us.flatMap cells) → w'.ownsRow lo e size v' (n + 1) (us.flatMap cells ++ cells u')) (hg : w.grownBy w' v.ownBlock) :
    RowN El blk cells size e w' lo w'.heap.size v' (n + 1) (xs ++ [x']) := by
  obtain ⟨us, h1, h2, h3, h4⟩ := h
  have hn := h1.len
  have ho := happ us h1.1.2
  have hz : w.heap.size ≤ w'.heap.size := hg.size
  have hno : ∀ {u : σ} {x : α}, El w lo hi u x → ∀ b ∈ blk u, v.ownBlock ≠ some b := by
    intro u x hu b hb hv
    rcases h1.1.2.2 with ⟨rfl, _⟩ | ⟨g, cap, cur, rfl, _⟩
    · simp [Value.ownBlock] at hv
    · simp [Value.ownBlock] at hv
      subst hv
      exact RowN.own H h1 hu hb
  have hcut : ∀ {β : Type} (l : List β) (y : β) (i : Nat) (z : β), (l ++ [y])[i]? = some z → (i < l.length ∧ l[i]? = some z) ∨ (i = l.length ∧ z = y) := by
    intro β l y i z hz
    by_cases hi : i < l.length
    · rw [List.getElem?_append_left hi] at hz; exact .inl ⟨hi, hz⟩
    · rw [List.getElem?_append_right (by omega)] at hz
      have : i - l.length = 0 := by
        have := (List.getElem?_eq_some_iff.1 hz).1
        simp at this; omega
      rw [this] at hz
      simp at hz
      exact .inr ⟨by omega, hz.symm⟩
  have up : ∀ {u : σ} {x : α} {l k : Nat}, El w' l k u x → El w' l w'.heap.size u x := fun q =>
    H.move q (fun b hb => by have := H.inn q b hb; omega)
  refine ⟨us ++ [u'], ⟨⟨by simp [hn], ?_⟩, fun i hi' => (World.ownsRow.lt ho i hi').2⟩, by simp [h2], ?_, ?_⟩
  · rw [List.flatMap_append]
    simpa using ho
  · intro i y z hy hz1
    rcases hcut _ _ _ _ hy with ⟨i1, k1⟩ | ⟨i1, k1⟩
    · rcases hcut _ _ _ _ hz1 with ⟨_, k2⟩ | ⟨i2, _⟩
      · have h5 := h3 i y z k1 k2
        exact up (H.grown h5 hg (fun b hb e1 => hno h5 b hb e1))
      · omega
    · rcases hcut _ _ _ _ hz1 with ⟨i2, _⟩ | ⟨_, k2⟩
      · omega
      · subst k1 k2
        exact up (H.grown hel hg (fun b hb e1 => hgn b e1 hb))
  · have old : ∀ (i : Nat) (y : σ), us[i]? = some y → ∀ b ∈ blk y, b < hi := fun i y hy b hb => by
      have : i < xs.length := by rw [← h2]; exact (List.getElem?_eq_some_iff.1 hy).1
      exact (H.inn (h3 i y xs[i] hy (by simp [this])) b hb).2.1
    intro i i' y y' hne' hy hy' b hb hb'
    rcases hcut _ _ _ _ hy with ⟨i1, k1⟩ | ⟨i1, k1⟩ <;> rcases hcut _ _ _ _ hy' with ⟨i2, k2⟩ | ⟨i2, k2⟩
    · exact h4 i i' y y' hne' k1 k2 b hb hb'
    · subst k2
      have q1 := hd b hb'
      have q2 := old i y k1 b hb
      omega
    · subst k1
      have q1 := hd b hb
      have q2 := old i' y' k2 b hb'
      omega
    · omega
end
end Go.Proofs.Ytocophekfbhfbaa

namespace Go.Proofs.Ytocophekfbhfbaa
open Go.RowKit
set_option linter.unusedVariables false
set_option linter.unusedSimpArgs false

/-- A state as read: its set and its arcs. -/
abbrev St := List Int × List L2
/-- A state as it stands: two slices. -/
abbrev Sv := Value × Value
def svE (u : Sv) : List Value := [u.1, u.2]
theorem svE_len (u : Sv) : (svE u).length = 2 := rfl
/-- As the call owns it: with the blocks of the two. -/
abbrev Su := (Value × Option Nat) × (Value × Option Nat)
def suE (u : Su) : List Value := [u.1.1, u.2.1]
theorem suE_len (u : Su) : (suE u).length = 2 := rfl
def suB (u : Su) : List Nat := u.1.2.toList ++ u.2.2.toList
theorem suB_mem (u : Su) (g : Nat) : g ∈ suB u ↔ u.1.2 = some g ∨ u.2.2 = some g := by
  simp [suB, Option.mem_toList]

def StRd (w : World) (u : Sv) (x : St) : Prop :=
  (∃ a c, u.1 = .slice a x.1.length c ∧ Rd .i64 w a x.1.length x.1 ∧ x.1.length ≤ c ∧ c ≤ maxLen) ∧ (∃ a c, u.2 = .slice a x.2.length c ∧ RdR lineE 2 w a x.2.length x.2 ∧ x.2.length ≤ c ∧ c ≤ maxLen)

/-- The slice with head a, of n states, reads in w az ts. -/
def RdT (w : World) (a : Option Addr) (n : Nat) (ts : List St) : Prop :=
  ∃ us : List Sv, RdR svE 2 w a n us ∧ us.length = ts.length ∧ ∀ (j : Nat) (u : Sv) (x : St), us[j]? = some u → ts[j]? = some x → StRd w u x

section
variable {w w' : World} {a : Option Addr} {n : Nat} {ts : List St}
theorem StRd.below {u : Sv} {x : St} (h : StRd w u x) (hb : Below w.heap.size w w') : StRd w' u x := by
  obtain ⟨⟨a, c, e1, h1, h2⟩, a', c', e2, h3, h4⟩ := h
  exact ⟨⟨a, c, e1, h1.below hb, h2⟩, a', c', e2, h3.below hb, h4⟩
theorem RdT.len (h : RdT w a n ts) : ts.length = n := by
  obtain ⟨us, h1, h2, _⟩ := h
  rw [← h2]; exact h1.1
theorem RdT.below (h : RdT w a n ts) (hb : Below w.heap.size w w') : RdT w' a n ts := by
  obtain ⟨us, h1, h2, h3⟩ := h
  exact ⟨us, h1.below hb, h2, fun j u x hu hx => (h3 j u x hu hx).below hb⟩
theorem RdT.at (h : RdT w a n ts) {j : Nat} (hj : j < n) :
    ∃ blk off p cp q cq ss az, a = some ⟨blk, off, none⟩ ∧ ts[j]? = some (ss, az) ∧ w.cell? ⟨blk, off + j * 2, none⟩ = some (.slice p ss.length cp) ∧ w.cell? ⟨blk, off + j * 2 + 1, none⟩ = some (.slice q az.length cq) ∧
      Rd .i64 w p ss.length ss ∧ RdR lineE 2 w q az.length az ∧ (ss.length ≤ cp ∧ cp ≤ maxLen) ∧ (az.length ≤ cq ∧ cq ≤ maxLen) := by
  have hlen := h.len
  obtain ⟨us, h1, h2, h3⟩ := h
  obtain ⟨blk, off, u, ha, hu, hc⟩ := h1.at hj
  have hj' : j < ts.length := by omega
  obtain ⟨⟨p, cp, e1, r1, q1⟩, q, cq, e2, r2, q2⟩ := h3 j u ts[j] hu (by simp [hj'])
  refine ⟨blk, off, p, cp, q, cq, ts[j].1, ts[j].2, ha, by simp [hj'], ?_, ?_, r1, r2, q1, q2⟩
  · rw [← e1]; exact hc 0 _ rfl
  · rw [← e2]; exact hc 1 _ rfl
theorem RdT.nil (w : World) (a : Option Addr) : RdT w a 0 [] := ⟨[], ⟨rfl, .inl rfl⟩, rfl, fun j u b hu => by simp at hu⟩
end

/-- What the call owns of a state. -/
def StEl (weak : Bool) (eI eA : TypeId) (w : World) (lo hi : Nat) (u : Su) (x : St) : Prop :=
  SubI weak .i64 eI w lo hi u.1 x.1 ∧ SubS weak lineE 2 eA w lo hi u.2 x.2
theorem StEl.ok (weak : Bool) {eI eA eS : TypeId} (h1 : eI ≠ eS) (h2 : eA ≠ eS) : ElOk (StEl weak eI eA) suB eS where
  kept := fun h hk => ⟨SubV.kept h.1 (fun g hg => hk g ((suB_mem _ _).2 (.inl hg))), SubV.kept h.2 (fun g hg => hk g ((suB_mem _ _).2 (.inr hg)))⟩
  move := fun h hk => ⟨SubV.move h.1 (fun g hg => hk g ((suB_mem _ _).2 (.inl hg))), SubV.move h.2 (fun g hg => hk g ((suB_mem _ _).2 (.inr hg)))⟩
  inn := fun h g hg => by
    rcases (suB_mem _ _).1 hg with hg | hg
    · exact SubV.inn h.1 g hg
    · exact SubV.inn h.2 g hg
  apart := fun h g hg => by
    rcases (suB_mem _ _).1 hg with hg | hg
    · exact SubV.apart h1 h.1 g hg
    · exact SubV.apart h2 h.2 g hg
/-- The two rows of a state are two blocks. -/
theorem StEl.two {weak : Bool} {eI eA : TypeId} (hne : eA ≠ eI) {w : World} {lo hi : Nat} {u : Su} {x : St} (h : StEl weak eI eA w lo hi u x) : ∀ g, u.1.2 = some g → u.2.2 ≠ some g := by
  intro g hg hg'
  rcases h.1 with h0 | ⟨g1, cap, e1, hh, ho⟩
  · rw [h0.1] at hg; cases hg
  · rw [e1] at hg
    simp at hg
    subst hg
    rcases ho.2 with h0 | ⟨g', cap', cur, hv, _, hcur, _⟩
    · simp at h0
    · simp at hv
      exact SubV.apart hne h.2 g1 hg' cur (0, 0) (by rw [hv.1]; exact hcur)

/-- A row of states that the call owns. -/
abbrev RowT (weak : Bool) (eS eI eA : TypeId) (w : World) (lo hi : Nat) (v : Value) (n : Nat) (ts : List St) : Prop := RowN (StEl weak eI eA) suB suE 2 eS w lo hi v n ts

theorem StEl.rd {weak : Bool} {eI eA : TypeId} {w : World} {lo hi : Nat} {u : Su} {x : St} (h : StEl weak eI eA w lo hi u x) : StRd w (u.1.1, u.2.1) x := by
  obtain ⟨a, c, e1, q1⟩ := SubV.shape h.1
  obtain ⟨a', c', e2, q2⟩ := SubV.shape h.2
  exact ⟨⟨a, c, e1, SubI.read h.1 e1, q1⟩, a', c', e2, SubS.read lineE_len h.2 e2, q2⟩

theorem RowT.read {weak : Bool} {eS eI eA : TypeId} {w : World} {lo hi n : Nat} {a : Option Addr} {c : Nat} {ts : List St} (h : RowT weak eS eI eA w lo hi (.slice a n c) n ts) : RdT w a n ts := by
  obtain ⟨us, h1, h2, h3, _⟩ := h
  have hr := RowS.read suE_len h1
  refine ⟨us.map (fun u => (u.1.1, u.2.1)), ⟨by simpa using hr.1, ?_⟩, by simpa using h2, fun j u x hu hx => ?_⟩
  · rcases hr.2 with h0 | ⟨b, off, ha, hc⟩
    · exact .inl h0
    · refine .inr ⟨b, off, ha, fun j x hx f y hy => ?_⟩
      rw [List.getElem?_map] at hx
      cases hu : us[j]? with
      | none => rw [hu] at hx; simp at hx
      | some u =>
        rw [hu] at hx
        simp at hx
        subst hx
        exact hc j u hu f y hy
  · rw [List.getElem?_map] at hu
    cases hu' : us[j]? with
    | none => rw [hu'] at hu; simp at hu
    | some u' =>
      rw [hu'] at hu
      simp at hu
      subst hu
      exact (h3 j u' x hu' hx).rd

theorem RowT.weaken {weak : Bool} {eS eI eA : TypeId} {w : World} {lo hi n : Nat} {v : Value} {ts : List St} (h : RowT weak eS eI eA w lo hi v n ts) : RowT true eS eI eA w lo hi v n ts := by
  obtain ⟨us, h1, h2, h3, h4⟩ := h
  exact ⟨us, h1, h2, fun j u x hu hx => ⟨SubV.weaken (h3 j u x hu hx).1, SubV.weaken (h3 j u x hu hx).2⟩, h4⟩

/-- A row just made: states with nothing. -/
theorem RowT.zeros {weak : Bool} {eS eI eA : TypeId} {w : World} {lo hi g cap n : Nat} (h : w.ownsRow lo eS 2 (.slice (some ⟨g, 0, none⟩) n cap) n ((List.replicate n (Value.slice none 0 0, Value.slice none 0 0)).flatMap svE)) (hg : g < hi) :
    RowT weak eS eI eA w lo hi (.slice (some ⟨g, 0, none⟩) n cap) n (List.replicate n ([], [])) := by
  refine ⟨List.replicate n ((.slice none 0 0, none), (.slice none 0 0, none)), ⟨⟨by simp, ?_⟩, fun j hj => ?_⟩, by simp, fun j u b hu hv => ?_, fun i j u u' _ hu hu' g' hg' => ?_⟩
  · have e : (List.replicate n (((Value.slice none 0 0, none), (Value.slice none 0 0, none)) : Su)).flatMap suE = (List.replicate n (Value.slice none 0 0, Value.slice none 0 0)).flatMap svE := by
      rw [List.flatMap_replicate, List.flatMap_replicate]
      rfl
    rw [e]
    exact h
  · simp [Value.ownBlock] at hj; omega
  · simp [List.getElem?_replicate] at hu hv
    rw [← hu.2, ← hv.2]
    exact ⟨SubV.nil _ _ _ _ _ _, SubV.nil _ _ _ _ _ _⟩
  · simp [List.getElem?_replicate] at hu
    rw [← hu.2] at hg'
    simp [suB] at hg'

/-- How many numbers and arcs there are in states. -/
def stN : List St → Nat
  | [] => 0
  | x :: ts => x.1.length + x.2.length + stN ts
theorem stN_append (xs ys : List St) : stN (xs ++ ys) = stN xs + stN ys := by
  induction xs with
  | nil => simp [stN]
  | cons x xs ih => simp [stN, ih]; omega
theorem stN_succ {ts : List St} {k : Nat} {ss : List Int} {az : List L2} (h : ts[k]? = some (ss, az)) : stN (ts.take (k + 1)) = stN (ts.take k) + (ss.length + az.length) := by
  obtain ⟨hk, e⟩ := List.getElem?_eq_some_iff.1 h
  rw [List.take_succ_eq_append_getElem hk, stN_append, e]
  simp [stN]
theorem stN_take (ts : List St) (k : Nat) : stN (ts.take k) ≤ stN ts := by
  have : stN ts = stN (ts.take k) + stN (ts.drop k) := by rw [← stN_append, List.take_append_drop]
  omega

/-- How many marks they take, and the states with marks in them. -/
def stC : List St → Nat
  | [] => 0
  | x :: ts => x.1.length + 2 * x.2.length + stC ts
def mkT : Int → List St → List St
  | _, [] => []
  | k, x :: ts => (mkI k x.1.length, mkL (k + x.1.length) x.2.length) :: mkT (k + x.1.length + 2 * x.2.length) ts
theorem stC_le (ts : List St) : stC ts ≤ 2 * stN ts := by
  induction ts with
  | nil => simp [stC, stN]
  | cons x xs ih => simp [stC, stN]; omega
theorem stC_append (xs ys : List St) : stC (xs ++ ys) = stC xs + stC ys := by
  induction xs with
  | nil => simp [stC]
  | cons x xs ih => simp [stC, ih]; omega
theorem stC_succ {ts : List St} {k : Nat} {ss : List Int} {az : List L2} (h : ts[k]? = some (ss, az)) : stC (ts.take (k + 1)) = stC (ts.take k) + (ss.length + 2 * az.length) := by
  obtain ⟨hk, e⟩ := List.getElem?_eq_some_iff.1 h
  rw [List.take_succ_eq_append_getElem hk, stC_append, e]
  simp [stC]
theorem stC_take (ts : List St) (k : Nat) : stC (ts.take k) ≤ stC ts := by
  have : stC ts = stC (ts.take k) + stC (ts.drop k) := by rw [← stC_append, List.take_append_drop]
  omega
theorem mkT_len (x : Int) (ts : List St) : (mkT x ts).length = ts.length := by
  induction ts generalizing x with
  | nil => rfl
  | cons b bs ih => simp [mkT, ih]
theorem mkT_stN (x : Int) (ts : List St) : stN (mkT x ts) = stN ts := by
  induction ts generalizing x with
  | nil => rfl
  | cons b bs ih => simp [mkT, stN, ih, mkI_len, mkL_len]
theorem mkT_stC (x : Int) (ts : List St) : stC (mkT x ts) = stC ts := by
  induction ts generalizing x with
  | nil => rfl
  | cons b bs ih => simp [mkT, stC, ih, mkI_len, mkL_len]
theorem mkT_append (k : Int) (xs ys : List St) : mkT k (xs ++ ys) = mkT k xs ++ mkT (k + stC xs) ys := by
  induction xs generalizing k with
  | nil => simp [mkT, stC]
  | cons b bs ih =>
    simp only [List.cons_append, mkT, ih, stC]
    congr 3
    push_cast
    omega
theorem mkT_succ {ts : List St} {k : Nat} {ss : List Int} {az : List L2} (x : Int) (h : ts[k]? = some (ss, az)) :
    mkT x (ts.take (k + 1)) = mkT x (ts.take k) ++ [(mkI (x + stC (ts.take k)) ss.length, mkL (x + stC (ts.take k) + ss.length) az.length)] := by
  obtain ⟨hk, e⟩ := List.getElem?_eq_some_iff.1 h
  rw [List.take_succ_eq_append_getElem hk, mkT_append, e]
  simp [mkT]
theorem mkT_at {ts : List St} {k : Nat} {ss : List Int} {az : List L2} (x : Int) (h : ts[k]? = some (ss, az)) :
    (mkT x ts)[k]? = some (mkI (x + stC (ts.take k)) ss.length, mkL (x + stC (ts.take k) + ss.length) az.length) := by
  obtain ⟨hk, e⟩ := List.getElem?_eq_some_iff.1 h
  have h1 : mkT x ts = mkT x (ts.take (k + 1)) ++ mkT (x + stC (ts.take (k + 1))) (ts.drop (k + 1)) := by
    rw [← mkT_append, List.take_append_drop]
  have hl : (mkT x (ts.take k)).length = k := by rw [mkT_len, List.length_take]; omega
  rw [h1, mkT_succ x h, List.getElem?_append_left (by simp [mkT_len]; omega), List.getElem?_append_right (by omega), hl]
  simp
theorem mkT_mid {ts : List St} {k : Nat} {ss : List Int} {az : List L2} (x : Int) (h : ts[k]? = some (ss, az)) : (mkT x (ts.take k) ++ ts.drop k)[k]? = some (ss, az) := by
  obtain ⟨hk, e⟩ := List.getElem?_eq_some_iff.1 h
  have hl : (mkT x (ts.take k)).length = k := by rw [mkT_len, List.length_take]; omega
  rw [List.getElem?_append_right (by omega), hl, Nat.sub_self, List.drop_eq_getElem_cons hk, e]
  rfl
theorem mkT_set {ts : List St} {k : Nat} {ss : List Int} {az : List L2} (x : Int) (h : ts[k]? = some (ss, az)) :
    (mkT x (ts.take k) ++ ts.drop k).set k (mkI (x + stC (ts.take k)) ss.length, mkL (x + stC (ts.take k) + ss.length) az.length) = mkT x (ts.take (k + 1)) ++ ts.drop (k + 1) := by
  obtain ⟨hk, e⟩ := List.getElem?_eq_some_iff.1 h
  rw [List.drop_eq_getElem_cons hk, set_mid _ _ (by rw [mkT_len, List.length_take]; omega), mkT_succ x h]
theorem cpT_set {ts : List St} {k n : Nat} {x : St} (hn : ts.length = n) (h : ts[k]? = some x) :
    (ts.take k ++ List.replicate (n - k) ([], [])).set k x = ts.take (k + 1) ++ List.replicate (n - (k + 1)) ([], []) := by
  obtain ⟨hk, e⟩ := List.getElem?_eq_some_iff.1 h
  obtain ⟨d, hd⟩ : ∃ d, n - k = d + 1 := ⟨n - k - 1, by omega⟩
  rw [hd, List.replicate_succ, set_mid _ _ (by rw [List.length_take]; omega), show n - (k + 1) = d by omega, List.take_succ_eq_append_getElem hk, e]
theorem cpT_mid (ts : List St) (n k : Nat) (hn : ts.length = n) (hk : k < n) : (ts.take k ++ List.replicate (n - k) (([], []) : St))[k]? = some ([], []) := by
  have hl : (ts.take k).length = k := by rw [List.length_take]; omega
  rw [List.getElem?_append_right (by omega), hl, Nat.sub_self, List.getElem?_replicate]
  simp; omega
end Go.Proofs.Ytocophekfbhfbaa

namespace Go.Proofs.Ytocophekfbhfbaa
open Go.RowKit
set_option linter.unusedVariables false
set_option linter.unusedSimpArgs false

/-- Its Byte or its To is none. -/
def ArcBad (n : Int) (a : L2) : Prop := ¬ (0 ≤ a.1 ∧ a.1 ≤ 255) ∨ ¬ (0 ≤ a.2 ∧ a.2 ≤ n - 1)
instance (n : Int) (a : L2) : Decidable (ArcBad n a) := by unfold ArcBad; infer_instance
def arcGo (n : Int) : List L2 → List L2 → Int
  | _, [] => 0
  | seen, a :: az => if ArcBad n a then 3 else if a.1 ∈ seen.map (·.1) then 6 else arcGo n (seen ++ [a]) az
def arcsF (n : Int) (az : List L2) : Int := if 256 < az.length then 2 else arcGo n [] az
theorem arcGo_at {n : Int} {az : List L2} {k : Nat} {c : L2} (h : az[k]? = some c) :
    arcGo n (az.take k) (az.drop k) = if ArcBad n c then 3 else if c.1 ∈ (az.take k).map (·.1) then 6 else arcGo n (az.take (k + 1)) (az.drop (k + 1)) := by
  obtain ⟨hk, e⟩ := List.getElem?_eq_some_iff.1 h
  rw [List.drop_eq_getElem_cons hk, e, arcGo, List.take_succ_eq_append_getElem hk, e]
theorem arcGo_end {n : Int} {az : List L2} {k : Nat} (h : az.length ≤ k) : arcGo n (az.take k) (az.drop k) = 0 := by
  rw [List.drop_of_length_le h]; rfl

/-- The fault of a state, of states. -/
def stateF (is : List In) (n : Int) (x : St) : Int := if setFault is x.1 ≠ 0 then setFault is x.1 else arcsF n x.2
def stateGo (is : List In) (n : Int) : List St → Int
  | [] => 0
  | x :: ts => if stateF is n x ≠ 0 then stateF is n x else stateGo is n ts
theorem stateGo_at {is : List In} {n : Int} {ts : List St} {k : Nat} {x : St} (h : ts[k]? = some x) : stateGo is n (ts.drop k) = if stateF is n x ≠ 0 then stateF is n x else stateGo is n (ts.drop (k + 1)) := by
  obtain ⟨hk, e⟩ := List.getElem?_eq_some_iff.1 h
  rw [List.drop_eq_getElem_cons hk, e, stateGo]
theorem stateGo_end {is : List In} {n : Int} {ts : List St} {k : Nat} (h : ts.length ≤ k) : stateGo is n (ts.drop k) = 0 := by
  rw [List.drop_of_length_le h]; rfl

/-- The place of a set; -1: there is none. -/
def tAtGo : Int → List St → List Int → Int
  | _, [], _ => -1
  | k, t :: ts, xs => if t.1 = xs then k else tAtGo (k + 1) ts xs
def tAt (ts : List St) (xs : List Int) : Int := tAtGo 0 ts xs
theorem tAtGo_at {ts : List St} {xs : List Int} {k : Nat} {q : Int} {x : St} (h : ts[k]? = some x) : tAtGo q (ts.drop k) xs = if x.1 = xs then q else tAtGo (q + 1) (ts.drop (k + 1)) xs := by
  obtain ⟨hk, e⟩ := List.getElem?_eq_some_iff.1 h
  rw [List.drop_eq_getElem_cons hk, e, tAtGo]
theorem tAtGo_spec : ∀ (ts : List St) (q : Int) (xs : List Int), (tAtGo q ts xs = -1 ∧ xs ∉ ts.map (·.1)) ∨ ∃ j : Nat, tAtGo q ts xs = q + j ∧ (ts.map (·.1))[j]? = some xs ∧ xs ∉ (ts.take j).map (·.1)
  | [], q, xs => .inl ⟨rfl, by simp⟩
  | t :: ts, q, xs => by
    rw [tAtGo]
    by_cases h : t.1 = xs
    · rw [if_pos h]
      exact .inr ⟨0, by simp, by simp [h], by simp⟩
    · rw [if_neg h]
      rcases tAtGo_spec ts (q + 1) xs with ⟨h1, h2⟩ | ⟨j, h1, h2, h3⟩
      · refine .inl ⟨h1, ?_⟩
        rw [List.map_cons, List.mem_cons]
        exact fun e => e.elim (fun e => h e.symm) h2
      · refine .inr ⟨j + 1, by rw [h1]; push_cast; omega, by simpa using h2, ?_⟩
        rw [List.take_succ_cons, List.map_cons, List.mem_cons]
        exact fun e => e.elim (fun e => h e.symm) h3
/-- No such set: -1; else the first place that has it. -/
theorem tAt_spec (ts : List St) (xs : List Int) : (tAt ts xs = -1 ∧ xs ∉ ts.map (·.1)) ∨ ∃ j : Nat, tAt ts xs = j ∧ (ts.map (·.1))[j]? = some xs ∧ xs ∉ (ts.take j).map (·.1) := by
  rcases tAtGo_spec ts 0 xs with h | ⟨j, h1, h2⟩
  · exact .inl h
  · exact .inr ⟨j, by unfold tAt; omega, h2⟩
theorem tAt_lt (ts : List St) (xs : List Int) : -1 ≤ tAt ts xs ∧ tAt ts xs < ts.length ∨ tAt ts xs = -1 := by
  rcases tAt_spec ts xs with h | ⟨j, h1, h2, _⟩
  · exact .inr h.1
  · have := (List.getElem?_eq_some_iff.1 h2).1
    simp at this
    exact .inl (by omega)
/-- The set of a state is met first where it stands, or ahead. -/
theorem tAt_self {ts : List St} {k : Nat} {x : St} (h : ts[k]? = some x) : tAt ts x.1 = k ↔ x.1 ∉ (ts.take k).map (·.1) := by
  have hm : (ts.map (·.1))[k]? = some x.1 := by simp [h]
  rcases tAt_spec ts x.1 with ⟨h1, h2⟩ | ⟨j, h1, h2, h3⟩
  · exact absurd (List.mem_of_getElem? hm) h2
  · rw [h1]
    constructor
    · intro e
      have : j = k := by omega
      subst this
      exact h3
    · intro hn
      rcases Nat.lt_trichotomy j k with hj | hj | hj
      · exfalso
        apply hn
        rw [List.map_take]
        exact List.mem_of_getElem? (i := j) (by rw [List.getElem?_take_of_lt hj]; exact h2)
      · rw [hj]
      · exfalso
        apply h3
        rw [List.map_take]
        exact List.mem_of_getElem? (i := k) (by rw [List.getElem?_take_of_lt hj]; exact hm)

/-- No two states have one set. -/
def Lone (ts : List St) : Prop := (ts.map (·.1)).Nodup
instance (ts : List St) : Decidable (Lone ts) := by unfold Lone; infer_instance
theorem lone_take {ts : List St} {k : Nat} {x : St} (h : ts[k]? = some x) : Lone (ts.take (k + 1)) ↔ Lone (ts.take k) ∧ x.1 ∉ (ts.take k).map (·.1) := by
  obtain ⟨hk, e⟩ := List.getElem?_eq_some_iff.1 h
  unfold Lone
  rw [List.take_succ_eq_append_getElem hk, e, List.map_append, List.nodup_append]
  simp only [List.map_cons, List.map_nil, List.nodup_cons, List.not_mem_nil, not_false_eq_true, List.nodup_nil, and_self, List.mem_singleton, true_and]
  constructor
  · rintro ⟨h1, h2⟩
    exact ⟨h1, fun hm => h2 _ hm _ rfl rfl⟩
  · rintro ⟨h1, h2⟩
    exact ⟨h1, fun a ha b hb => by rintro rfl; rw [hb] at ha; exact h2 ha⟩
theorem lone_less {ts : List St} {k : Nat} (h : Lone ts) : Lone (ts.take k) := by
  unfold Lone at *
  rw [List.map_take]
  exact h.sublist (List.take_sublist _ _)

/-- The fault of a table. -/
def tabF (is : List In) (z : Int) (ts : List St) : Int :=
  if progFault is ≠ 0 then progFault is else if ¬ (1 ≤ z ∧ z ≤ 12) then 3 else if z < ts.length then 2 else
    if stateGo is ts.length ts ≠ 0 then stateGo is ts.length ts else if Lone ts then 0 else 6

theorem tabF_ok {is : List In} {z : Int} {ts : List St} (h : tabF is z ts = 0) : progFault is = 0 ∧ (1 ≤ z ∧ z ≤ 12) ∧ (ts.length : Int) ≤ z ∧ stateGo is ts.length ts = 0 ∧ Lone ts := by
  unfold tabF at h
  by_cases h1 : progFault is ≠ 0
  · rw [if_pos h1] at h; exact absurd h h1
  rw [if_neg h1] at h
  by_cases h2 : ¬ (1 ≤ z ∧ z ≤ 12)
  · rw [if_pos h2] at h; omega
  rw [if_neg h2] at h
  by_cases h3 : z < ts.length
  · rw [if_pos h3] at h; omega
  rw [if_neg h3] at h
  by_cases h4 : stateGo is ts.length ts ≠ 0
  · rw [if_pos h4] at h; exact absurd h h4
  rw [if_neg h4] at h
  by_cases h5 : Lone ts
  · exact ⟨Decidable.not_not.1 h1, Decidable.not_not.1 h2, by omega, Decidable.not_not.1 h4, h5⟩
  · rw [if_neg h5] at h; omega
theorem stateGo_all {is : List In} {n : Int} : ∀ {ts : List St}, stateGo is n ts = 0 → ∀ x ∈ ts, stateF is n x = 0
  | [], _, x, hx => by simp at hx
  | t :: ts, h, x, hx => by
    rw [stateGo] at h
    by_cases h1 : stateF is n t ≠ 0
    · rw [if_pos h1] at h; exact absurd h h1
    · rw [if_neg h1] at h
      rcases List.mem_cons.1 hx with rfl | hx
      · exact Decidable.not_not.1 h1
      · exact stateGo_all h x hx
theorem stateF_ok {is : List In} {n : Int} {x : St} (h : stateF is n x = 0) : setFault is x.1 = 0 ∧ arcsF n x.2 = 0 := by
  unfold stateF at h
  by_cases h1 : setFault is x.1 ≠ 0
  · rw [if_pos h1] at h; exact absurd h h1
  · rw [if_neg h1] at h; exact ⟨Decidable.not_not.1 h1, h⟩
theorem arcGo_all {n : Int} : ∀ {az seen : List L2}, arcGo n seen az = 0 → ∀ a ∈ az, ¬ ArcBad n a
  | [], _, _, a, ha => by simp at ha
  | b :: az, seen, h, a, ha => by
    rw [arcGo] at h
    by_cases h1 : ArcBad n b
    · rw [if_pos h1] at h; omega
    rw [if_neg h1] at h
    by_cases h2 : b.1 ∈ seen.map (·.1)
    · rw [if_pos h2] at h; omega
    rw [if_neg h2] at h
    rcases List.mem_cons.1 ha with rfl | ha
    · exact h1
    · exact arcGo_all h a ha
theorem arcsF_ok {n : Int} {az : List L2} (h : arcsF n az = 0) : az.length ≤ 256 ∧ ∀ a ∈ az, ¬ ArcBad n a := by
  unfold arcsF at h
  by_cases h1 : 256 < az.length
  · rw [if_pos h1] at h; omega
  · rw [if_neg h1] at h; exact ⟨by omega, arcGo_all h⟩
end Go.Proofs.Ytocophekfbhfbaa

namespace Go.Proofs.Ytocophekfbhfbaa
open Go.RowKit
set_option linter.unusedVariables false
set_option linter.unusedSimpArgs false

set_option maxHeartbeats 800000 in
theorem slEq_any (a b : Option Addr) (n m ca cb : Nat) (xs ys : List Int) (w : World) (ha : Rd .i64 w a n xs) (hb : Rd .i64 w b m ys) (h1 : n ≤ 1073741824) (h2 : m ≤ 1073741824) :
    Calls Try.prog 199 #[.slice a n ca, .slice b m cb] w fun e w' => e = .returned (.bool (decide (xs = ys))) ∧ ∃ q, w' = w.drewN q := by
  by_cases hl : n = m
  · subst hl
    go_enter Try.func199, Try.ntmps199
    go_wp2
    go_loopw [13] (fun i wr => ∃ k q : Nat, k ≤ n ∧ i = .int .i64 k ∧ wr = w.drewN q ∧ xs.take k = ys.take k) (fun i _ => n - (intOf i).toNat)
    case atStart => exact ⟨0, 0, Nat.zero_le _, rfl, rfl, rfl⟩
    case round =>
      obtain ⟨k, q, hk, rfl, rfl, hx⟩ := hrel
      have HX : Hid (xs.take k = ys.take k) := hx
      clear hx
      by_cases hlt : k < n
      · obtain ⟨b1, o1, rfl, hc1⟩ := ha.at hlt
        obtain ⟨b2, o2, rfl, hc2⟩ := hb.at hlt
        have hk1 := hc1 k hlt
        have hk2 := hc2 k hlt
        clear hc1 hc2
        have hlt' : (k : Int) < (n : Int) := by omega
        go_wp2
        go_quiet (fail)
        go_wp2
        · go_ret
          exact ⟨ret_bool (eq_stop (by assumption)), _, World.drewN_drewN _ _ _⟩
        · go_roundw
          case rel => exact ⟨k + 1, _, by omega, by go_num, rfl, eq_step ha.1 hb.1 hlt HX.out (by assumption)⟩
          case measure => simp [intOf]; omega
      · go_wp2
        go_ret
        exact ⟨ret_bool (eq_end ha.1 hb.1 (by omega) HX.out), q, rfl⟩
  · go_enter Try.func199, Try.ntmps199
    go_wp2
    go_ret
    refine ⟨ret_bool ?_, 0, rfl⟩
    have : ¬ xs = ys := fun e => hl (by rw [← ha.1, ← hb.1, e])
    simp [this]

set_option maxHeartbeats 800000 in
theorem l8Same_any (a b : Option Addr) (n m ca cb : Nat) (xs ys : List Int) (w : World) (ha : Rd .i64 w a n xs) (hb : Rd .i64 w b m ys) (h1 : n ≤ 1073741824) (h2 : m ≤ 1073741824) :
    Calls Try.prog 231 #[.slice a n ca, .slice b m cb] w fun e w' => e = .returned (.bool (decide (xs = ys))) ∧ ∃ q, w' = w.drewN q := by
  by_cases hl : n = m
  · subst hl
    go_enter Try.func231, Try.ntmps231
    go_wp2
    go_loopw [5] (fun i wr => ∃ k q : Nat, k ≤ n ∧ i = .int .i64 k ∧ wr = w.drewN q ∧ xs.take k = ys.take k) (fun i _ => n - (intOf i).toNat)
    case atStart => exact ⟨0, 0, Nat.zero_le _, rfl, rfl, rfl⟩
    case round =>
      obtain ⟨k, q, hk, rfl, rfl, hx⟩ := hrel
      have HX : Hid (xs.take k = ys.take k) := hx
      clear hx
      by_cases hlt : k < n
      · obtain ⟨b1, o1, rfl, hc1⟩ := ha.at hlt
        obtain ⟨b2, o2, rfl, hc2⟩ := hb.at hlt
        have hk1 := hc1 k hlt
        have hk2 := hc2 k hlt
        clear hc1 hc2
        have hlt' : (k : Int) < (n : Int) := by omega
        go_wp2
        go_quiet (fail)
        go_wp2
        · go_ret
          exact ⟨ret_bool (eq_stop (by assumption)), _, World.drewN_drewN _ _ _⟩
        · go_roundw
          case rel => exact ⟨k + 1, _, by omega, by go_num, rfl, eq_step ha.1 hb.1 hlt HX.out (by assumption)⟩
          case measure => simp [intOf]; omega
      · go_wp2
        go_ret
        exact ⟨ret_bool (eq_end ha.1 hb.1 (by omega) HX.out), q, rfl⟩
  · go_enter Try.func231, Try.ntmps231
    go_wp2
    go_ret
    refine ⟨ret_bool ?_, 0, rfl⟩
    have : ¬ xs = ys := fun e => hl (by rw [← ha.1, ← hb.1, e])
    simp [this]
end Go.Proofs.Ytocophekfbhfbaa
