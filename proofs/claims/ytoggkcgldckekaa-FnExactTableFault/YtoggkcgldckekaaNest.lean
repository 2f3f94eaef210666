/-
  Rows whose elements have rows of their own: what the call owns of them. It speaks of no program.
-/
import Derived.Test.YtoggkcgldckekaaChg
namespace Go.Proofs.Ytoggkcgldckekaa
open Go.RowKit
set_option linter.unusedVariables false
set_option linter.unusedSimpArgs false

/-- A row that the call owns hangs on its own block alone. -/
theorem ownsRow_at {w w' : World} {base : Nat} {e : TypeId} {size n : Nat} {v : Value} {xs : List Value} (h : w.ownsRow base e size v n xs) (hk : ∀ g, v.ownBlock = some g → w'.heap[g]? = w.heap[g]?) : w'.ownsRow base e size v n xs := by
  obtain ⟨h1, h2⟩ := h
  refine ⟨h1, ?_⟩
  rcases h2 with h2 | ⟨g, cap, cur, rfl, hg, hh, r⟩
  · exact .inl h2
  · exact .inr ⟨g, cap, cur, rfl, hg, (hk g rfl).trans hh, r⟩

/-- The row that an element has: the slice, and the block that it owns; 'weak': an empty slice may have whatever head. -/
def SubV (weak : Bool) (e : TypeId) (size : Nat) (w : World) (lo hi : Nat) (s : Value × Option Nat) (n : Nat) (vs : List Value) : Prop :=
  (s.2 = none ∧ n = 0 ∧ vs = [] ∧ ∃ a, s.1 = .slice a 0 0 ∧ (weak = false → a = none)) ∨
  (∃ g cap, s = (.slice (some ⟨g, 0, none⟩) n cap, some g) ∧ g < hi ∧ w.ownsRow lo e size (.slice (some ⟨g, 0, none⟩) n cap) n vs)

section
variable {weak : Bool} {e : TypeId} {size : Nat} {w w' : World} {lo hi n : Nat} {s : Value × Option Nat} {vs : List Value}

theorem SubV.kept (h : SubV weak e size w lo hi s n vs) (hk : ∀ g, s.2 = some g → w'.heap[g]? = w.heap[g]?) : SubV weak e size w' lo hi s n vs := by
  rcases h with h | ⟨g, cap, rfl, hh, ho⟩
  · exact .inl h
  · exact .inr ⟨g, cap, rfl, hh, ownsRow_at ho (fun g' hg => by simp [Value.ownBlock] at hg; subst hg; exact hk _ rfl)⟩

theorem SubV.move {lo' hi' : Nat} (h : SubV weak e size w lo hi s n vs) (hb : ∀ g, s.2 = some g → lo' ≤ g ∧ g < hi') : SubV weak e size w lo' hi' s n vs := by
  rcases h with h | ⟨g, cap, rfl, hh, ho⟩
  · exact .inl h
  · have h1 := hb g rfl
    refine .inr ⟨g, cap, rfl, h1.2, ho.1, ?_⟩
    rcases ho.2 with h0 | ⟨g', cap', cur, hv, hg, r⟩
    · exact .inl h0
    · refine .inr ⟨g', cap', cur, hv, ?_, r⟩
      simp at hv
      omega

theorem SubV.inn (h : SubV weak e size w lo hi s n vs) : ∀ g, s.2 = some g → lo ≤ g ∧ g < hi ∧ g < w.heap.size := by
  rcases h with h | ⟨g, cap, rfl, hh, ho⟩
  · intro g hg; rw [h.1] at hg; cases hg
  · intro g' hg
    cases hg
    have := World.ownsRow.lt ho g rfl
    omega

theorem SubV.mono {lo' hi' : Nat} (h : SubV weak e size w lo hi s n vs) (h1 : lo' ≤ lo) (h2 : hi ≤ hi') : SubV weak e size w lo' hi' s n vs :=
  h.move (fun g hg => by have := h.inn g hg; omega)

theorem SubV.apart {e' : TypeId} (hne : e ≠ e') (h : SubV weak e size w lo hi s n vs) : ∀ g, s.2 = some g → ∀ cs q, w.heap[g]? ≠ some (.cells cs e' q) := by
  rcases h with h | ⟨g, cap, rfl, hh, ho⟩
  · intro g hg; rw [h.1] at hg; cases hg
  · intro g' hg cs q hc
    cases hg
    rcases ho.2 with h0 | ⟨g', cap', cur, hv, _, hcur, _⟩
    · simp at h0
    · simp at hv
      rw [← hv.1, hc] at hcur
      simp at hcur
      exact hne hcur.2.1.symm

theorem SubV.weaken (h : SubV weak e size w lo hi s n vs) : SubV true e size w lo hi s n vs := by
  rcases h with ⟨h1, h2, h3, a, h4, _⟩ | h
  · exact .inl ⟨h1, h2, h3, a, h4, by simp⟩
  · exact .inr h

theorem SubV.shape (h : SubV weak e size w lo hi s n vs) : ∃ a cap, s.1 = .slice a n cap ∧ n ≤ cap ∧ cap ≤ maxLen := by
  rcases h with ⟨h1, rfl, h3, a, h4, _⟩ | ⟨g, cap, rfl, hh, ho⟩
  · exact ⟨a, 0, h4, Nat.le_refl _, by simp [maxLen]⟩
  · rcases ho.2 with h0 | ⟨g', cap', cur, hv, _, _, h1, h2, _⟩
    · simp at h0
    · simp at hv
      exact ⟨_, cap, rfl, by omega, by omega⟩

theorem SubV.nil (weak : Bool) (e : TypeId) (size : Nat) (w : World) (lo hi : Nat) : SubV weak e size w lo hi (.slice none 0 0, none) 0 [] :=
  .inl ⟨rfl, rfl, rfl, none, rfl, fun _ => rfl⟩

theorem SubV.of {v : Value} (h : w.ownsRow lo e size v n vs) (hv : ∀ j, v.ownBlock = some j → j < hi) : SubV weak e size w lo hi (v, v.ownBlock) n vs := by
  rcases h.2 with ⟨rfl, rfl⟩ | ⟨g, cap, cur, rfl, r⟩
  · refine .inl ⟨rfl, rfl, ?_, none, rfl, fun _ => rfl⟩
    have := h.1
    rw [Nat.zero_mul] at this
    exact List.eq_nil_of_length_eq_zero this
  · exact .inr ⟨g, cap, rfl, hv g rfl, h⟩

/-- A strong one is a row that the call owns. -/
theorem SubV.row (h : SubV false e size w lo hi s n vs) : w.ownsRow lo e size s.1 n vs ∧ s.2 = s.1.ownBlock ∧ ∀ j, s.1.ownBlock = some j → j < hi := by
  rcases h with ⟨h1, rfl, rfl, a, h4, h5⟩ | ⟨g, cap, rfl, hh, ho⟩
  · rw [h4, h5 rfl, h1]
    exact ⟨World.ownsRow_nil _ _ _ _, rfl, fun j hj => by simp [Value.ownBlock] at hj⟩
  · exact ⟨ho, rfl, fun j hj => by simp [Value.ownBlock] at hj; omega⟩
end

/-- A row of integers, of structs, that an element has. -/
def SubI (weak : Bool) (k : IntKind) (e : TypeId) (w : World) (lo hi : Nat) (s : Value × Option Nat) (xs : List Int) : Prop := SubV weak e 1 w lo hi s xs.length (xs.map (Value.int k))
def SubS {α : Type} (weak : Bool) (enc : α → List Value) (size : Nat) (e : TypeId) (w : World) (lo hi : Nat) (s : Value × Option Nat) (xs : List α) : Prop := SubV weak e size w lo hi s xs.length (xs.flatMap enc)

section
variable {α : Type} {enc : α → List Value} {weak : Bool} {k : IntKind} {e : TypeId} {size : Nat} {w w' : World} {lo hi n : Nat} {s : Value × Option Nat}

theorem SubI.of {v : Value} {xs : List Int} (h : RowI k e w lo hi v n xs) : SubI weak k e w lo hi (v, v.ownBlock) xs := by
  have hn := h.len
  subst hn
  exact SubV.of h.1 h.2
theorem SubS.of {v : Value} {xs : List α} (h : RowS enc size e w lo hi v n xs) : SubS weak enc size e w lo hi (v, v.ownBlock) xs := by
  have hn := h.len
  subst hn
  exact SubV.of h.1.2 h.2
theorem SubI.row {xs : List Int} (h : SubI false k e w lo hi s xs) : RowI k e w lo hi s.1 xs.length xs ∧ s.2 = s.1.ownBlock := by
  obtain ⟨h1, h2, h3⟩ := SubV.row h
  exact ⟨⟨h1, h3⟩, h2⟩
theorem SubS.row {xs : List α} (h : SubS false enc size e w lo hi s xs) : RowS enc size e w lo hi s.1 xs.length xs ∧ s.2 = s.1.ownBlock := by
  obtain ⟨h1, h2, h3⟩ := SubV.row h
  exact ⟨⟨⟨rfl, h1⟩, h3⟩, h2⟩

theorem SubI.read {xs : List Int} {a : Option Addr} {c : Nat} (h : SubI weak k e w lo hi s xs) (hs : s.1 = .slice a xs.length c) : Rd k w a xs.length xs := by
  rcases h with ⟨h1, h2, h3, _⟩ | ⟨g, cap, rfl, hh, ho⟩
  · exact ⟨rfl, .inl h2⟩
  · simp at hs
    obtain ⟨rfl, rfl⟩ := hs
    exact Own.read (e := e) (base := lo) (c := cap) ho
theorem SubS.read {xs : List α} {a : Option Addr} {c : Nat} (he : ∀ x, (enc x).length = size) (h : SubS weak enc size e w lo hi s xs) (hs : s.1 = .slice a xs.length c) : RdR enc size w a xs.length xs := by
  rcases h with ⟨h1, h2, h3, _⟩ | ⟨g, cap, rfl, hh, ho⟩
  · exact ⟨rfl, .inl h2⟩
  · simp at hs
    obtain ⟨rfl, rfl⟩ := hs
    exact OwnR.read (e := e) (base := lo) (c := cap) he ⟨rfl, ho⟩
end

/-- What a kind of elements keeps: El says that u stands for x, and that the blocks blk u, which lie between lo and hi, are its own; none is of the type e. -/
structure ElOk {σ α : Type} (El : World → Nat → Nat → σ → α → Prop) (blk : σ → List Nat) (e : TypeId) : Prop where
  kept : ∀ {w w' : World} {lo hi : Nat} {u : σ} {x : α}, El w lo hi u x → (∀ g ∈ blk u, w'.heap[g]? = w.heap[g]?) → El w' lo hi u x
  move : ∀ {w : World} {lo hi lo' hi' : Nat} {u : σ} {x : α}, El w lo hi u x → (∀ g ∈ blk u, lo' ≤ g ∧ g < hi') → El w lo' hi' u x
  inn : ∀ {w : World} {lo hi : Nat} {u : σ} {x : α}, El w lo hi u x → ∀ g ∈ blk u, lo ≤ g ∧ g < hi ∧ g < w.heap.size
  apart : ∀ {w : World} {lo hi : Nat} {u : σ} {x : α}, El w lo hi u x → ∀ g ∈ blk u, ∀ cs q, w.heap[g]? ≠ some (.cells cs e q)

/-- A row that the call owns, between lo and hi, whose elements have rows of their own there. -/
def RowN {σ α : Type} (El : World → Nat → Nat → σ → α → Prop) (blk : σ → List Nat) (cells : σ → List Value) (size : Nat) (e : TypeId) (w : World) (lo hi : Nat) (v : Value) (n : Nat) (xs : List α) : Prop :=
  ∃ us : List σ, RowS cells size e w lo hi v n us ∧ us.length = xs.length ∧ (∀ (j : Nat) (u : σ) (x : α), us[j]? = some u → xs[j]? = some x → El w lo hi u x) ∧
    ∀ (i j : Nat) (u u' : σ), i ≠ j → us[i]? = some u → us[j]? = some u' → ∀ g ∈ blk u, g ∉ blk u'

section
variable {σ α : Type} {El : World → Nat → Nat → σ → α → Prop} {blk : σ → List Nat} {cells : σ → List Value} {size : Nat} {e : TypeId} {w w' : World} {lo hi n : Nat} {v : Value} {xs : List α}

theorem ElOk.mono (H : ElOk El blk e) {u : σ} {x : α} {lo' hi' : Nat} (h : El w lo hi u x) (h1 : lo' ≤ lo) (h2 : hi ≤ hi') : El w lo' hi' u x :=
  H.move h (fun g hg => by have := H.inn h g hg; omega)
theorem ElOk.chg (H : ElOk El blk e) {u : σ} {x : α} {lo' hi' : Nat} (h : El w lo hi u x) (hc : Chg lo' hi' w w') (hd : hi ≤ lo' ∨ hi' ≤ lo) : El w' lo hi u x :=
  H.kept h (fun g hg => by have := H.inn h g hg; exact hc.block g this.2.2 (by omega))
theorem ElOk.below (H : ElOk El blk e) {u : σ} {x : α} (h : El w lo hi u x) (hb : Below w.heap.size w w') : El w' lo hi u x :=
  H.kept h (fun g hg => hb.block g (H.inn h g hg).2.2)
theorem ElOk.grown (H : ElOk El blk e) {u : σ} {x : α} {row : Option Nat} (h : El w lo hi u x) (hg : w.grownBy w' row) (hr : ∀ g ∈ blk u, row ≠ some g) : El w' lo hi u x :=
  H.kept h (fun g hgm => hg.block g (H.inn h g hgm).2.2 (fun e => hr g hgm e.symm))

theorem RowN.len (h : RowN El blk cells size e w lo hi v n xs) : xs.length = n := by
  obtain ⟨us, h1, h2, _⟩ := h
  rw [← h2]; exact h1.len
theorem RowN.below (H : ElOk El blk e) (h : RowN El blk cells size e w lo hi v n xs) (hb : Below w.heap.size w w') : RowN El blk cells size e w' lo hi v n xs := by
  obtain ⟨us, h1, h2, h3, h4⟩ := h
  exact ⟨us, h1.below hb, h2, fun j u x hu hx => H.below (h3 j u x hu hx) hb, h4⟩
theorem RowN.chg (H : ElOk El blk e) {lo' hi' : Nat} (h : RowN El blk cells size e w lo hi v n xs) (hc : Chg lo' hi' w w') (hd : hi ≤ lo' ∨ hi' ≤ lo) : RowN El blk cells size e w' lo hi v n xs := by
  obtain ⟨us, h1, h2, h3, h4⟩ := h
  exact ⟨us, h1.chg hc hd, h2, fun j u x hu hx => H.chg (h3 j u x hu hx) hc hd, h4⟩
theorem RowN.mono (H : ElOk El blk e) {lo' hi' : Nat} (h : RowN El blk cells size e w lo hi v n xs) (h1 : lo' ≤ lo) (h2 : hi ≤ hi') : RowN El blk cells size e w lo' hi' v n xs := by
  obtain ⟨us, k1, k2, k3, k4⟩ := h
  exact ⟨us, k1.mono h1 h2, k2, fun j u x hu hx => H.mono (k3 j u x hu hx) h1 h2, k4⟩
theorem RowN.shape (hE : ∀ u, (cells u).length = size) (h : RowN El blk cells size e w lo hi v n xs) : ∃ a cap, v = .slice a n cap ∧ n ≤ cap ∧ cap ≤ maxLen := by
  obtain ⟨us, h1, _⟩ := h
  exact RowS.shape hE h1
theorem RowN.nil (w : World) (lo hi : Nat) : RowN El blk cells size e w lo hi (.slice none 0 0) 0 [] :=
  ⟨[], RowS.nil _ _ _ _ _ _, rfl, fun j u x hu => by simp at hu, fun i j u u' _ hu => by simp at hu⟩
theorem RowN.frozen {g cap : Nat} (h : RowN El blk cells size e w lo hi (.slice (some ⟨g, 0, none⟩) n cap) n xs) (j : Nat) : w.frozen? ⟨g, j, none⟩ = false := by
  obtain ⟨us, h1, _⟩ := h
  exact h1.1.frozen j
theorem RowN.cases (h : RowN El blk cells size e w lo hi v n xs) : (v = .slice none 0 0 ∧ n = 0 ∧ xs = []) ∨ ∃ g cap, v = .slice (some ⟨g, 0, none⟩) n cap ∧ lo ≤ g ∧ g < hi ∧ g < w.heap.size := by
  have hl := h.len
  obtain ⟨us, h1, _⟩ := h
  have hlt := h1.1.lt
  have hhi := h1.2
  rcases h1.1.2.2 with ⟨rfl, rfl⟩ | ⟨g, cap, cur, rfl, _⟩
  · exact .inl ⟨rfl, rfl, List.eq_nil_of_length_eq_zero hl⟩
  · exact .inr ⟨g, cap, rfl, (hlt g rfl).1, hhi g rfl, (hlt g rfl).2⟩

/-- The elements' own blocks are no block of the row's. -/
theorem RowN.own (H : ElOk El blk e) {us : List σ} {g cap : Nat} (h1 : RowS cells size e w lo hi (.slice (some ⟨g, 0, none⟩) n cap) n us) {u : σ} {x : α} (h : El w lo hi u x) : g ∉ blk u := by
  intro hm
  rcases h1.1.2.2 with h0 | ⟨g', cap', cur, hv, _, hcur, _⟩
  · simp at h0
  · simp at hv
    exact H.apart h g hm cur (0, 0) (by rw [hv.1]; exact hcur)

/-- One element, and the way back behind a change of what it owns. -/
theorem RowN.elem (H : ElOk El blk e) (hE : ∀ u, (cells u).length = size) {g cap j : Nat} {x : α} (h : RowN El blk cells size e w lo hi (.slice (some ⟨g, 0, none⟩) n cap) n xs) (hj : xs[j]? = some x) :
    ∃ u, (∀ f y, (cells u)[f]? = some y → w.cell? ⟨g, j * size + f, none⟩ = some y) ∧ El w lo hi u x ∧
      ∀ w' y row, w.grownBy w' row → (∀ b, row = some b → b ∈ blk u) → El w' lo hi u y → RowN El blk cells size e w' lo hi (.slice (some ⟨g, 0, none⟩) n cap) n (xs.set j y) := by
  obtain ⟨us, h1, h2, h3, h4⟩ := h
  have hjb : j < xs.length := (List.getElem?_eq_some_iff.1 hj).1
  have hju : j < us.length := by omega
  have hx : us[j]? = some us[j] := by simp [hju]
  have hel := h3 j us[j] x hx hj
  refine ⟨us[j], fun f y hy => OwnR.cell hE h1.1 hx hy, hel, fun w' y row hg hr hel' => ?_⟩
  have hgn := RowN.own H h1 hel
  refine ⟨us, ⟨⟨h1.1.1, World.ownsRow.kept h1.1.2 hg (.inr (fun e1 => ?_))⟩, h1.2⟩, by simp [h2], ?_, h4⟩
  · exact hgn (hr g (by simpa [Value.ownBlock] using e1.symm))
  · intro i u' x' hu' hx'
    by_cases e1 : i = j
    · subst e1
      have e3 : u' = us[i] := by rw [hx] at hu'; simpa using hu'.symm
      have e4 : x' = y := by simpa [hjb] using hx'.symm
      subst e3 e4
      exact hel'
    · rw [List.getElem?_set_ne (Ne.symm e1)] at hx'
      exact H.grown (h3 i u' x' hu' hx') hg (fun b hb e2 => h4 j i us[j] u' (Ne.symm e1) hx hu' b (hr b e2) hb)

/-- A whole element is stored: what it owns lies behind all that the row had, or it was the element's own. -/
theorem RowN.set (H : ElOk El blk e) {g cap j hi' : Nat} {x' : α} {u' : σ} (h : RowN El blk cells size e w lo hi (.slice (some ⟨g, 0, none⟩) n cap) n xs) (hj : j < n)
    (hst : ∀ us : List σ, ∀ u, OwnR cells size e w lo (.slice (some ⟨g, 0, none⟩) n cap) n us → us[j]? = some u → OwnR cells size e w' lo (.slice (some ⟨g, 0, none⟩) n cap) n (us.set j u')) (hg : w.grownBy w' (some g))
    (hel : El w lo hi' u' x') (hd : ∀ b ∈ blk u', hi ≤ b) (hh : hi ≤ hi') (hgn : g ∉ blk u') :
    RowN El blk cells size e w' lo hi' (.slice (some ⟨g, 0, none⟩) n cap) n (xs.set j x') := by
  obtain ⟨us, h1, h2, h3, h4⟩ := h
  have hn := h1.len
  have hj' : j < us.length := by omega
  have hx : us[j]? = some us[j] := by simp [hj']
  have s1 := hst us us[j] h1.1 hx
  have old : ∀ (i : Nat) (y : σ), us[i]? = some y → ∀ b ∈ blk y, b < hi := fun i y hy b hb => by
    have : i < xs.length := by rw [← h2]; exact (List.getElem?_eq_some_iff.1 hy).1
    exact (H.inn (h3 i y xs[i] hy (by simp [this])) b hb).2.1
  refine ⟨us.set j u', ⟨s1, fun i hi1 => by have := h1.2 i hi1; omega⟩, by simp [h2], ?_, ?_⟩
  · intro i y z hy hz
    by_cases e1 : i = j
    · subst e1
      have e3 : y = u' := by simpa [hj'] using hy.symm
      have hjx : i < xs.length := by omega
      have e4 : z = x' := by simpa [hjx] using hz.symm
      subst e3 e4
      exact H.grown hel hg (fun b hb e2 => hgn (by cases e2; exact hb))
    · rw [List.getElem?_set_ne (Ne.symm e1)] at hy hz
      have h5 := h3 i y z hy hz
      exact H.mono (H.grown h5 hg (fun b hb e2 => RowN.own H h1 h5 (by cases e2; exact hb))) (Nat.le_refl _) hh
  · intro i i' y y' hne hy hy' b hb hb'
    by_cases e1 : i = j
    · subst e1
      have e3 : y = u' := by simpa [hj'] using hy.symm
      subst e3
      rw [List.getElem?_set_ne hne] at hy'
      have q1 := hd b hb
      have q2 := old i' y' hy' b hb'
      omega
    · rw [List.getElem?_set_ne (Ne.symm e1)] at hy
      by_cases e2 : i' = j
      · subst e2
        have e3 : y' = u' := by simpa [hj'] using hy'.symm
        subst e3
        have q1 := hd b hb'
        have q2 := old i y hy b hb
        omega
      · rw [List.getElem?_set_ne (Ne.symm e2)] at hy'
        exact h4 i i' y y' hne hy hy' b hb hb'

/-- One element more, whose own blocks lie behind all that the row had. -/
theorem RowN.snoc (H : ElOk El blk e) {v' : Value} {u' : σ} {x' : α} {hi' : Nat} (h : RowN El blk cells size e w lo hi v n xs) (hel : El w lo hi' u' x') (hd : ∀ b ∈ blk u', hi ≤ b) (hgn : ∀ g, v.ownBlock = some g → g ∉ blk u')
    (happ : ∀ us : List σ, w.ownsRow lo e size v n (us.flatMap cells) → w'.ownsRow lo e size v' (n + 1) (us.flatMap cells ++ cells u')) (hg : w.grownBy w' v.ownBlock) :
    RowN El blk cells size e w' lo w'.heap.size v' (n + 1) (xs ++ [x']) := by
  obtain ⟨us, h1, h2, h3, h4⟩ := h
  have hn := h1.len
  have ho := happ us h1.1.2
  have hz : w.heap.size ≤ w'.heap.size := hg.size
  have hno : ∀ {u : σ} {x : α}, El w lo hi u x → ∀ b ∈ blk u, v.ownBlock ≠ some b := by
    intro u x hu b hb hv
    rcases h1.1.2.2 with ⟨rfl, _⟩ | ⟨g, cap, cur, rfl, _⟩
    · simp [Value.ownBlock] at hv
    · simp [Value.ownBlock] at hv
      subst hv
      exact RowN.own H h1 hu hb
  have hcut : ∀ {β : Type} (l : List β) (y : β) (i : Nat) (z : β), (l ++ [y])[i]? = some z → (i < l.length ∧ l[i]? = some z) ∨ (i = l.length ∧ z = y) := by
    intro β l y i z hz
    by_cases hi : i < l.length
    · rw [List.getElem?_append_left hi] at hz; exact .inl ⟨hi, hz⟩
    · rw [List.getElem?_append_right (by omega)] at hz
      have : i - l.length = 0 := by
        have := (List.getElem?_eq_some_iff.1 hz).1
        simp at this; omega
      rw [this] at hz
      simp at hz
      exact .inr ⟨by omega, hz.symm⟩
  have up : ∀ {u : σ} {x : α} {l k : Nat}, El w' l k u x → El w' l w'.heap.size u x := fun q =>
    H.move q (fun b hb => by have := H.inn q b hb; omega)
  refine ⟨us ++ [u'], ⟨⟨by simp [hn], ?_⟩, fun i hi' => (World.ownsRow.lt ho i hi').2⟩, by simp [h2], ?_, ?_⟩
  · rw [List.flatMap_append]
    simpa using ho
  · intro i y z hy hz1
    rcases hcut _ _ _ _ hy with ⟨i1, k1⟩ | ⟨i1, k1⟩
    · rcases hcut _ _ _ _ hz1 with ⟨_, k2⟩ | ⟨i2, _⟩
      · have h5 := h3 i y z k1 k2
        exact up (H.grown h5 hg (fun b hb e1 => hno h5 b hb e1))
      · omega
    · rcases hcut _ _ _ _ hz1 with ⟨i2, _⟩ | ⟨_, k2⟩
      · omega
      · subst k1 k2
        exact up (H.grown hel hg (fun b hb e1 => hgn b e1 hb))
  · have old : ∀ (i : Nat) (y : σ), us[i]? = some y → ∀ b ∈ blk y, b < hi := fun i y hy b hb => by
      have : i < xs.length := by rw [← h2]; exact (List.getElem?_eq_some_iff.1 hy).1
      exact (H.inn (h3 i y xs[i] hy (by simp [this])) b hb).2.1
    intro i i' y y' hne' hy hy' b hb hb'
    rcases hcut _ _ _ _ hy with ⟨i1, k1⟩ | ⟨i1, k1⟩ <;> rcases hcut _ _ _ _ hy' with ⟨i2, k2⟩ | ⟨i2, k2⟩
    · exact h4 i i' y y' hne' k1 k2 b hb hb'
    · subst k2
      have q1 := hd b hb'
      have q2 := old i y k1 b hb
      omega
    · subst k1
      have q1 := hd b hb
      have q2 := old i' y' k2 b hb'
      omega
    · omega
end
end Go.Proofs.Ytoggkcgldckekaa
