/-
  Chapter 7: what one comes to without a byte: a search in depth, whatever it tries first, marks the same places. Plain mathematics. It speaks of no program.
-/
import Derived.Test.YtoggkcgldckekaaSetM
namespace Go.Proofs.Ytoggkcgldckekaa
open Go.RowKit
set_option linter.unusedVariables false
set_option linter.unusedSimpArgs false

theorem getD_set_same {bs : List Bool} {p : Nat} {b : Bool} (h : p < bs.length) : (bs.set p b).getD p false = b := by
  simp [List.getD_eq_getElem?_getD, h]
theorem getD_set_other {bs : List Bool} {p q : Nat} {b : Bool} (h : q ≠ p) : (bs.set p b).getD q false = bs.getD q false := by
  simp [List.getD_eq_getElem?_getD, List.getElem?_set_ne (Ne.symm h)]
theorem getD_set_true {bs : List Bool} {p q : Nat} (h : (bs.set p true).getD q false = true) : q = p ∨ bs.getD q false = true := by
  by_cases e : q = p
  · exact .inl e
  · rw [getD_set_other e] at h; exact .inr h
theorem getD_set_keep {bs : List Bool} {p q : Nat} (h : bs.getD q false = true) : (bs.set p true).getD q false = true := by
  have hq : q < bs.length := by
    by_cases hq : q < bs.length
    · exact hq
    · simp [List.getD_eq_getElem?_getD, List.getElem?_eq_none (show bs.length ≤ q by omega)] at h
  by_cases e : q = p
  · subst e; exact getD_set_same hq
  · rw [getD_set_other e]; exact h

/-- How many are not marked. -/
def unM : List Bool → Nat
  | [] => 0
  | b :: bs => (if b then 0 else 1) + unM bs
theorem unM_le (bs : List Bool) : unM bs ≤ bs.length := by
  induction bs with
  | nil => simp [unM]
  | cons b bs ih => simp only [unM, List.length_cons]; split <;> omega
theorem unM_set {bs : List Bool} {p : Nat} (h : p < bs.length) (hb : bs.getD p false = false) : unM (bs.set p true) + 1 = unM bs := by
  induction bs generalizing p with
  | nil => simp at h
  | cons b bs ih =>
    cases p with
    | zero =>
      simp at hb
      subst hb
      simp [unM]
      omega
    | succ p =>
      have := ih (p := p) (by simpa using h) (by simpa using hb)
      simp [unM]
      omega

/-- A search in depth: 'tg' tells where an instruction leads, first and then. -/
def dfs (tg : In → Option Nat × Option Nat) (is : List In) : Nat → List Bool → Nat → List Bool
  | 0, bs, _ => bs
  | f + 1, bs, p =>
    if bs.getD p false then bs else
      match is[p]? with
      | none => bs.set p true
      | some i =>
        let b1 := bs.set p true
        let b2 := match (tg i).1 with | none => b1 | some q => dfs tg is f b1 q
        match (tg i).2 with | none => b2 | some q => dfs tg is f b2 q

/-- From p one comes to q. -/
def Nxt (tg : In → Option Nat × Option Nat) (is : List In) (p q : Nat) : Prop := ∃ i, is[p]? = some i ∧ ((tg i).1 = some q ∨ (tg i).2 = some q)
/-- Where one comes to is never behind n. -/
def Goes (tg : In → Option Nat × Option Nat) (is : List In) (n : Nat) : Prop := ∀ p q, Nxt tg is p q → q < n

structure Dfs (tg : In → Option Nat × Option Nat) (is : List In) (S S' : List Bool) (p : Nat) : Prop where
  len : S'.length = S.length
  un : unM S' ≤ unM S
  sub : ∀ q, S.getD q false = true → S'.getD q false = true
  mem : S'.getD p false = true
  cl : ∀ q r, S'.getD q false = true → S.getD q false = false → Nxt tg is q r → S'.getD r false = true
  min : ∀ C : Nat → Prop, (∀ q r, C q → Nxt tg is q r → C r) → C p → ∀ q, S'.getD q false = true → S.getD q false = true ∨ C q

/-- One target or none. -/
structure Dfo (tg : In → Option Nat × Option Nat) (is : List In) (S S' : List Bool) (t : Option Nat) : Prop where
  len : S'.length = S.length
  un : unM S' ≤ unM S
  sub : ∀ q, S.getD q false = true → S'.getD q false = true
  mem : ∀ p, t = some p → S'.getD p false = true
  cl : ∀ q r, S'.getD q false = true → S.getD q false = false → Nxt tg is q r → S'.getD r false = true
  min : ∀ C : Nat → Prop, (∀ q r, C q → Nxt tg is q r → C r) → (∀ p, t = some p → C p) → ∀ q, S'.getD q false = true → S.getD q false = true ∨ C q

theorem Dfs.opt {tg is S S' p} (h : Dfs tg is S S' p) : Dfo tg is S S' (some p) :=
  ⟨h.len, h.un, h.sub, fun q e => by cases e; exact h.mem, h.cl, fun C hC hp => h.min C hC (hp p rfl)⟩
theorem Dfo.none (tg is S) : Dfo tg is S S none :=
  ⟨rfl, Nat.le_refl _, fun _ h => h, fun p e => absurd e (by simp), fun q r h h' => absurd h (by rw [h']; simp), fun C _ _ q h => .inl h⟩

theorem dfs_dfs {tg : In → Option Nat × Option Nat} {is : List In} {n : Nat} (hg : Goes tg is n) : ∀ (f : Nat) (S : List Bool) (p : Nat), n ≤ S.length → p < S.length → unM S < f → Dfs tg is S (dfs tg is f S p) p
  | 0, S, p, _, _, h => by omega
  | f + 1, S, p, hn, hp, h => by
    unfold dfs
    by_cases hm : S.getD p false = true
    · rw [if_pos hm]
      exact ⟨rfl, Nat.le_refl _, fun _ h => h, hm, fun q r h h' => absurd h (by rw [h']; simp), fun C _ _ q h => .inl h⟩
    rw [if_neg hm]
    have hm' : S.getD p false = false := by simpa using hm
    have hu := unM_set hp hm'
    have hmem1 : (S.set p true).getD p false = true := getD_set_same hp
    cases hi : is[p]? with
    | none =>
      refine ⟨by simp, by simp only; omega, fun q h => getD_set_keep h, hmem1, ?_, ?_⟩
      · intro q r h1 h2 ⟨i, hi', _⟩
        rcases getD_set_true h1 with rfl | h1
        · rw [hi] at hi'; cases hi'
        · rw [h1] at h2; cases h2
      · intro C _ hC q h1
        rcases getD_set_true h1 with rfl | h1
        · exact .inr hC
        · exact .inl h1
    | some i =>
      simp only
      have d1 : Dfo tg is (S.set p true) (match (tg i).1 with | none => S.set p true | some q => dfs tg is f (S.set p true) q) (tg i).1 := by
        cases ht : (tg i).1 with
        | none => exact Dfo.none _ _ _
        | some q =>
          have hq : q < n := hg p q ⟨i, hi, .inl ht⟩
          exact (dfs_dfs hg f _ q (by simpa using hn) (by simp; omega) (by omega)).opt
      generalize (match (tg i).1 with | none => S.set p true | some q => dfs tg is f (S.set p true) q) = B2 at d1 ⊢
      have hl1 : (S.set p true).length = S.length := by simp
      have hl2 := d1.len
      have hu1 := d1.un
      have d2 : Dfo tg is B2 (match (tg i).2 with | none => B2 | some q => dfs tg is f B2 q) (tg i).2 := by
        cases ht : (tg i).2 with
        | none => exact Dfo.none _ _ _
        | some q =>
          have hq : q < n := hg p q ⟨i, hi, .inr ht⟩
          exact (dfs_dfs hg f _ q (by omega) (by omega) (by omega)).opt
      generalize (match (tg i).2 with | none => B2 | some q => dfs tg is f B2 q) = B3 at d2 ⊢
      have hu2 := d2.un
      refine ⟨by rw [d2.len, d1.len, hl1], by omega, fun q h => d2.sub q (d1.sub q (getD_set_keep h)), d2.sub p (d1.sub p hmem1), ?_, ?_⟩
      · intro q r h1 h2 hx
        by_cases hB2 : B2.getD q false = true
        · by_cases hB1 : (S.set p true).getD q false = true
          · rcases getD_set_true hB1 with rfl | h3
            · obtain ⟨i', hi', ht⟩ := hx
              rw [hi] at hi'
              cases hi'
              rcases ht with ht | ht
              · exact d2.sub r (d1.mem r ht)
              · exact d2.mem r ht
            · rw [h3] at h2; cases h2
          · exact d2.sub r (d1.cl q r hB2 (by simpa using hB1) hx)
        · exact d2.cl q r h1 (by simpa using hB2) hx
      · intro C hC hp' q h1
        rcases d2.min C hC (fun r hr => hC p r hp' ⟨i, hi, .inr hr⟩) q h1 with h2 | h2
        · rcases d1.min C hC (fun r hr => hC p r hp' ⟨i, hi, .inl hr⟩) q h2 with h3 | h3
          · rcases getD_set_true h3 with rfl | h3
            · exact .inr hp'
            · exact .inl h3
          · exact .inr h3
        · exact .inr h2

/-- From several places on. -/
def dfsAll (tg : In → Option Nat × Option Nat) (is : List In) (bs : List Bool) (ps : List Int) : List Bool := ps.foldl (fun b p => dfs tg is 81 b p.toNat) bs

/-- The least set that is closed and has all of some places. -/
structure Least (tg : In → Option Nat × Option Nat) (is : List In) (ps : List Int) (R : List Bool) : Prop where
  mem : ∀ p ∈ ps, R.getD p.toNat false = true
  cl : ∀ q r, R.getD q false = true → Nxt tg is q r → R.getD r false = true
  min : ∀ C : Nat → Prop, (∀ q r, C q → Nxt tg is q r → C r) → (∀ p ∈ ps, C p.toNat) → ∀ q, R.getD q false = true → C q

theorem dfsAll_len {tg : In → Option Nat × Option Nat} {is : List In} {n : Nat} (hg : Goes tg is n) (L : Nat) (hn : n ≤ L) (hL : L ≤ 80) (S : List Bool) (hS : S.length = L) (ps : List Int) (hp : ∀ p ∈ ps, p.toNat < n) : (dfsAll tg is S ps).length = L := by
  induction ps generalizing S with
  | nil => exact hS
  | cons p ps ih =>
    have hpn := hp p (by simp)
    have hu := unM_le S
    have d := dfs_dfs hg 81 S p.toNat (by omega) (by omega) (by omega)
    exact ih (dfs tg is 81 S p.toNat) (by rw [d.len, hS]) (fun q hq => hp q (by simp [hq]))

theorem dfsAll_go {tg : In → Option Nat × Option Nat} {is : List In} {n : Nat} (hg : Goes tg is n) (L : Nat) (hn : n ≤ L) (hL : L ≤ 80) (S : List Bool) (hS : S.length = L) (ds : List Int) (h : Least tg is ds S) (ps : List Int) (hp : ∀ p ∈ ps, p.toNat < n) : Least tg is (ds ++ ps) (dfsAll tg is S ps) := by
  induction ps generalizing S ds with
  | nil => simpa [dfsAll] using h
  | cons p ps ih =>
    have hpn := hp p (by simp)
    have hu := unM_le S
    have d := dfs_dfs hg 81 S p.toNat (by omega) (by omega) (by omega)
    have h' : Least tg is (ds ++ [p]) (dfs tg is 81 S p.toNat) := by
      refine ⟨?_, ?_, ?_⟩
      · intro q hq
        rcases List.mem_append.1 hq with hq | hq
        · exact d.sub _ (h.mem q hq)
        · simp at hq
          subst hq
          exact d.mem
      · intro q r h1 hx
        by_cases h2 : S.getD q false = true
        · exact d.sub _ (h.cl q r h2 hx)
        · exact d.cl q r h1 (by simpa using h2) hx
      · intro C hC hps q h1
        rcases d.min C hC (hps p (by simp)) q h1 with h2 | h2
        · exact h.min C hC (fun r hr => hps r (by simp [hr])) q h2
        · exact h2
    have := ih (dfs tg is 81 S p.toNat) (by rw [d.len, hS]) (ds ++ [p]) h' (fun q hq => hp q (by simp [hq]))
    rw [List.append_assoc] at this
    exact this

theorem least_none (tg : In → Option Nat × Option Nat) (is : List In) (L : Nat) : Least tg is [] (List.replicate L false) := by
  have h : ∀ q, (List.replicate L false).getD q false = false := by
    intro q
    by_cases hq : q < L <;> simp [List.getD_eq_getElem?_getD, hq]
  exact ⟨fun p hp => by simp at hp, fun q r h1 => absurd h1 (by rw [h]; simp), fun C _ _ q h1 => absurd h1 (by rw [h]; simp)⟩

theorem dfsAll_least {tg : In → Option Nat × Option Nat} {is : List In} {n : Nat} (hg : Goes tg is n) (L : Nat) (hn : n ≤ L) (hL : L ≤ 80) (ps : List Int) (hp : ∀ p ∈ ps, p.toNat < n) : Least tg is ps (dfsAll tg is (List.replicate L false) ps) := by
  have := dfsAll_go hg L hn hL _ (by simp) [] (least_none tg is L) ps hp
  simpa using this

theorem Least.lt {tg : In → Option Nat × Option Nat} {is : List In} {n : Nat} (hg : Goes tg is n) {ps : List Int} {R : List Bool} (h : Least tg is ps R) (hp : ∀ p ∈ ps, p.toNat < n) : ∀ q, R.getD q false = true → q < n :=
  h.min (fun q => q < n) (fun q r _ hx => hg q r hx) hp

/-- Whatever is tried first: the same places. -/
theorem Least.same {tg tg' : In → Option Nat × Option Nat} {is : List In} (he : ∀ p q, Nxt tg is p q ↔ Nxt tg' is p q) {ps ps' : List Int} (hps : ∀ p, p ∈ ps ↔ p ∈ ps') {R R' : List Bool} (h : Least tg is ps R) (h' : Least tg' is ps' R') : ∀ q, R.getD q false = R'.getD q false := by
  have h1 : ∀ q, R.getD q false = true → R'.getD q false = true := h.min (fun q => R'.getD q false = true) (fun q r hq hx => h'.cl q r hq ((he q r).1 hx)) (fun p hp => h'.mem p ((hps p).1 hp))
  have h2 : ∀ q, R'.getD q false = true → R.getD q false = true := h'.min (fun q => R.getD q false = true) (fun q r hq hx => h.cl q r hq ((he q r).2 hx)) (fun p hp => h.mem p ((hps p).2 hp))
  intro q
  cases e : R.getD q false <;> cases e' : R'.getD q false
  · rfl
  · rw [h2 q e'] at e; cases e
  · rw [h1 q e] at e'; cases e'
  · rfl

/-- Does an instruction lead to its X? -/
def goesX (b e : Bool) (i : In) : Bool := decide (i.o = 2) || decide (i.o = 3) || (decide (i.o = 4) && b) || (decide (i.o = 5) && e)
/-- The program goes to Y first, the specification to X. -/
def tgI (b e : Bool) (i : In) : Option Nat × Option Nat := (if i.o = 2 then some i.y.toNat else none, if goesX b e i then some i.x.toNat else none)
def tgS (b e : Bool) (i : In) : Option Nat × Option Nat := (if goesX b e i then some i.x.toNat else none, if i.o = 2 then some i.y.toNat else none)
theorem nxt_same (b e : Bool) (is : List In) (p q : Nat) : Nxt (tgI b e) is p q ↔ Nxt (tgS b e) is p q := by
  unfold Nxt tgI tgS
  constructor <;> rintro ⟨i, hi, h⟩ <;> exact ⟨i, hi, h.symm⟩

/-- Each place to which an instruction leads is one. -/
def Inside (is : List In) : Prop := ∀ i ∈ is, (0 ≤ i.x ∧ i.x < is.length) ∧ (0 ≤ i.y ∧ i.y < is.length)
theorem inside_of {is : List In} (h : progFault is = 0) : Inside is := fun i hi => by
  have := instF_ok (progGo_all (progFault_ok h).2.2 i hi)
  exact ⟨this.2.1, this.2.2.1⟩
theorem goes_of {is : List In} (h : Inside is) (b e : Bool) : Goes (tgI b e) is is.length ∧ Goes (tgS b e) is is.length := by
  have h1 : Goes (tgI b e) is is.length := by
    rintro p q ⟨i, hi, ht⟩
    have hw := h i (List.mem_of_getElem? hi)
    unfold tgI at ht
    simp only at ht
    rcases ht with ht | ht
    · split at ht
      · cases ht; omega
      · cases ht
    · split at ht
      · cases ht; omega
      · cases ht
  exact ⟨h1, fun p q hx => h1 p q ((nxt_same b e is p q).2 hx)⟩

/-- What the program comes to, and what the specification comes to. -/
def closeI (is : List In) (b e : Bool) (ps : List Int) : List Bool := dfsAll (tgI b e) is (List.replicate 80 false) ps
def closeS (is : List In) (b e : Bool) (ps : List Int) : List Bool := dfsAll (tgS b e) is (List.replicate is.length false) ps

theorem close_same {is : List In} (h : Inside is) (h80 : is.length ≤ 80) (b e : Bool) {ps : List Int} (hp : ∀ p ∈ ps, p.toNat < is.length) : placesOf (closeI is b e ps) = placesOf (closeS is b e ps) := by
  obtain ⟨g1, g2⟩ := goes_of h b e
  have l1 := dfsAll_least g1 80 h80 (Nat.le_refl _) ps hp
  have l2 := dfsAll_least g2 is.length (Nat.le_refl _) h80 ps hp
  have hs := Least.same (nxt_same b e is) (fun p => Iff.rfl) l1 l2
  have n1 : (closeI is b e ps).length = 80 := dfsAll_len g1 80 h80 (Nat.le_refl _) _ (by simp) ps hp
  have n2 : (closeS is b e ps).length = is.length := dfsAll_len g2 is.length (Nat.le_refl _) h80 _ (by simp) ps hp
  unfold placesOf
  rw [n1, n2]
  have e1 : placesTo (closeI is b e ps) 80 = placesTo (closeI is b e ps) is.length := by
    rw [show 80 = is.length + (80 - is.length) by omega]
    refine placesTo_more (fun i hi => ?_)
    cases hb : (closeI is b e ps).getD i false
    · rfl
    · have := l1.lt g1 hp i hb; omega
  rw [e1]
  exact placesTo_congr (fun i _ => hs i)
end Go.Proofs.Ytoggkcgldckekaa
