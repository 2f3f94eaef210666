/-
  Chapter 5, plain mathematics: what is reckoned node by node, each from what it is of; CanBeEmpty. It speaks of no program.
-/
import Derived.Test.YtjjapnggdfiinaaNodeF
namespace Go.Proofs.Ytjjapnggdfiinaa
open Go.RowKit
set_option linter.unusedVariables false

theorem fault0_go {ns : List Nd} : ∀ (m k : Nat) (bs : List Int), ns.length = k + m → Beg ns k bs → faultGo bs (ns.drop k) = 0 → ∃ bs', Beg ns ns.length bs' ∧ bs'.getD (ns.length - 1) 0 = 0
  | 0, k, bs, hl, hb, h => by
    rw [List.drop_of_length_le (by omega)] at h
    have hk : k = ns.length := by omega
    subst hk
    refine ⟨bs, hb, ?_⟩
    rw [faultGo, hb.len] at h
    by_cases h0 : bs.getD (ns.length - 1) 0 = 0
    · exact h0
    · rw [if_neg h0] at h; omega
  | m + 1, k, bs, hl, hb, h => by
    have hx : ns[k]? = some ns[k] := List.getElem?_eq_getElem (by omega)
    rw [faultGo_at bs hx] at h
    by_cases h1 : FormP ns[k]
    · rw [if_neg (by simpa using h1)] at h
      by_cases h2 : rangeB ns[k] = true
      · rw [if_neg (by simp [h2])] at h
        by_cases h3 : beg bs ns[k] = -1
        · rw [if_pos h3] at h; omega
        · rw [if_neg h3] at h
          exact fault0_go m (k + 1) _ (by omega) (hb.succ hx h1 h2 h3) h
      · rw [if_pos (by simpa using h2)] at h; omega
    · rw [if_pos h1] at h; omega

theorem fault0 {ns : List Nd} (h : nodesFault ns = 0) : 1 ≤ ns.length ∧ ns.length ≤ 24 ∧ ∃ bs, Beg ns ns.length bs ∧ bs.getD (ns.length - 1) 0 = 0 := by
  unfold nodesFault at h
  by_cases h1 : ns.length < 1 ∨ 24 < ns.length
  · rw [if_pos h1] at h; omega
  · rw [if_neg h1] at h
    obtain ⟨bs, h2, h3⟩ := fault0_go ns.length 0 [] (by omega) (Beg.zero ns) h
    exact ⟨by omega, by omega, bs, h2, h3⟩

section
variable {α : Type}

/-- One by one, each from those ahead. -/
def valsOf (f : Nd → (Int → α) → α) (d : α) (ns : List Nd) : List α := ns.foldl (fun vs n => vs ++ [f n (fun j => vs.getD j.toNat d)]) []

theorem valsOf_succ {f : Nd → (Int → α) → α} {d : α} {ns : List Nd} {k : Nat} {x : Nd} (hx : ns[k]? = some x) :
    valsOf f d (ns.take (k + 1)) = valsOf f d (ns.take k) ++ [f x (fun j => (valsOf f d (ns.take k)).getD j.toNat d)] := by
  rw [List.take_add_one, hx]
  simp [valsOf, List.foldl_append]

theorem valsOf_len {f : Nd → (Int → α) → α} {d : α} (ns : List Nd) : ∀ k, k ≤ ns.length → (valsOf f d (ns.take k)).length = k
  | 0, _ => by simp [valsOf]
  | k + 1, h => by
    rw [valsOf_succ (x := ns[k]) (List.getElem?_eq_getElem (by omega)), List.length_append, valsOf_len ns k (by omega)]
    rfl

theorem valsOf_pre {f : Nd → (Int → α) → α} {d : α} (ns : List Nd) {i k : Nat} (hi : i < k) : ∀ m, k ≤ m → m ≤ ns.length → (valsOf f d (ns.take m)).getD i d = (valsOf f d (ns.take k)).getD i d := by
  intro m hk hm
  induction m with
  | zero => omega
  | succ m ih =>
    by_cases e : k = m + 1
    · rw [e]
    · rw [valsOf_succ (x := ns[m]) (List.getElem?_eq_getElem (by omega)), ← ih (by omega) (by omega)]
      rw [List.getD_eq_getElem?_getD, List.getElem?_append_left (by rw [valsOf_len ns m (by omega)]; omega), ← List.getD_eq_getElem?_getD]

/-- f asks of a node's own alone. -/
def Own2 (f : Nd → (Int → α) → α) : Prop := ∀ x g g', (8 ≤ x.k → g x.l = g' x.l) → (11 ≤ x.k → g x.r = g' x.r) → f x g = f x g'

theorem valsOf_at {f : Nd → (Int → α) → α} {d : α} (hf : Own2 f) {ns : List Nd} {bs : List Int} (hb : Beg ns ns.length bs) {i m : Nat} {x : Nd} (hx : ns[i]? = some x) (hi : i < m) (hm : m ≤ ns.length) :
    (valsOf f d (ns.take m)).getD i d = f x (fun j => (valsOf f d (ns.take m)).getD j.toNat d) := by
  have hn := (List.getElem?_eq_some_iff.1 hx).1
  rw [valsOf_pre ns (k := i + 1) (by omega) m (by omega) hm, valsOf_succ hx]
  rw [List.getD_eq_getElem?_getD, List.getElem?_append_right (by rw [valsOf_len ns i (by omega)]; omega), valsOf_len ns i (by omega)]
  simp only [Nat.sub_self, List.getElem?_cons_zero, Option.getD_some]
  have hform := (hb.at_ i x hn hx).1.1
  refine hf _ _ _ (fun h8 => ?_) (fun h11 => ?_)
  · by_cases h2 : x.k = 11 ∨ x.k = 12
    · have := hb.two hn hx h2
      exact (valsOf_pre ns (i := x.l.toNat) (k := i) (by omega) m (by omega) hm).symm
    · have := hb.one hn hx (by omega)
      exact (valsOf_pre ns (i := x.l.toNat) (k := i) (by omega) m (by omega) hm).symm
  · have := hb.two hn hx (by omega)
    exact (valsOf_pre ns (i := x.r.toNat) (k := i) (by omega) m (by omega) hm).symm
end

/-- A node can be empty, if those can that it is of. -/
def empF (x : Nd) (g : Int → Bool) : Bool :=
  if x.k = 1 ∨ x.k = 6 ∨ x.k = 7 ∨ x.k = 8 ∨ x.k = 10 then true else if x.k = 9 then g x.l else if x.k = 11 then g x.l && g x.r else if x.k = 12 then g x.l || g x.r else false

theorem empF_own : Own2 empF := by
  intro x g g' h1 h2
  unfold empF
  split
  · rfl
  · split
    · exact h1 (by omega)
    · split
      · rw [h1 (by omega), h2 (by omega)]
      · split
        · rw [h1 (by omega), h2 (by omega)]
        · rfl

def empV (ns : List Nd) (i : Nat) : Bool := (valsOf empF false ns).getD i false
theorem empV_at {ns : List Nd} {bs : List Int} (hb : Beg ns ns.length bs) {i : Nat} {x : Nd} (hx : ns[i]? = some x) : empV ns i = empF x (fun j => empV ns j.toNat) := by
  have hn := (List.getElem?_eq_some_iff.1 hx).1
  have h := valsOf_at (d := false) empF_own hb hx hn (Nat.le_refl _)
  rw [List.take_length] at h
  exact h

def canEmpty (ns : List Nd) : Bool := decide (nodesFault ns = 0) && empV ns (ns.length - 1)
end Go.Proofs.Ytjjapnggdfiinaa
