/-
  StpM, Ent8, Ent9 in one text.
-/
import Derived.Test.YtlemdjgpkmjihaaGreatEnt2
import Derived.Test.YtlemdjgpkmjihaaGreatMem0
import Derived.Test.YtlemdjgpkmjihaaGreatEntA
import Derived.Test.YtlemdjgpkmjihaaGreatEntB
namespace Go.Proofs.YtlemdjgpkmjihaaGreat
open Go.RowKit
set_option linter.unusedVariables false
set_option linter.unusedSimpArgs false

/-- Where the arc of a byte leads; -1: there is none. -/
def arcTo : List L2 → Int → Int
  | [], _ => -1
  | a :: az, b => if a.1 = b then a.2 else arcTo az b
theorem arcTo_at {az : List L2} {k : Nat} {c : L2} {b : Int} (h : az[k]? = some c) : arcTo (az.drop k) b = if c.1 = b then c.2 else arcTo (az.drop (k + 1)) b := by
  obtain ⟨hk, e⟩ := List.getElem?_eq_some_iff.1 h
  rw [List.drop_eq_getElem_cons hk, e, arcTo]
theorem arcTo_end {az : List L2} {k : Nat} {b : Int} (h : az.length ≤ k) : arcTo (az.drop k) b = -1 := by
  rw [List.drop_of_length_le h]; rfl
theorem arcTo_cases (az : List L2) (b : Int) : (arcTo az b = -1 ∧ ∀ a ∈ az, a.1 ≠ b) ∨ ∃ a ∈ az, a.1 = b ∧ arcTo az b = a.2 := by
  induction az with
  | nil => exact .inl ⟨rfl, by simp⟩
  | cons a az ih =>
    rw [arcTo]
    by_cases h : a.1 = b
    · rw [if_pos h]; exact .inr ⟨a, by simp, h, rfl⟩
    · rw [if_neg h]
      rcases ih with ⟨h1, h2⟩ | ⟨c, h1, h2, h3⟩
      · refine .inl ⟨h1, fun c hc => ?_⟩
        rcases List.mem_cons.1 hc with rfl | hc
        · exact h
        · exact h2 c hc
      · exact .inr ⟨c, by simp [h1], h2, h3⟩

def stAt (ts : List St) (s : Nat) : St := ts.getD s ([], [])
theorem stAt_of {ts : List St} {s : Nat} {x : St} (h : ts[s]? = some x) : stAt ts s = x := by rw [stAt, List.getD_eq_getElem?_getD, h]; rfl
/-- A step: where it leads, and the states behind it. -/
def goP (is : List In) (z : Int) (ts : List St) (s : Nat) (b : Int) : Int :=
  if 0 ≤ arcTo (stAt ts s).2 b then arcTo (stAt ts s).2 b else entP z ts (nextS is (stAt ts s).1 b)
def goS (is : List In) (z : Int) (ts : List St) (s : Nat) (b : Int) : List St :=
  if 0 ≤ arcTo (stAt ts s).2 b then ts
  else if entG z ts (nextS is (stAt ts s).1 b) then entS z ts (nextS is (stAt ts s).1 b)
  else (entS z ts (nextS is (stAt ts s).1 b)).set s ((stAt ts s).1, (stAt ts s).2 ++ [(b, entP z ts (nextS is (stAt ts s).1 b))])

/-- A table at work: what holds of its states. -/
structure TabI (n : Nat) (z : Int) (M : Nat) (ts : List St) : Prop where
  lone : Lone ts
  rise : ∀ y ∈ ts, y.1.Pairwise (· < ·)
  inn : ∀ y ∈ ts, ∀ x ∈ y.1, 0 ≤ x ∧ x < (n : Int)
  lens : ∀ y ∈ ts, y.1.length ≤ 80
  arcs : ∀ y ∈ ts, ∀ a ∈ y.2, 0 ≤ a.2 ∧ a.2 < (ts.length : Int)
  many : ∀ y ∈ ts, y.2.length ≤ M
  len : (ts.length : Int) ≤ z
  size : 1 ≤ z ∧ z ≤ 12

theorem tabI_of {is : List In} {z : Int} {ts : List St} (h : tabF is z ts = 0) : TabI is.length z 256 ts := by
  obtain ⟨h1, h2, h3, h4, h5⟩ := tabF_ok h
  have h6 := stateGo_all h4
  have h7 : ∀ y ∈ ts, setFault is y.1 = 0 ∧ arcsF ts.length y.2 = 0 := fun y hy => stateF_ok (h6 y hy)
  refine ⟨h5, fun y hy => setFault_rise (h7 y hy).1, fun y hy => (setFault_ok (h7 y hy).1).2.2, fun y hy => (setFault_ok (h7 y hy).1).2.1, fun y hy a ha => ?_, fun y hy => (arcsF_ok (h7 y hy).2).1, h3, h2⟩
  have := (arcsF_ok (h7 y hy).2).2 a ha
  unfold ArcBad at this
  omega

theorem TabI.enter {n : Nat} {z : Int} {M : Nat} {ts : List St} (h : TabI n z M ts) {xs : List Int} (hr : xs.Pairwise (· < ·)) (hx : ∀ x ∈ xs, 0 ≤ x ∧ x < (n : Int)) (hl : xs.length ≤ 80) :
    TabI n z M (entS z ts xs) ∧ (0 ≤ entP z ts xs ∧ entP z ts xs < ((entS z ts xs).length : Int)) ∧ ((entS z ts xs).map (·.1))[(entP z ts xs).toNat]? = some xs := by
  unfold entS entP
  by_cases hm : xs ∈ ts.map (·.1)
  · simp only [hm, if_true]
    refine ⟨h, ?_⟩
    rcases tAt_spec ts xs with ⟨_, h2⟩ | ⟨j, h1, h2, h3⟩
    · exact absurd hm h2
    · have := (List.getElem?_eq_some_iff.1 h2).1
      rw [List.length_map] at this
      rw [h1]
      exact ⟨⟨by omega, by omega⟩, by simpa using h2⟩
  · simp only [hm, if_false]
    by_cases hz : z ≤ ts.length
    · simp only [hz, if_true]
      refine ⟨⟨by simp [Lone], ?_, ?_, ?_, ?_, ?_, ?_, h.size⟩, ⟨by simp, by simp⟩, by simp⟩
      · intro y hy; simp at hy; subst hy; exact hr
      · intro y hy; simp at hy; subst hy; exact hx
      · intro y hy; simp at hy; subst hy; exact hl
      · intro y hy a ha; simp at hy; subst hy; simp at ha
      · intro y hy; simp at hy; subst hy; simp
      · have := h.size; simp; omega
    · simp only [hz, if_false]
      have hlen := h.len
      refine ⟨⟨?_, ?_, ?_, ?_, ?_, ?_, ?_, h.size⟩, ⟨by omega, by simp; omega⟩, by simp⟩
      · unfold Lone
        rw [List.map_append, List.nodup_append]
        refine ⟨h.lone, by simp, fun a ha b hb => ?_⟩
        simp at hb
        subst hb
        intro e
        subst e
        exact hm ha
      · intro y hy
        rcases List.mem_append.1 hy with hy | hy
        · exact h.rise y hy
        · simp at hy; subst hy; exact hr
      · intro y hy
        rcases List.mem_append.1 hy with hy | hy
        · exact h.inn y hy
        · simp at hy; subst hy; exact hx
      · intro y hy
        rcases List.mem_append.1 hy with hy | hy
        · exact h.lens y hy
        · simp at hy; subst hy; exact hl
      · intro y hy a ha
        rcases List.mem_append.1 hy with hy | hy
        · have := h.arcs y hy a ha
          simp only [List.length_append, List.length_singleton]
          omega
        · simp at hy; subst hy; simp at ha
      · intro y hy
        rcases List.mem_append.1 hy with hy | hy
        · exact h.many y hy
        · simp at hy; subst hy; simp
      · simp; omega

theorem entG_cases (z : Int) (ts : List St) (xs : List Int) : (entG z ts xs = true ∧ entP z ts xs = 0 ∧ entS z ts xs = [(xs, [])]) ∨ (entG z ts xs = false ∧ ∃ us, entS z ts xs = ts ++ us) := by
  unfold entG entP entS
  by_cases hm : xs ∈ ts.map (·.1)
  · simp only [hm, if_true]
    exact .inr ⟨by simp, [], by simp⟩
  · simp only [hm, if_false]
    by_cases hz : z ≤ ts.length
    · simp only [hz, if_true]
      exact .inl ⟨by simp, by simp, by simp⟩
    · simp only [hz, if_false]
      exact .inr ⟨by simp [hz], [(xs, [])], by simp⟩

theorem TabI.more {n : Nat} {z : Int} {M M' : Nat} {ts : List St} (h : TabI n z M ts) (hM : M ≤ M') : TabI n z M' ts :=
  ⟨h.lone, h.rise, h.inn, h.lens, h.arcs, fun y hy => Nat.le_trans (h.many y hy) hM, h.len, h.size⟩

/-- The arcs of a state grow by one. -/
theorem TabI.arc {n : Nat} {z : Int} {M : Nat} {ts : List St} (h : TabI n z M ts) {s : Nat} {x : St} (hs : ts[s]? = some x) {b p : Int} (hp : 0 ≤ p ∧ p < (ts.length : Int)) (hx : x.2.length ≤ M) :
    TabI n z (M + 1) (ts.set s (x.1, x.2 ++ [(b, p)])) := by
  obtain ⟨hk, e⟩ := List.getElem?_eq_some_iff.1 hs
  have hxm : x ∈ ts := by rw [← e]; exact List.getElem_mem hk
  have hmap : (ts.set s (x.1, x.2 ++ [(b, p)])).map (·.1) = ts.map (·.1) := by
    rw [List.map_set]
    apply List.ext_getElem?
    intro i
    by_cases hi : i = s
    · subst hi
      simp [hk, hs, e]
    · rw [List.getElem?_set_ne (Ne.symm hi)]
  have hmem : ∀ y ∈ ts.set s (x.1, x.2 ++ [(b, p)]), y ∈ ts ∨ y = (x.1, x.2 ++ [(b, p)]) := fun y hy => List.mem_or_eq_of_mem_set hy
  refine ⟨by unfold Lone; rw [hmap]; exact h.lone, ?_, ?_, ?_, ?_, ?_, by rw [List.length_set]; exact h.len, h.size⟩
  · intro y hy
    rcases hmem y hy with hy | rfl
    · exact h.rise y hy
    · exact h.rise x hxm
  · intro y hy
    rcases hmem y hy with hy | rfl
    · exact h.inn y hy
    · exact h.inn x hxm
  · intro y hy
    rcases hmem y hy with hy | rfl
    · exact h.lens y hy
    · exact h.lens x hxm
  · intro y hy a ha
    rw [List.length_set]
    rcases hmem y hy with hy | rfl
    · exact h.arcs y hy a ha
    · rcases List.mem_append.1 ha with ha | ha
      · exact h.arcs x hxm a ha
      · simp at ha; subst ha; exact hp
  · intro y hy
    rcases hmem y hy with hy | rfl
    · exact Nat.le_succ_of_le (h.many y hy)
    · simp; omega

theorem TabI.step {is : List In} (hin : Inside is) (h80 : is.length ≤ 80) {z : Int} {M : Nat} {ts : List St} (h : TabI is.length z M ts) {s : Nat} (hs : s < ts.length) (b : Int) :
    TabI is.length z (M + 1) (goS is z ts s b) ∧ 0 ≤ goP is z ts s b ∧ goP is z ts s b < ((goS is z ts s b).length : Int) := by
  have hx : ts[s]? = some ts[s] := List.getElem?_eq_getElem hs
  have hxm : ts[s] ∈ ts := List.getElem_mem hs
  unfold goS goP
  rw [stAt_of hx]
  generalize ts[s] = x at hx hxm
  by_cases ha : 0 ≤ arcTo x.2 b
  · rw [if_pos ha, if_pos ha]
    refine ⟨h.more (by omega), ?_⟩
    rcases arcTo_cases x.2 b with ⟨h1, _⟩ | ⟨a, h1, h2, h3⟩
    · omega
    · rw [h3]; exact h.arcs x hxm a h1
  · rw [if_neg ha, if_neg ha]
    obtain ⟨n1, n2, n3⟩ := nextS_ok hin h80 b (h.rise x hxm) (h.inn x hxm)
    obtain ⟨e1, e2, e3⟩ := h.enter n1 n2 n3
    generalize nextS is x.1 b = xs at *
    rcases entG_cases z ts xs with ⟨g1, g2, g3⟩ | ⟨g1, us, g3⟩
    · rw [g1]
      simp only [if_true]
      exact ⟨e1.more (by omega), e2⟩
    · rw [g1]
      simp only [Bool.false_eq_true, if_false]
      rw [g3] at e1 e2 ⊢
      have hx' : (ts ++ us)[s]? = some x := by rw [List.getElem?_append_left hs]; exact hx
      refine ⟨e1.arc hx' e2 (h.many x hxm), ?_⟩
      rw [List.length_set]
      exact e2
/-- StepTable: code, value, size, states. -/
def stpCode (is : List In) (z : Int) (ts : List St) (s : Int) : Int := if tabF is z ts ≠ 0 then tabF is z ts else if s < 0 ∨ (ts.length : Int) ≤ s then 3 else 0
def stpVal (is : List In) (z : Int) (ts : List St) (s b : Int) : Int := if stpCode is z ts s = 0 then goP is z ts s.toNat b else 0
def stpSize (is : List In) (z : Int) (ts : List St) (s : Int) : Int := if stpCode is z ts s = 0 then z else 0
def stpRows (is : List In) (z : Int) (ts : List St) (s b : Int) : List St := if stpCode is z ts s = 0 then goS is z ts s.toNat b else []
end Go.Proofs.YtlemdjgpkmjihaaGreat

namespace Go.Proofs.YtlemdjgpkmjihaaGreat
open Go.RowKit
set_option linter.unusedVariables false
set_option linter.unusedSimpArgs false

theorem mtOf_set (x : St) : (mtOf x).1.1 = markB x.1 := rfl

/-- A set enters the memory: as it enters the table. -/
theorem enterT_any (W0 w : World) (B b q : Nat) (z : Int) (pv v : Value) (N M : Nat) (ts : List St) (xs : List Int) (h : Mem W0 w B b q z pv v (ts.map mtOf) (entsFrom 0 (ts.map mtOf))) (ht : TabI N z M ts) (hN : N ≤ 80) (hr : xs.Pairwise (· < ·)) (hx : ∀ x ∈ xs, 0 ≤ x ∧ x < (N : Int)) :
    Calls Tryz.prog 66 #[.pointer (some ⟨B, 0, none⟩), .agg (boolsA (markB xs))] w fun r w' => r = .returned (.tuple #[.int .i64 (entP z ts xs), .bool (entG z ts xs)]) ∧ ∃ v', Mem W0 w' B b q z pv v' ((entS z ts xs).map mtOf) (entsFrom 0 ((entS z ts xs).map mtOf)) := by
  unfold entP entG entS
  by_cases hm : xs ∈ ts.map (·.1)
  · simp only [hm, if_true]
    rcases tAt_spec ts xs with ⟨_, h2⟩ | ⟨j, h1, h2, h3⟩
    · exact absurd hm h2
    · have hj : j < ts.length := by
        have := (List.getElem?_eq_some_iff.1 h2).1
        rwa [List.length_map] at this
      have hx2 : ts[j].1 = xs := by
        rw [List.getElem?_map, List.getElem?_eq_getElem hj] at h2
        simpa using h2
      have hmt : (ts.map mtOf)[j]? = some (mtOf ts[j]) := by simp [hj]
      refine (enter_any W0 w B b q z pv v (ts.map mtOf) (markB xs) (markB_len xs) h j (mtOf ts[j]) hmt (by rw [mtOf_set, hx2])).mono ?_
      rintro r w' ⟨rfl, hm'⟩
      exact ⟨by rw [h1], v, hm'⟩
  · simp only [hm, if_false]
    have hlen := ht.len
    have hz := ht.size
    have hnew : ∀ x ∈ ts.map mtOf, x.1.1 ≠ markB xs := by
      intro x hxm e
      obtain ⟨y, hy, rfl⟩ := List.mem_map.1 hxm
      rw [mtOf_set] at e
      have := (markB_eq (ht.rise y hy) hr (fun x h => by have := ht.inn y hy x h; omega) (fun x h => by have := hx x h; omega)).1 e
      exact hm (List.mem_map.2 ⟨y, hy, this⟩)
    refine (enter_new W0 w B b q z pv v (ts.map mtOf) ⟨markB xs, markB_len xs⟩ h hnew (by rw [List.length_map]; omega)).mono ?_
    rintro r w' ⟨rfl, v', ms', rfl, hm'⟩
    rw [List.length_map] at hm' ⊢
    by_cases hzl : z ≤ ts.length
    · have e : (ts.length : Int) = z := by omega
      simp only [e, if_true, hzl, Int.le_refl, decide_true] at hm' ⊢
      exact ⟨trivial, v', hm'⟩
    · have e : ¬ (ts.length : Int) = z := by omega
      simp only [e, if_false, hzl, decide_false] at hm' ⊢
      refine ⟨trivial, v', ?_⟩
      rw [List.map_append]
      exact hm'

theorem tableT_any (W0 w : World) (B b q : Nat) (z : Int) (pv v : Value) (N M : Nat) (ts : List St) (h : Mem W0 w B b q z pv v (ts.map mtOf) (entsFrom 0 (ts.map mtOf))) (ht : TabI N z M ts) (hN : N ≤ 80) (hM : M ≤ 65536) :
    Calls Tryz.prog 36 #[.pointer (some ⟨B, 0, none⟩)] w fun e w' => ∃ va c, e = .returned (.agg #[.int .i64 z, .slice va ts.length c]) ∧ RowT false 91 2 99 w' w.heap.size w'.heap.size (.slice va ts.length c) ts.length ts ∧ Below w.heap.size w w' := by
  have hlen := ht.len
  have hz := ht.size
  exact table_any W0 w B b q z pv v ts ts.length _ h rfl (by omega) (fun y hy => ⟨⟨⟨ht.rise y hy, fun x hx => by have := ht.inn y hy x hx; omega⟩, ht.lens y hy⟩, by have := ht.many y hy; omega⟩)

end Go.Proofs.YtlemdjgpkmjihaaGreat

namespace Go.Proofs.YtlemdjgpkmjihaaGreat
open Go.RowKit
set_option linter.unusedVariables false
set_option linter.unusedSimpArgs false

theorem stN_le {M : Nat} : ∀ {ts : List St}, (∀ y ∈ ts, y.1.length ≤ 80) → (∀ y ∈ ts, y.2.length ≤ M) → stN ts ≤ ts.length * (80 + M)
  | [], _, _ => by simp [stN]
  | x :: ts, h1, h2 => by
    have ih := stN_le (M := M) (ts := ts) (fun y hy => h1 y (by simp [hy])) (fun y hy => h2 y (by simp [hy]))
    have a := h1 x (by simp)
    have b := h2 x (by simp)
    rw [stN, List.length_cons, Nat.add_mul]
    omega
theorem TabI.sum {n : Nat} {z : Int} {M : Nat} {ts : List St} (h : TabI n z M ts) : (ts.length : Int) + stN ts ≤ 12 * (81 + M) := by
  have h1 := stN_le h.lens h.many
  have h2 := h.len
  have h3 := h.size
  have h4 : ts.length ≤ 12 := by omega
  have h5 : ts.length * (80 + M) ≤ 12 * (80 + M) := Nat.mul_le_mul_right _ h4
  have h6 : ((12 * (80 + M) : Nat) : Int) = 12 * (80 + M) := by push_cast; rfl
  omega
theorem enRows_len (cs : List In) (z : Int) (ts : List St) (xs : List Int) : ((enRows cs z ts xs).length : Int) + stN (enRows cs z ts xs) ≤ 10000 := by
  unfold enRows
  by_cases h : enCode cs z ts xs = 0
  · rw [if_pos h]
    unfold enCode at h
    by_cases hf : tabF cs z ts ≠ 0
    · rw [if_pos hf] at h; exact absurd h hf
    · rw [if_neg hf] at h
      have hI := tabI_of (Decidable.not_not.1 hf)
      obtain ⟨-, k1, k2⟩ := setFault_ok h
      have := (hI.enter (setFault_rise h) k2 k1).1.sum
      omega
  · rw [if_neg h]; simp [stN]
end Go.Proofs.YtlemdjgpkmjihaaGreat
