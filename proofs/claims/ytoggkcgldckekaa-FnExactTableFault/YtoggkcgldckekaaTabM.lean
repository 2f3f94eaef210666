/-
  Chapter 8: a table: what its states read as, and what the call owns of them; plain mathematics. It speaks of no program.
-/
import Derived.Test.YtoggkcgldckekaaNest
import Derived.Test.YtoggkcgldckekaaLinesM
import Derived.Test.YtoggkcgldckekaaHlpI
namespace Go.Proofs.Ytoggkcgldckekaa
open Go.RowKit
set_option linter.unusedVariables false
set_option linter.unusedSimpArgs false

/-- A state as read: its set and its arcs. -/
abbrev St := List Int × List L2
/-- A state as it stands: two slices. -/
abbrev Sv := Value × Value
def svE (u : Sv) : List Value := [u.1, u.2]
theorem svE_len (u : Sv) : (svE u).length = 2 := rfl
/-- As the call owns it: with the blocks of the two. -/
abbrev Su := (Value × Option Nat) × (Value × Option Nat)
def suE (u : Su) : List Value := [u.1.1, u.2.1]
theorem suE_len (u : Su) : (suE u).length = 2 := rfl
def suB (u : Su) : List Nat := u.1.2.toList ++ u.2.2.toList
theorem suB_mem (u : Su) (g : Nat) : g ∈ suB u ↔ u.1.2 = some g ∨ u.2.2 = some g := by
  simp [suB, Option.mem_toList]

def StRd (w : World) (u : Sv) (x : St) : Prop :=
  (∃ a c, u.1 = .slice a x.1.length c ∧ Rd .i64 w a x.1.length x.1 ∧ x.1.length ≤ c ∧ c ≤ maxLen) ∧ (∃ a c, u.2 = .slice a x.2.length c ∧ RdR lineE 2 w a x.2.length x.2 ∧ x.2.length ≤ c ∧ c ≤ maxLen)

/-- The slice with head a, of n states, reads in w az ts. -/
def RdT (w : World) (a : Option Addr) (n : Nat) (ts : List St) : Prop :=
  ∃ us : List Sv, RdR svE 2 w a n us ∧ us.length = ts.length ∧ ∀ (j : Nat) (u : Sv) (x : St), us[j]? = some u → ts[j]? = some x → StRd w u x

section
variable {w w' : World} {a : Option Addr} {n : Nat} {ts : List St}
theorem StRd.below {u : Sv} {x : St} (h : StRd w u x) (hb : Below w.heap.size w w') : StRd w' u x := by
  obtain ⟨⟨a, c, e1, h1, h2⟩, a', c', e2, h3, h4⟩ := h
  exact ⟨⟨a, c, e1, h1.below hb, h2⟩, a', c', e2, h3.below hb, h4⟩
theorem RdT.len (h : RdT w a n ts) : ts.length = n := by
  obtain ⟨us, h1, h2, _⟩ := h
  rw [← h2]; exact h1.1
theorem RdT.below (h : RdT w a n ts) (hb : Below w.heap.size w w') : RdT w' a n ts := by
  obtain ⟨us, h1, h2, h3⟩ := h
  exact ⟨us, h1.below hb, h2, fun j u x hu hx => (h3 j u x hu hx).below hb⟩
theorem RdT.at (h : RdT w a n ts) {j : Nat} (hj : j < n) :
    ∃ blk off p cp q cq ss az, a = some ⟨blk, off, none⟩ ∧ ts[j]? = some (ss, az) ∧ w.cell? ⟨blk, off + j * 2, none⟩ = some (.slice p ss.length cp) ∧ w.cell? ⟨blk, off + j * 2 + 1, none⟩ = some (.slice q az.length cq) ∧
      Rd .i64 w p ss.length ss ∧ RdR lineE 2 w q az.length az ∧ (ss.length ≤ cp ∧ cp ≤ maxLen) ∧ (az.length ≤ cq ∧ cq ≤ maxLen) := by
  have hlen := h.len
  obtain ⟨us, h1, h2, h3⟩ := h
  obtain ⟨blk, off, u, ha, hu, hc⟩ := h1.at hj
  have hj' : j < ts.length := by omega
  obtain ⟨⟨p, cp, e1, r1, q1⟩, q, cq, e2, r2, q2⟩ := h3 j u ts[j] hu (by simp [hj'])
  refine ⟨blk, off, p, cp, q, cq, ts[j].1, ts[j].2, ha, by simp [hj'], ?_, ?_, r1, r2, q1, q2⟩
  · rw [← e1]; exact hc 0 _ rfl
  · rw [← e2]; exact hc 1 _ rfl
theorem RdT.nil (w : World) (a : Option Addr) : RdT w a 0 [] := ⟨[], ⟨rfl, .inl rfl⟩, rfl, fun j u b hu => by simp at hu⟩
end

/-- What the call owns of a state. -/
def StEl (weak : Bool) (eI eA : TypeId) (w : World) (lo hi : Nat) (u : Su) (x : St) : Prop :=
  SubI weak .i64 eI w lo hi u.1 x.1 ∧ SubS weak lineE 2 eA w lo hi u.2 x.2
theorem StEl.ok (weak : Bool) {eI eA eS : TypeId} (h1 : eI ≠ eS) (h2 : eA ≠ eS) : ElOk (StEl weak eI eA) suB eS where
  kept := fun h hk => ⟨SubV.kept h.1 (fun g hg => hk g ((suB_mem _ _).2 (.inl hg))), SubV.kept h.2 (fun g hg => hk g ((suB_mem _ _).2 (.inr hg)))⟩
  move := fun h hk => ⟨SubV.move h.1 (fun g hg => hk g ((suB_mem _ _).2 (.inl hg))), SubV.move h.2 (fun g hg => hk g ((suB_mem _ _).2 (.inr hg)))⟩
  inn := fun h g hg => by
    rcases (suB_mem _ _).1 hg with hg | hg
    · exact SubV.inn h.1 g hg
    · exact SubV.inn h.2 g hg
  apart := fun h g hg => by
    rcases (suB_mem _ _).1 hg with hg | hg
    · exact SubV.apart h1 h.1 g hg
    · exact SubV.apart h2 h.2 g hg
/-- The two rows of a state are two blocks. -/
theorem StEl.two {weak : Bool} {eI eA : TypeId} (hne : eA ≠ eI) {w : World} {lo hi : Nat} {u : Su} {x : St} (h : StEl weak eI eA w lo hi u x) : ∀ g, u.1.2 = some g → u.2.2 ≠ some g := by
  intro g hg hg'
  rcases h.1 with h0 | ⟨g1, cap, e1, hh, ho⟩
  · rw [h0.1] at hg; cases hg
  · rw [e1] at hg
    simp at hg
    subst hg
    rcases ho.2 with h0 | ⟨g', cap', cur, hv, _, hcur, _⟩
    · simp at h0
    · simp at hv
      exact SubV.apart hne h.2 g1 hg' cur (0, 0) (by rw [hv.1]; exact hcur)

/-- A row of states that the call owns. -/
abbrev RowT (weak : Bool) (eS eI eA : TypeId) (w : World) (lo hi : Nat) (v : Value) (n : Nat) (ts : List St) : Prop := RowN (StEl weak eI eA) suB suE 2 eS w lo hi v n ts

theorem StEl.rd {weak : Bool} {eI eA : TypeId} {w : World} {lo hi : Nat} {u : Su} {x : St} (h : StEl weak eI eA w lo hi u x) : StRd w (u.1.1, u.2.1) x := by
  obtain ⟨a, c, e1, q1⟩ := SubV.shape h.1
  obtain ⟨a', c', e2, q2⟩ := SubV.shape h.2
  exact ⟨⟨a, c, e1, SubI.read h.1 e1, q1⟩, a', c', e2, SubS.read lineE_len h.2 e2, q2⟩

theorem RowT.read {weak : Bool} {eS eI eA : TypeId} {w : World} {lo hi n : Nat} {a : Option Addr} {c : Nat} {ts : List St} (h : RowT weak eS eI eA w lo hi (.slice a n c) n ts) : RdT w a n ts := by
  obtain ⟨us, h1, h2, h3, _⟩ := h
  have hr := RowS.read suE_len h1
  refine ⟨us.map (fun u => (u.1.1, u.2.1)), ⟨by simpa using hr.1, ?_⟩, by simpa using h2, fun j u x hu hx => ?_⟩
  · rcases hr.2 with h0 | ⟨b, off, ha, hc⟩
    · exact .inl h0
    · refine .inr ⟨b, off, ha, fun j x hx f y hy => ?_⟩
      rw [List.getElem?_map] at hx
      cases hu : us[j]? with
      | none => rw [hu] at hx; simp at hx
      | some u =>
        rw [hu] at hx
        simp at hx
        subst hx
        exact hc j u hu f y hy
  · rw [List.getElem?_map] at hu
    cases hu' : us[j]? with
    | none => rw [hu'] at hu; simp at hu
    | some u' =>
      rw [hu'] at hu
      simp at hu
      subst hu
      exact (h3 j u' x hu' hx).rd

theorem RowT.weaken {weak : Bool} {eS eI eA : TypeId} {w : World} {lo hi n : Nat} {v : Value} {ts : List St} (h : RowT weak eS eI eA w lo hi v n ts) : RowT true eS eI eA w lo hi v n ts := by
  obtain ⟨us, h1, h2, h3, h4⟩ := h
  exact ⟨us, h1, h2, fun j u x hu hx => ⟨SubV.weaken (h3 j u x hu hx).1, SubV.weaken (h3 j u x hu hx).2⟩, h4⟩

/-- A row just made: states with nothing. -/
theorem RowT.zeros {weak : Bool} {eS eI eA : TypeId} {w : World} {lo hi g cap n : Nat} (h : w.ownsRow lo eS 2 (.slice (some ⟨g, 0, none⟩) n cap) n ((List.replicate n (Value.slice none 0 0, Value.slice none 0 0)).flatMap svE)) (hg : g < hi) :
    RowT weak eS eI eA w lo hi (.slice (some ⟨g, 0, none⟩) n cap) n (List.replicate n ([], [])) := by
  refine ⟨List.replicate n ((.slice none 0 0, none), (.slice none 0 0, none)), ⟨⟨by simp, ?_⟩, fun j hj => ?_⟩, by simp, fun j u b hu hv => ?_, fun i j u u' _ hu hu' g' hg' => ?_⟩
  · have e : (List.replicate n (((Value.slice none 0 0, none), (Value.slice none 0 0, none)) : Su)).flatMap suE = (List.replicate n (Value.slice none 0 0, Value.slice none 0 0)).flatMap svE := by
      rw [List.flatMap_replicate, List.flatMap_replicate]
      rfl
    rw [e]
    exact h
  · simp [Value.ownBlock] at hj; omega
  · simp [List.getElem?_replicate] at hu hv
    rw [← hu.2, ← hv.2]
    exact ⟨SubV.nil _ _ _ _ _ _, SubV.nil _ _ _ _ _ _⟩
  · simp [List.getElem?_replicate] at hu
    rw [← hu.2] at hg'
    simp [suB] at hg'

/-- How many numbers and arcs there are in states. -/
def stN : List St → Nat
  | [] => 0
  | x :: ts => x.1.length + x.2.length + stN ts
theorem stN_append (xs ys : List St) : stN (xs ++ ys) = stN xs + stN ys := by
  induction xs with
  | nil => simp [stN]
  | cons x xs ih => simp [stN, ih]; omega
theorem stN_succ {ts : List St} {k : Nat} {ss : List Int} {az : List L2} (h : ts[k]? = some (ss, az)) : stN (ts.take (k + 1)) = stN (ts.take k) + (ss.length + az.length) := by
  obtain ⟨hk, e⟩ := List.getElem?_eq_some_iff.1 h
  rw [List.take_succ_eq_append_getElem hk, stN_append, e]
  simp [stN]
theorem stN_take (ts : List St) (k : Nat) : stN (ts.take k) ≤ stN ts := by
  have : stN ts = stN (ts.take k) + stN (ts.drop k) := by rw [← stN_append, List.take_append_drop]
  omega

/-- How many marks they take, and the states with marks in them. -/
def stC : List St → Nat
  | [] => 0
  | x :: ts => x.1.length + 2 * x.2.length + stC ts
def mkT : Int → List St → List St
  | _, [] => []
  | k, x :: ts => (mkI k x.1.length, mkL (k + x.1.length) x.2.length) :: mkT (k + x.1.length + 2 * x.2.length) ts
theorem stC_le (ts : List St) : stC ts ≤ 2 * stN ts := by
  induction ts with
  | nil => simp [stC, stN]
  | cons x xs ih => simp [stC, stN]; omega
theorem stC_append (xs ys : List St) : stC (xs ++ ys) = stC xs + stC ys := by
  induction xs with
  | nil => simp [stC]
  | cons x xs ih => simp [stC, ih]; omega
theorem stC_succ {ts : List St} {k : Nat} {ss : List Int} {az : List L2} (h : ts[k]? = some (ss, az)) : stC (ts.take (k + 1)) = stC (ts.take k) + (ss.length + 2 * az.length) := by
  obtain ⟨hk, e⟩ := List.getElem?_eq_some_iff.1 h
  rw [List.take_succ_eq_append_getElem hk, stC_append, e]
  simp [stC]
theorem stC_take (ts : List St) (k : Nat) : stC (ts.take k) ≤ stC ts := by
  have : stC ts = stC (ts.take k) + stC (ts.drop k) := by rw [← stC_append, List.take_append_drop]
  omega
theorem mkT_len (x : Int) (ts : List St) : (mkT x ts).length = ts.length := by
  induction ts generalizing x with
  | nil => rfl
  | cons b bs ih => simp [mkT, ih]
theorem mkT_stN (x : Int) (ts : List St) : stN (mkT x ts) = stN ts := by
  induction ts generalizing x with
  | nil => rfl
  | cons b bs ih => simp [mkT, stN, ih, mkI_len, mkL_len]
theorem mkT_stC (x : Int) (ts : List St) : stC (mkT x ts) = stC ts := by
  induction ts generalizing x with
  | nil => rfl
  | cons b bs ih => simp [mkT, stC, ih, mkI_len, mkL_len]
theorem mkT_append (k : Int) (xs ys : List St) : mkT k (xs ++ ys) = mkT k xs ++ mkT (k + stC xs) ys := by
  induction xs generalizing k with
  | nil => simp [mkT, stC]
  | cons b bs ih =>
    simp only [List.cons_append, mkT, ih, stC]
    congr 3
    push_cast
    omega
theorem mkT_succ {ts : List St} {k : Nat} {ss : List Int} {az : List L2} (x : Int) (h : ts[k]? = some (ss, az)) :
    mkT x (ts.take (k + 1)) = mkT x (ts.take k) ++ [(mkI (x + stC (ts.take k)) ss.length, mkL (x + stC (ts.take k) + ss.length) az.length)] := by
  obtain ⟨hk, e⟩ := List.getElem?_eq_some_iff.1 h
  rw [List.take_succ_eq_append_getElem hk, mkT_append, e]
  simp [mkT]
theorem mkT_at {ts : List St} {k : Nat} {ss : List Int} {az : List L2} (x : Int) (h : ts[k]? = some (ss, az)) :
    (mkT x ts)[k]? = some (mkI (x + stC (ts.take k)) ss.length, mkL (x + stC (ts.take k) + ss.length) az.length) := by
  obtain ⟨hk, e⟩ := List.getElem?_eq_some_iff.1 h
  have h1 : mkT x ts = mkT x (ts.take (k + 1)) ++ mkT (x + stC (ts.take (k + 1))) (ts.drop (k + 1)) := by
    rw [← mkT_append, List.take_append_drop]
  have hl : (mkT x (ts.take k)).length = k := by rw [mkT_len, List.length_take]; omega
  rw [h1, mkT_succ x h, List.getElem?_append_left (by simp [mkT_len]; omega), List.getElem?_append_right (by omega), hl]
  simp
theorem mkT_mid {ts : List St} {k : Nat} {ss : List Int} {az : List L2} (x : Int) (h : ts[k]? = some (ss, az)) : (mkT x (ts.take k) ++ ts.drop k)[k]? = some (ss, az) := by
  obtain ⟨hk, e⟩ := List.getElem?_eq_some_iff.1 h
  have hl : (mkT x (ts.take k)).length = k := by rw [mkT_len, List.length_take]; omega
  rw [List.getElem?_append_right (by omega), hl, Nat.sub_self, List.drop_eq_getElem_cons hk, e]
  rfl
theorem mkT_set {ts : List St} {k : Nat} {ss : List Int} {az : List L2} (x : Int) (h : ts[k]? = some (ss, az)) :
    (mkT x (ts.take k) ++ ts.drop k).set k (mkI (x + stC (ts.take k)) ss.length, mkL (x + stC (ts.take k) + ss.length) az.length) = mkT x (ts.take (k + 1)) ++ ts.drop (k + 1) := by
  obtain ⟨hk, e⟩ := List.getElem?_eq_some_iff.1 h
  rw [List.drop_eq_getElem_cons hk, set_mid _ _ (by rw [mkT_len, List.length_take]; omega), mkT_succ x h]
theorem cpT_set {ts : List St} {k n : Nat} {x : St} (hn : ts.length = n) (h : ts[k]? = some x) :
    (ts.take k ++ List.replicate (n - k) ([], [])).set k x = ts.take (k + 1) ++ List.replicate (n - (k + 1)) ([], []) := by
  obtain ⟨hk, e⟩ := List.getElem?_eq_some_iff.1 h
  obtain ⟨d, hd⟩ : ∃ d, n - k = d + 1 := ⟨n - k - 1, by omega⟩
  rw [hd, List.replicate_succ, set_mid _ _ (by rw [List.length_take]; omega), show n - (k + 1) = d by omega, List.take_succ_eq_append_getElem hk, e]
theorem cpT_mid (ts : List St) (n k : Nat) (hn : ts.length = n) (hk : k < n) : (ts.take k ++ List.replicate (n - k) (([], []) : St))[k]? = some ([], []) := by
  have hl : (ts.take k).length = k := by rw [List.length_take]; omega
  rw [List.getElem?_append_right (by omega), hl, Nat.sub_self, List.getElem?_replicate]
  simp; omega
end Go.Proofs.Ytoggkcgldckekaa
