/-
  StpM, Ent8, Ent9 in one text.
-/
import Derived.Test.YtlemdjgpkmjihaaEnt2
import Derived.Test.YtlemdjgpkmjihaaMem0
import Derived.Test.YtlemdjgpkmjihaaEntA
import Derived.Test.YtlemdjgpkmjihaaEntB
namespace Go.Proofs.Ytlemdjgpkmjihaa
open Go.RowKit
set_option linter.unusedVariables false
set_option linter.unusedSimpArgs false

/-- Where the arc of a byte leads; -1: there is none. -/
def arcTo : List L2 → Int → Int
  | [], _ => -1
  | a :: az, b => if a.1 = b then a.2 else arcTo az b
theorem arcTo_at {az : List L2} {k : Nat} {c : L2} {b : Int} (h : az[k]? = some c) : arcTo (az.drop k) b = if c.1 = b then c.2 else arcTo (az.drop (k + 1)) b := by
  obtain ⟨hk, e⟩ := List.getElem?_eq_some_iff.1 h
  rw [List.drop_eq_getElem_cons hk, e, arcTo]
theorem arcTo_end {az : List L2} {k : Nat} {b : Int} (h : az.length ≤ k) : arcTo (az.drop k) b = -1 := by
  rw [List.drop_of_length_le h]; rfl
theorem arcTo_cases (az : List L2) (b : Int) : (arcTo az b = -1 ∧ ∀ a ∈ az, a.1 ≠ b) ∨ ∃ a ∈ az, a.1 = b ∧ arcTo az b = a.2 := by
  induction az with
  | nil => exact .inl ⟨rfl, by simp⟩
  | cons a az ih =>
    rw [arcTo]
    by_cases h : a.1 = b
    · rw [if_pos h]; exact .inr ⟨a, by simp, h, rfl⟩
    · rw [if_neg h]
      rcases ih with ⟨h1, h2⟩ | ⟨c, h1, h2, h3⟩
      · refine .inl ⟨h1, fun c hc => ?_⟩
        rcases List.mem_cons.1 hc with rfl | hc
        · exact h
        · exact h2 c hc
      · exact .inr ⟨c, by simp [h1], h2, h3⟩

def stAt (ts : List St) (s : Nat) : St := ts.getD s ([], [])
theorem stAt_of {ts : List St} {s : Nat} {x : St} (h : ts[s]? = some x) : stAt ts s = x := by rw [stAt, List.getD_eq_getElem?_getD, h]; rfl
/-- A step: where it leads, and the states behind it. -/
def goP (is : List In) (z : Int) (ts : List St) (s : Nat) (b : Int) : Int :=
  if 0 ≤ arcTo (stAt ts s).2 b then arcTo (stAt ts s).2 b else entP z ts (nextS is (stAt ts s).1 b)
def goS (is : List In) (z : Int) (ts : List St) (s : Nat) (b : Int) : List St :=
  if 0 ≤ arcTo (stAt ts s).2 b then ts
  else if entG z ts (nextS is (stAt ts s).1 b) then entS z ts (nextS is (stAt ts s).1 b)
  else (entS z ts (nextS is (stAt ts s).1 b)).set s ((stAt ts s).1, (stAt ts s).2 ++ [(b, entP z ts (nextS is (stAt ts s).1 b))])

/-- A table at work: what holds of its states. -/
structure TabI (n : Nat) (z : Int) (M : Nat) (ts : List St) : Prop where
  lone : Lone ts
  rise : ∀ y ∈ ts, y.1.Pairwise (· < ·)
  inn : ∀ y ∈ ts, ∀ x ∈ y.1, 0 ≤ x ∧ x < (n : Int)
  lens : ∀ y ∈ ts, y.1.length ≤ 80
  arcs : ∀ y ∈ ts, ∀ a ∈ y.2, 0 ≤ a.2 ∧ a.2 < (ts.length : Int)
  many : ∀ y ∈ ts, y.2.length ≤ M
  len : (ts.length : Int) ≤ z
  size : 1 ≤ z ∧ z ≤ 12

theorem tabI_of {is : List In} {z : Int} {ts : List St} (h : tabF is z ts = 0) : TabI is.length z 256 ts := by
  obtain ⟨h1, h2, h3, h4, h5⟩ := tabF_ok h
  have h6 := stateGo_all h4
  have h7 : ∀ y ∈ ts, setFault is y.1 = 0 ∧ arcsF ts.length y.2 = 0 := fun y hy => stateF_ok (h6 y hy)
  refine ⟨h5, fun y hy => setFault_rise (h7 y hy).1, fun y hy => (setFault_ok (h7 y hy).1).2.2, fun y hy => (setFault_ok (h7 y hy).1).2.1, fun y hy a ha => ?_, fun y hy => (arcsF_ok (h7 y hy).2).1, h3, h2⟩
  have := (arcsF_ok (h7 y hy).2).2 a ha
  unfold ArcBad at this
  omega

theorem TabI.enter {n : Nat} {z : Int} {M : Nat} {ts : List St} (h : TabI n z M ts) {xs : List Int} (hr : xs.Pairwise (· < ·)) (hx : ∀ x ∈ xs, 0 ≤ x ∧ x < (n : Int)) (hl : xs.length ≤ 80) :
    TabI n z M (entS z ts xs) ∧ (0 ≤ entP z ts xs ∧ entP z ts xs < ((entS z ts xs).length : Int)) ∧ ((entS z ts xs).map (·.1))[(entP z ts xs).toNat]? = some xs := by
  unfold entS entP
  by_cases hm : xs ∈ ts.map (·.1)
  · simp only [hm, if_true]
    refine ⟨h, ?_⟩
    rcases tAt_spec ts xs with ⟨_, h2⟩ | ⟨j, h1, h2, h3⟩
    · exact absurd hm h2
    · have := (List.getElem?_eq_some_iff.1 h2).1
      rw [List.length_map] at this
      rw [h1]
      exact ⟨⟨by omega, by omega⟩, by simpa using h2⟩
  · simp only [hm, if_false]
    by_cases hz : z ≤ ts.length
    · simp only [hz, if_true]
      refine ⟨⟨by simp [Lone], ?_, ?_, ?_, ?_, ?_, ?_, h.size⟩, ⟨by simp, by simp⟩, by simp⟩
      · intro y hy; simp at hy; subst hy; exact hr
      · intro y hy; simp at hy; subst hy; exact hx
      · intro y hy; simp at hy; subst hy; exact hl
      · intro y hy a ha; simp at hy; subst hy; simp at ha
      · intro y hy; simp at hy; subst hy; simp
      · have := h.size; simp; omega
    · simp only [hz, if_false]
      have hlen := h.len
      refine ⟨⟨?_, ?_, ?_, ?_, ?_, ?_, ?_, h.size⟩, ⟨by omega, by simp; omega⟩, by simp⟩
      · unfold Lone
        rw [List.map_append, List.nodup_append]
        refine ⟨h.lone, by simp, fun a ha b hb => ?_⟩
        simp at hb
        subst hb
        intro e
        subst e
        exact hm ha
      · intro y hy
        rcases List.mem_append.1 hy with hy | hy
        · exact h.rise y hy
        · simp at hy; subst hy; exact hr
      · intro y hy
        rcases List.mem_append.1 hy with hy | hy
        · exact h.inn y hy
        · simp at hy; subst hy; exact hx
      · intro y hy
        rcases List.mem_append.1 hy with hy | hy
        · exact h.lens y hy
        · simp at hy; subst hy; exact hl
      · intro y hy a ha
        rcases List.mem_append.1 hy with hy | hy
        · have := h.arcs y hy a ha
          simp only [List.length_append, List.length_singleton]
          omega
        · simp at hy; subst hy; simp at ha
      · intro y hy
        rcases List.mem_append.1 hy with hy | hy
        · exact h.many y hy
        · simp at hy; subst hy; simp
      · simp; omega

theorem entG_cases (z : Int) (ts : List St) (xs : List Int) : (entG z ts xs = true ∧ entP z ts xs = 0 ∧ entS z ts xs = [(xs, [])]) ∨ (entG z ts xs = false ∧ ∃ us, entS z ts xs = ts ++ us) := by
  unfold entG entP entS
  by_cases hm : xs ∈ ts.map (·.1)
  · simp only [hm, if_true]
    exact .inr ⟨by simp, [], by simp⟩
  · simp only [hm, if_false]
    by_cases hz : z ≤ ts.length
    · simp only [hz, if_true]
      exact .inl ⟨by simp, by simp, by simp⟩
    · simp only [hz, if_false]
      exact .inr ⟨by simp [hz], [(xs, [])], by simp⟩

theorem TabI.more {n : Nat} {z : Int} {M M' : Nat} {ts : List St} (h : TabI n z M ts) (hM : M ≤ M') : TabI n z M' ts :=
  ⟨h.lone, h.rise, h.inn, h.lens, h.arcs, fun y hy => Nat.le_trans (h.many y hy) hM, h.len, h.size⟩

/-- The arcs of a state grow by one. -/
theorem TabI.arc {n : Nat} {z : Int} {M : Nat} {ts : List St} (h : TabI n z M ts) {s : Nat} {x : St} (hs : ts[s]? = some x) {b p : Int} (hp : 0 ≤ p ∧ p < (ts.length : Int)) (hx : x.2.length ≤ M) :
    TabI n z (M + 1) (ts.set s (x.1, x.2 ++ [(b, p)])) := by
  obtain ⟨hk, e⟩ := List.getElem?_eq_some_iff.1 hs
  have hxm : x ∈ ts := by rw [← e]; exact List.getElem_mem hk
  have hmap : (ts.set s (x.1, x.2 ++ [(b, p)])).map (·.1) = ts.map (·.1) := by
    rw [List.map_set]
    apply List.ext_getElem?
    intro i
    by_cases hi : i = s
    · subst hi
      simp [hk, hs, e]
    · rw [List.getElem?_set_ne (Ne.symm hi)]
  have hmem : ∀ y ∈ ts.set s (x.1, x.2 ++ [(b, p)]), y ∈ ts ∨ y = (x.1, x.2 ++ [(b, p)]) := fun y hy => List.mem_or_eq_of_mem_set hy
  refine ⟨by unfold Lone; rw [hmap]; exact h.lone, ?_, ?_, ?_, ?_, ?_, by rw [List.length_set]; exact h.len, h.size⟩
  · intro y hy
    rcases hmem y hy with hy | rfl
    · exact h.rise y hy
    · exact h.rise x hxm
  · intro y hy
    rcases hmem y hy with hy | rfl
    · exact h.inn y hy
    · exact h.inn x hxm
  · intro y hy
    rcases hmem y hy with hy | rfl
    · exact h.lens y hy
    · exact h.lens x hxm
  · intro y hy a ha
    rw [List.length_set]
    rcases hmem y hy with hy | rfl
    · exact h.arcs y hy a ha
    · rcases List.mem_append.1 ha with ha | ha
      · exact h.arcs x hxm a ha
      · simp at ha; subst ha; exact hp
  · intro y hy
    rcases hmem y hy with hy | rfl
    · exact Nat.le_succ_of_le (h.many y hy)
    · simp; omega

theorem TabI.step {is : List In} (hin : Inside is) (h80 : is.length ≤ 80) {z : Int} {M : Nat} {ts : List St} (h : TabI is.length z M ts) {s : Nat} (hs : s < ts.length) (b : Int) :
    TabI is.length z (M + 1) (goS is z ts s b) ∧ 0 ≤ goP is z ts s b ∧ goP is z ts s b < ((goS is z ts s b).length : Int) := by
  have hx : ts[s]? = some ts[s] := List.getElem?_eq_getElem hs
  have hxm : ts[s] ∈ ts := List.getElem_mem hs
  unfold goS goP
  rw [stAt_of hx]
  generalize ts[s] = x at hx hxm
  by_cases ha : 0 ≤ arcTo x.2 b
  · rw [if_pos ha, if_pos ha]
    refine ⟨h.more (by omega), ?_⟩
    rcases arcTo_cases x.2 b with ⟨h1, _⟩ | ⟨a, h1, h2, h3⟩
    · omega
    · rw [h3]; exact h.arcs x hxm a h1
  · rw [if_neg ha, if_neg ha]
    obtain ⟨n1, n2, n3⟩ := nextS_ok hin h80 b (h.rise x hxm) (h.inn x hxm)
    obtain ⟨e1, e2, e3⟩ := h.enter n1 n2 n3
    generalize nextS is x.1 b = xs at *
    rcases entG_cases z ts xs with ⟨g1, g2, g3⟩ | ⟨g1, us, g3⟩
    · rw [g1]
      simp only [if_true]
      exact ⟨e1.more (by omega), e2⟩
    · rw [g1]
      simp only [Bool.false_eq_true, if_false]
      rw [g3] at e1 e2 ⊢
      have hx' : (ts ++ us)[s]? = some x := by rw [List.getElem?_append_left hs]; exact hx
      refine ⟨e1.arc hx' e2 (h.many x hxm), ?_⟩
      rw [List.length_set]
      exact e2
/-- StepTable: code, value, size, states. -/
def stpCode (is : List In) (z : Int) (ts : List St) (s : Int) : Int := if tabF is z ts ≠ 0 then tabF is z ts else if s < 0 ∨ (ts.length : Int) ≤ s then 3 else 0
def stpVal (is : List In) (z : Int) (ts : List St) (s b : Int) : Int := if stpCode is z ts s = 0 then goP is z ts s.toNat b else 0
def stpSize (is : List In) (z : Int) (ts : List St) (s : Int) : Int := if stpCode is z ts s = 0 then z else 0
def stpRows (is : List In) (z : Int) (ts : List St) (s b : Int) : List St := if stpCode is z ts s = 0 then goS is z ts s.toNat b else []
end Go.Proofs.Ytlemdjgpkmjihaa

namespace Go.Proofs.Ytlemdjgpkmjihaa
open Go.RowKit
set_option linter.unusedVariables false
set_option linter.unusedSimpArgs false

theorem mtOf_set (x : St) : (mtOf x).1.1 = markB x.1 := rfl

/-- A set enters the memory: as it enters the table. -/
theorem enterT_any (W0 w : World) (B b q : Nat) (z : Int) (pv v : Value) (N M : Nat) (ts : List St) (xs : List Int) (h : Mem W0 w B b q z pv v (ts.map mtOf) (entsFrom 0 (ts.map mtOf))) (ht : TabI N z M ts) (hN : N ≤ 80) (hr : xs.Pairwise (· < ·)) (hx : ∀ x ∈ xs, 0 ≤ x ∧ x < (N : Int)) :
    Calls Try.prog 77 #[.pointer (some ⟨B, 0, none⟩), .agg (boolsA (markB xs))] w fun r w' => r = .returned (.tuple #[.int .i64 (entP z ts xs), .bool (entG z ts xs)]) ∧ ∃ v', Mem W0 w' B b q z pv v' ((entS z ts xs).map mtOf) (entsFrom 0 ((entS z ts xs).map mtOf)) := by
  unfold entP entG entS
  by_cases hm : xs ∈ ts.map (·.1)
  · simp only [hm, if_true]
    rcases tAt_spec ts xs with ⟨_, h2⟩ | ⟨j, h1, h2, h3⟩
    · exact absurd hm h2
    · have hj : j < ts.length := by
        have := (List.getElem?_eq_some_iff.1 h2).1
        rwa [List.length_map] at this
      have hx2 : ts[j].1 = xs := by
        rw [List.getElem?_map, List.getElem?_eq_getElem hj] at h2
        simpa using h2
      have hmt : (ts.map mtOf)[j]? = some (mtOf ts[j]) := by simp [hj]
      refine (enter_any W0 w B b q z pv v (ts.map mtOf) (markB xs) (markB_len xs) h j (mtOf ts[j]) hmt (by rw [mtOf_set, hx2])).mono ?_
      rintro r w' ⟨rfl, hm'⟩
      exact ⟨by rw [h1], v, hm'⟩
  · simp only [hm, if_false]
    have hlen := ht.len
    have hz := ht.size
    have hnew : ∀ x ∈ ts.map mtOf, x.1.1 ≠ markB xs := by
      intro x hxm e
      obtain ⟨y, hy, rfl⟩ := List.mem_map.1 hxm
      rw [mtOf_set] at e
      have := (markB_eq (ht.rise y hy) hr (fun x h => by have := ht.inn y hy x h; omega) (fun x h => by have := hx x h; omega)).1 e
      exact hm (List.mem_map.2 ⟨y, hy, this⟩)
    refine (enter_new W0 w B b q z pv v (ts.map mtOf) ⟨markB xs, markB_len xs⟩ h hnew (by rw [List.length_map]; omega)).mono ?_
    rintro r w' ⟨rfl, v', ms', rfl, hm'⟩
    rw [List.length_map] at hm' ⊢
    by_cases hzl : z ≤ ts.length
    · have e : (ts.length : Int) = z := by omega
      simp only [e, if_true, hzl, Int.le_refl, decide_true] at hm' ⊢
      exact ⟨trivial, v', hm'⟩
    · have e : ¬ (ts.length : Int) = z := by omega
      simp only [e, if_false, hzl, decide_false] at hm' ⊢
      refine ⟨trivial, v', ?_⟩
      rw [List.map_append]
      exact hm'

theorem tableT_any (W0 w : World) (B b q : Nat) (z : Int) (pv v : Value) (N M : Nat) (ts : List St) (h : Mem W0 w B b q z pv v (ts.map mtOf) (entsFrom 0 (ts.map mtOf))) (ht : TabI N z M ts) (hN : N ≤ 80) (hM : M ≤ 65536) :
    Calls Try.prog 65 #[.pointer (some ⟨B, 0, none⟩)] w fun e w' => ∃ va c, e = .returned (.agg #[.int .i64 z, .slice va ts.length c]) ∧ RowT false 55 2 151 w' w.heap.size w'.heap.size (.slice va ts.length c) ts.length ts ∧ Below w.heap.size w w' := by
  have hlen := ht.len
  have hz := ht.size
  exact table_any W0 w B b q z pv v ts ts.length _ h rfl (by omega) (fun y hy => ⟨⟨⟨ht.rise y hy, fun x hx => by have := ht.inn y hy x hx; omega⟩, ht.lens y hy⟩, by have := ht.many y hy; omega⟩)

set_option maxHeartbeats 3200000 in
set_option maxRecDepth 20000 in
theorem implEnterSet_any (i : Option Addr) (ni ci : Nat) (cs : List In) (z : Int) (a : Option Addr) (n ca : Nat) (ts : List St) (s : Option Addr) (m c : Nat) (xs : List Int) (w : World) (hi : RdR inE 8 w i ni cs) (hsi : inSum cs ≤ 1048576) (hni : ni ≤ 1048576) (ht : RdT w a n ts) (hs : (n : Int) + stN ts ≤ 1048576) (hca : n ≤ ca) (hmx : ca ≤ maxLen)
    (hx : Rd .i64 w s m xs) (hm : m ≤ 1048576) :
    Calls Try.prog 25 #[.slice i ni ci, .agg #[.int .i64 z, .slice a n ca], .slice s m c] w fun e w' => ∃ v, e = .returned (.agg #[.int .i64 (enCode cs z ts xs), .int .i64 (enVal cs z ts xs), .int .i64 (enSize cs z ts xs), v]) ∧ TabR true w' w.heap.size w'.heap.size v (enRows cs z ts xs).length (enRows cs z ts xs) ∧ Below w.heap.size w w' := by
  have B1 : ∀ o1 o2, Below w.heap.size w ((w.alloc o1).alloc o2) := fun o1 o2 => ((Below.refl _ _).alloc (Nat.le_refl _) o1).alloc (by simp) o2
  have HCF := hid (fun w' h1 h2 => implTableFault_any i ni ci cs z a n ca ts w' h1 hsi hni h2 hs hca hmx)
  have HSF := hid (fun w' h1 h2 => implSetFault_any i ni ci cs s m c xs w' h1 h2 hsi hni hm)
  clear hmx
  by_cases hf : tabF cs z ts = 0
  case neg =>
    have e1 : enCode cs z ts xs = tabF cs z ts := by rw [enCode, if_pos hf]
    have e2 : enVal cs z ts xs = 0 := by rw [enVal, e1, if_neg hf]
    have e3 : enSize cs z ts xs = 0 := by rw [enSize, e1, if_neg hf]
    have e4 : enRows cs z ts xs = [] := by rw [enRows, e1, if_neg hf]
    rw [e1, e2, e3, e4]
    generalize tabF cs z ts = T at *
    have hf' : (T == 0) = false := by simpa using hf
    clear e1 e2 e3 e4 hf HSF
    go_enter Try.func25, Try.ntmps25
    go_wp2_with fail
    refine (HCF.out _ (hi.below (B1 _ _)) (ht.below (B1 _ _))).mono ?_
    rintro e w1 ⟨rfl, hb1⟩
    have hb01 : Below w.heap.size w w1 := (B1 _ _).trans (hb1.mono (by simp; omega))
    have rb : Blk w1 (w.heap.size + 1) #[.int .i64 0, .int .i64 0, .int .i64 0, .slice none 0 0] 43 := Blk.of (Blk.new1 w _ _ _) hb1
    have d0 := rb.cell 0
    have d1 := rb.cell 1
    have d2 := rb.cell 2
    have d3 := rb.cell 3
    have df0 := rb.frozen 0
    have df1 := rb.frozen 1
    have df2 := rb.frozen 2
    have df3 := rb.frozen 3
    simp only [List.getElem?_toArray, List.getElem?_cons_zero, List.getElem?_cons_succ] at d0 d1 d2 d3
    clear rb hb1
    go_wp2
    refine bodyPost_ret (v := .agg #[.int .i64 T, .int .i64 0, .int .i64 0, .slice none 0 0]) (by simp [results, Try.results25, go_sem, d0, d1, d2, d3]) rfl ⟨_, rfl, TabR.nil _ _ _ _, ?_⟩
    repeat first | exact hb01 | refine Below.setCell ?_ (by first | exact Nat.le_refl _ | omega | (simp; done) | (show w.heap.size ≤ w.heap.size + 1; omega)) _
  by_cases hg : setFault cs xs = 0
  case neg =>
    have e1 : enCode cs z ts xs = setFault cs xs := by rw [enCode, if_neg (by simpa using hf)]
    have e2 : enVal cs z ts xs = 0 := by rw [enVal, e1, if_neg hg]
    have e3 : enSize cs z ts xs = 0 := by rw [enSize, e1, if_neg hg]
    have e4 : enRows cs z ts xs = [] := by rw [enRows, e1, if_neg hg]
    rw [e1, e2, e3, e4]
    rw [hf] at HCF
    generalize setFault cs xs = T at *
    have hf' : (T == 0) = false := by simpa using hg
    clear e1 e2 e3 e4 hf hg
    go_enter Try.func25, Try.ntmps25
    go_wp2_with fail
    refine (HCF.out _ (hi.below (B1 _ _)) (ht.below (B1 _ _))).mono ?_
    rintro e w1 ⟨rfl, hb1⟩
    have HB := hid (show Below w.heap.size w w1 from (B1 _ _).trans (hb1.mono (by simp; omega)))
    have HRB := hid (show Blk w1 (w.heap.size + 1) #[.int .i64 0, .int .i64 0, .int .i64 0, .slice none 0 0] 43 from Blk.of (Blk.new1 w _ _ _) hb1)
    clear hb1
    go_wp2_with fail
    refine (HSF.out w1 (hi.below HB.out) (hx.below HB.out)).mono ?_
    rintro e w2 ⟨rfl, hb2⟩
    have hb02 := HB.out.trans (hb2.mono HB.out.size)
    have rb := Blk.of HRB.out hb2
    have d0 := rb.cell 0
    have d1 := rb.cell 1
    have d2 := rb.cell 2
    have d3 := rb.cell 3
    have df0 := rb.frozen 0
    have df1 := rb.frozen 1
    have df2 := rb.frozen 2
    have df3 := rb.frozen 3
    simp only [List.getElem?_toArray, List.getElem?_cons_zero, List.getElem?_cons_succ] at d0 d1 d2 d3
    clear rb hb2 HB HRB
    go_wp2
    refine bodyPost_ret (v := .agg #[.int .i64 T, .int .i64 0, .int .i64 0, .slice none 0 0]) (by simp [results, Try.results25, go_sem, d0, d1, d2, d3]) rfl ⟨_, rfl, TabR.nil _ _ _ _, ?_⟩
    repeat first | exact hb02 | refine Below.setCell ?_ (by first | exact Nat.le_refl _ | omega | (simp; done) | (show w.heap.size ≤ w.heap.size + 1; omega)) _
  have e1 : enCode cs z ts xs = 0 := by rw [enCode, if_neg (by simpa using hf), hg]
  have e2 : enVal cs z ts xs = entP z ts xs := by rw [enVal, e1, if_pos rfl]
  have e3 : enSize cs z ts xs = z := by rw [enSize, e1, if_pos rfl]
  have e4 : enRows cs z ts xs = entS z ts xs := by rw [enRows, e1, if_pos rfl]
  rw [e1, e2, e3, e4]
  have hI := tabI_of hf
  obtain ⟨h1, h2, h3, h4, h5⟩ := tabF_ok hf
  have hp := progFault_ok h1
  have hsr := setFault_rise hg
  obtain ⟨-, hs80, hsin⟩ := setFault_ok hg
  have hE := hI.enter hsr hsin hs80
  have hln := ht.len
  have hxl := hx.1
  rw [hf] at HCF
  rw [hg] at HSF
  have HMO := hid (fun q W0 w' ht0 hbl hq hq0 => memoryOf_any z a n ca ts q (.slice i ni ci) W0 w' ht0 hbl hq hq0 (by omega) h5 (fun y hy => ⟨⟨hI.rise y hy, fun x hx => by have := hI.inn y hy x hx; omega⟩, hI.lens y hy, hI.many y hy⟩))
  have HSO := hid (fun w' h => setOfList_any s m c xs w' h (fun x hx => by have := hsin x hx; omega) (by omega))
  have HEN := hid (fun W0 w' B b q v h => enterT_any W0 w' B b q z (.slice i ni ci) v cs.length 256 ts xs h hI hp.2.1 hsr hsin)
  have HTB := hid (fun W0 w' B b q v h => tableT_any W0 w' B b q z (.slice i ni ci) v cs.length 256 (entS z ts xs) h hE.1 hp.2.1 (by omega))
  generalize entP z ts xs = P at *
  generalize entG z ts xs = G at *
  generalize entS z ts xs = E at *
  clear e1 e2 e3 e4 hf hg hI h1 h2 h3 h4 h5 hp hsr hs80 hsin hE hln hxl
  go_enter Try.func25, Try.ntmps25
  go_wp2_with fail
  refine (HCF.out _ (hi.below (B1 _ _)) (ht.below (B1 _ _))).mono ?_
  rintro e w1 ⟨rfl, hb1⟩
  have HB := hid (show Below w.heap.size w w1 from (B1 _ _).trans (hb1.mono (by simp; omega)))
  have HRB := hid (show Blk w1 (w.heap.size + 1) #[.int .i64 0, .int .i64 0, .int .i64 0, .slice none 0 0] 43 from Blk.of (Blk.new1 w _ _ _) hb1)
  have HXB := hid (show Blk w1 w.heap.size #[.int .i64 z, .slice a n ca] 39 from Blk.of ((Blk.new w _ _).alloc _) hb1)
  clear hb1
  go_wp2_with fail
  refine (HSF.out w1 (hi.below HB.out) (hx.below HB.out)).mono ?_
  rintro e w2 ⟨rfl, hb2⟩
  have HB2 := hid (HB.out.trans (hb2.mono HB.out.size))
  have HRB2 := hid (Blk.of HRB.out hb2)
  have HXB2 := hid (Blk.of HXB.out hb2)
  have c0 := HXB2.out.cell 0
  have c1 := HXB2.out.cell 1
  simp only [List.getElem?_toArray, List.getElem?_cons_zero, List.getElem?_cons_succ] at c0 c1
  clear hb2 HB HRB HXB HCF HSF
  go_wp2_with fail
  have HBD := hid (show Below w.heap.size w w2.drew from HB2.out.drew)
  have HTA := hid (ht.below HBD.out)
  have hS0 : w2.drew.cell? ⟨w.heap.size, 0, none⟩ = some (.int .i64 z) ∧ w2.drew.cell? ⟨w.heap.size, 1, none⟩ = some (.slice a n ca) := ⟨c0, c1⟩
  have HRD := hid (show Blk w2.drew (w.heap.size + 1) #[.int .i64 0, .int .i64 0, .int .i64 0, .slice none 0 0] 43 from HRB2.out)
  refine wp_region_held_drew (S := fun w' => w'.cell? ⟨w.heap.size, 0, none⟩ = some (.int .i64 z) ∧ w'.cell? ⟨w.heap.size, 1, none⟩ = some (.slice a n ca)) (by kernel_rfl) (by exact hS0) (fun hS => ?_)
  refine wpAnyH_take (i := 0) (v := (.agg #[.int .i64 z, .slice a n ca])) rfl (by as_aux_lemma => kernel_rfl) (by as_aux_lemma => kernel_rfl) (by as_aux_lemma => kernel_rfl) (fun _ _ _ h => h) (Or.inl ⟨by kernel_rfl, ?_⟩) hS ?_
  · intro w hSw; (try dsimp only at hSw); have h0 := hSw.1; have h1 := hSw.2; go_simp
  (try simp only [Act.put, List.getElem_toArray, List.getElem_cons_zero, List.getElem_cons_succ, List.setIfInBounds_toArray, List.set_cons_zero, List.set_cons_succ])
  refine wpAnyH_take (i := 1) (v := (.slice i ni ci)) rfl (by as_aux_lemma => kernel_rfl) (by as_aux_lemma => kernel_rfl) (by as_aux_lemma => kernel_rfl) (fun _ _ _ h => h) (Or.inl ⟨by kernel_rfl, ?_⟩) hS ?_
  · intro w hSw; (try dsimp only at hSw); have h0 := hSw.1; have h1 := hSw.2; go_simp
  (try simp only [Act.put, List.getElem_toArray, List.getElem_cons_zero, List.getElem_cons_succ, List.setIfInBounds_toArray, List.set_cons_zero, List.set_cons_succ])
  refine wpAnyH_ready (rs := [2]) (by as_aux_lemma => kernel_rfl) (by simp) ?_
  refine AllReadyH.cons rfl (fun K hK => ?_) AllReadyH.nil
  go_simp
  refine (stepOf_any i ni ci _).mono ?_
  rintro e w3 ⟨rfl, hw3⟩
  have hb3 : Below w2.drew.heap.size w2.drew w3 := by rw [hw3]; exact (Below.refl _ _).alloc (Nat.le_refl _) _
  have hq3 : Blk w3 w2.drew.heap.size #[.slice i ni ci] 24 := by rw [hw3]; exact Blk.new _ _ _
  clear hw3
  refine hK.out _ _ (⟨cell_later hb3 hS.1, cell_later hb3 hS.2⟩) (fun hS2 => ?_)
  clear hK K hS
  have hS := hS2
  clear hS2
  (try simp only [Act.put, List.getElem_toArray, List.getElem_cons_zero, List.getElem_cons_succ, List.setIfInBounds_toArray, List.set_cons_zero, List.set_cons_succ])
  refine wpAnyH_ready (rs := [3]) (by as_aux_lemma => kernel_rfl) (by simp) ?_
  refine AllReadyH.cons rfl (fun K hK => ?_) AllReadyH.nil
  go_simp
  refine (HMO.out _ w2.drew w3 HTA.out hb3 hq3 (Nat.le_refl _)).mono ?_
  rintro e w4 ⟨B, b, v, rfl, hm4, -⟩
  refine hK.out _ _ (⟨cell_later hm4.below hS0.1, cell_later hm4.below hS0.2⟩) (fun hS2 => ?_)
  clear hK K hS
  have hS := hS2
  clear hS2
  (try simp only [Act.put, List.getElem_toArray, List.getElem_cons_zero, List.getElem_cons_succ, List.setIfInBounds_toArray, List.set_cons_zero, List.set_cons_succ])
  refine wpAnyH_take (i := 4) (v := (.pointer (some ⟨B, 0, none⟩))) rfl (by as_aux_lemma => kernel_rfl) (by as_aux_lemma => kernel_rfl) (by as_aux_lemma => kernel_rfl) (fun _ _ _ h => h) (Or.inl ⟨by kernel_rfl, ?_⟩) hS ?_
  · intro w hSw; (try dsimp only at hSw); have h0 := hSw.1; have h1 := hSw.2; go_simp
  (try simp only [Act.put, List.getElem_toArray, List.getElem_cons_zero, List.getElem_cons_succ, List.setIfInBounds_toArray, List.set_cons_zero, List.set_cons_succ])
  refine wpAnyH_done (by kernel_rfl) ?_ _
  have HM4 := hid hm4
  clear hS hS0 hm4 hb3 hq3 c0 c1
  go_wp2_with fail
  refine (HSO.out w4 (hx.below (HBD.out.trans (HM4.out.below.mono HBD.out.size)))).mono ?_
  rintro e w5 ⟨rfl, hb5⟩
  have HM5 := hid (HM4.out.later hb5)
  clear hb5 HM4
  go_wp2_with fail
  refine (HEN.out w2.drew w5 B b _ v HM5.out).mono ?_
  rintro e w6 ⟨rfl, v6, hm6⟩
  have HM6 := hid hm6
  clear hm6 HM5
  go_wp2_with fail
  refine (HTB.out w2.drew w6 B b _ v6 HM6.out).mono ?_
  rintro e w7 ⟨va, cv, rfl, hrow, hb7⟩
  have hb27 : Below w2.drew.heap.size w2.drew w7 := HM6.out.below.trans (hb7.mono HM6.out.below.size)
  have rb := Blk.of HRD.out hb27
  have d0 := rb.cell 0
  have d1 := rb.cell 1
  have d2 := rb.cell 2
  have d3 := rb.cell 3
  have df0 := rb.frozen 0
  have df1 := rb.frozen 1
  have df2 := rb.frozen 2
  have df3 := rb.frozen 3
  simp only [List.getElem?_toArray, List.getElem?_cons_zero, List.getElem?_cons_succ] at d0 d1 d2 d3
  have HB07 := hid (HBD.out.trans (hb27.mono HBD.out.size))
  have hz6 : w.heap.size + 2 ≤ w6.heap.size := by have := HRD.out.lt; have := HM6.out.below.size; omega
  have HT : Hid (TabR true w7 w6.heap.size w7.heap.size (.slice va E.length cv) E.length E) := hid (TabR.weaken hrow)
  clear rb hrow hb7 hb27 HM6
  go_wp2
  refine bodyPost_ret (v := .agg #[.int .i64 0, .int .i64 P, .int .i64 z, .slice va E.length cv]) (by simp [results, Try.results25, go_sem, d0, d1, d2, d3]) rfl ⟨_, rfl, ?_, ?_⟩
  · refine TabR.mono (lo := w6.heap.size) (hi := w7.heap.size) ?_ (by omega) (by simp [World.setCell])
    repeat first | exact HT.out | refine TabR.setB ?_ (.inl (by omega)) _ _
  · repeat first | exact HB07.out | refine Below.setCell ?_ (by first | exact Nat.le_refl _ | omega | (simp; done) | (show w.heap.size ≤ w.heap.size + 1; omega)) _
end Go.Proofs.Ytlemdjgpkmjihaa

namespace Go.Proofs.Ytlemdjgpkmjihaa
open Go.RowKit
set_option linter.unusedVariables false
set_option linter.unusedSimpArgs false

theorem stN_le {M : Nat} : ∀ {ts : List St}, (∀ y ∈ ts, y.1.length ≤ 80) → (∀ y ∈ ts, y.2.length ≤ M) → stN ts ≤ ts.length * (80 + M)
  | [], _, _ => by simp [stN]
  | x :: ts, h1, h2 => by
    have ih := stN_le (M := M) (ts := ts) (fun y hy => h1 y (by simp [hy])) (fun y hy => h2 y (by simp [hy]))
    have a := h1 x (by simp)
    have b := h2 x (by simp)
    rw [stN, List.length_cons, Nat.add_mul]
    omega
theorem TabI.sum {n : Nat} {z : Int} {M : Nat} {ts : List St} (h : TabI n z M ts) : (ts.length : Int) + stN ts ≤ 12 * (81 + M) := by
  have h1 := stN_le h.lens h.many
  have h2 := h.len
  have h3 := h.size
  have h4 : ts.length ≤ 12 := by omega
  have h5 : ts.length * (80 + M) ≤ 12 * (80 + M) := Nat.mul_le_mul_right _ h4
  have h6 : ((12 * (80 + M) : Nat) : Int) = 12 * (80 + M) := by push_cast; rfl
  omega
theorem enRows_len (cs : List In) (z : Int) (ts : List St) (xs : List Int) : ((enRows cs z ts xs).length : Int) + stN (enRows cs z ts xs) ≤ 10000 := by
  unfold enRows
  by_cases h : enCode cs z ts xs = 0
  · rw [if_pos h]
    unfold enCode at h
    by_cases hf : tabF cs z ts ≠ 0
    · rw [if_pos hf] at h; exact absurd h hf
    · rw [if_neg hf] at h
      have hI := tabI_of (Decidable.not_not.1 hf)
      obtain ⟨-, k1, k2⟩ := setFault_ok h
      have := (hI.enter (setFault_rise h) k2 k1).1.sum
      omega
  · rw [if_neg h]; simp [stN]
end Go.Proofs.Ytlemdjgpkmjihaa
