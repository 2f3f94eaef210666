/-
  Set8M, Set8 in one text.
-/
import Derived.Test.YtjkipdamohljpaaSet5
import Derived.Test.YtjkipdamohljpaaSet7
import Derived.Test.YtjkipdamohljpaaProg2
import Derived.Test.YtjkipdamohljpaaProg4
namespace Go.Proofs.Ytjkipdamohljpaa
open Go.RowKit
set_option linter.unusedVariables false
set_option linter.unusedSimpArgs false

theorem setGo_ok {n p : Int} {xs : List Int} (hp : -1 ≤ p) (h : setGo n p xs = 0) : ∀ x ∈ xs, 0 ≤ x ∧ x < n := by
  induction xs generalizing p with
  | nil => intro x hx; simp at hx
  | cons a xs ih =>
    rw [setGo] at h
    by_cases h1 : a ≤ p ∨ n ≤ a
    · rw [if_pos h1] at h; omega
    · rw [if_neg h1] at h
      intro x hx
      rcases List.mem_cons.1 hx with rfl | hx
      · omega
      · exact ih (by omega) h x hx

theorem setFault_ok {is : List In} {xs : List Int} (h : setFault is xs = 0) : progFault is = 0 ∧ xs.length ≤ 80 ∧ ∀ x ∈ xs, 0 ≤ x ∧ x < is.length := by
  unfold setFault at h
  by_cases h1 : progFault is ≠ 0
  · rw [if_pos h1] at h; exact absurd h h1
  rw [if_neg h1] at h
  by_cases h2 : 80 < xs.length
  · rw [if_pos h2] at h; omega
  rw [if_neg h2] at h
  exact ⟨Decidable.not_not.1 h1, by omega, setGo_ok (by omega) h⟩

theorem getD_false_of_le {bs : List Bool} {q : Nat} (h : bs.length ≤ q) : bs.getD q false = false := by
  simp [List.getD_eq_getElem?_getD, List.getElem?_eq_none h]

theorem places_eq {R S : List Bool} (hl : S.length ≤ R.length) (h : ∀ q, R.getD q false = S.getD q false) : placesOf R = placesOf S := by
  unfold placesOf
  have e1 : placesTo R R.length = placesTo R S.length := by
    rw [show R.length = S.length + (R.length - S.length) by omega]
    exact placesTo_more (fun i hi => by rw [h, getD_false_of_le hi])
  rw [e1]
  exact placesTo_congr (fun i _ => h i)

theorem markB_at (xs : List Int) : ∀ (b : List Bool) (q : Nat), q < b.length → ((xs.foldl (fun b x => b.set x.toNat true) b).getD q false = true ↔ b.getD q false = true ∨ ∃ x ∈ xs, x.toNat = q) := by
  induction xs with
  | nil => intro b q hq; simp
  | cons a xs ih =>
    intro b q hq
    rw [List.foldl_cons, ih _ q (by simpa using hq)]
    constructor
    · rintro (h | ⟨x, hx, rfl⟩)
      · rcases getD_set_true h with rfl | h
        · exact .inr ⟨a, by simp, rfl⟩
        · exact .inl h
      · exact .inr ⟨x, by simp [hx], rfl⟩
    · rintro (h | ⟨x, hx, rfl⟩)
      · exact .inl (getD_set_keep h)
      · rcases List.mem_cons.1 hx with rfl | hx
        · exact .inl (getD_set_same hq)
        · exact .inr ⟨x, hx, rfl⟩

theorem rep_false (n q : Nat) : (List.replicate n false).getD q false = false := by
  by_cases hq : q < n <;> simp [List.getD_eq_getElem?_getD, hq]

theorem markB_mem {xs : List Int} (hx : ∀ x ∈ xs, 0 ≤ x ∧ x < 80) (q : Nat) : (markB xs).getD q false = true ↔ (q : Int) ∈ xs := by
  by_cases hq : q < 80
  · unfold markB
    rw [markB_at xs _ q (by simpa using hq), rep_false]
    simp only [Bool.false_eq_true, false_or]
    constructor
    · rintro ⟨x, h1, rfl⟩
      rw [show ((x.toNat : Nat) : Int) = x by have := hx x h1; omega]
      exact h1
    · intro h; exact ⟨_, h, by simp⟩
  · constructor
    · intro h; rw [getD_false_of_le (by rw [markB_len]; omega)] at h; cases h
    · intro h; have := hx _ h; omega

theorem markB_places {xs : List Int} (hx : ∀ x ∈ xs, 0 ≤ x ∧ x < 80) {k : Nat} (hk : ∀ x ∈ xs, x < k) (p : Int) : p ∈ placesTo (markB xs) k ↔ p ∈ xs := by
  rw [placesTo_mem]
  constructor
  · rintro ⟨q, rfl, _, h⟩; exact (markB_mem hx q).1 h
  · intro h
    have := hx p h
    have h3 := hk p h
    refine ⟨p.toNat, by omega, by omega, ?_⟩
    rw [markB_mem hx, show ((p.toNat : Nat) : Int) = p by omega]
    exact h

theorem below_markB {xs : List Int} {n : Nat} (hn : n ≤ 80) (hx : ∀ x ∈ xs, 0 ≤ x ∧ x < (n : Int)) : BelowN (markB xs) n := by
  intro q hq
  have := hx _ ((markB_mem (fun x h => by have := hx x h; omega) q).1 hq)
  omega

/-- What both come to: the same. -/
theorem close_eq {is : List In} (hin : Inside is) (h80 : is.length ≤ 80) (b e : Bool) {ps qs : List Int} (hpq : ∀ p, p ∈ ps ↔ p ∈ qs) (hp : ∀ p ∈ ps, p.toNat < is.length) : placesOf (closeI is b e ps) = placesOf (closeS is b e qs) := by
  obtain ⟨g1, g2⟩ := goes_of hin b e
  have hq : ∀ p ∈ qs, p.toNat < is.length := fun p h => hp p ((hpq p).2 h)
  have l1 := dfsAll_least g1 80 h80 (Nat.le_refl _) ps hp
  have l2 := dfsAll_least g2 is.length (Nat.le_refl _) h80 qs hq
  have n1 : (closeI is b e ps).length = 80 := dfsAll_len g1 80 h80 (Nat.le_refl _) _ (by simp) ps hp
  have n2 : (closeS is b e qs).length = is.length := dfsAll_len g2 is.length (Nat.le_refl _) h80 _ (by simp) qs hq
  exact places_eq (by rw [n1, n2]; exact h80) (Least.same (nxt_same b e is) hpq l1 l2)

theorem stepFold_at {is : List In} {d : Int} (ps : List Int) : ∀ (b : List Bool) (q : Nat), q < b.length → ((ps.foldl (stepGo is d) b).getD q false = true ↔ b.getD q false = true ∨ ∃ p ∈ ps, ∃ i, is[p.toNat]? = some i ∧ i.o = 1 ∧ hasB i.nd d = true ∧ i.x.toNat = q) := by
  induction ps with
  | nil => intro b q hq; simp
  | cons a ps ih =>
    intro b q hq
    have hlen : (stepGo is d b a).length = b.length := by
      have := stepFold_len is d [a] b
      simpa using this
    rw [List.foldl_cons, ih _ q (by rw [hlen]; exact hq)]
    have h1 : (stepGo is d b a).getD q false = true ↔ b.getD q false = true ∨ ∃ i, is[a.toNat]? = some i ∧ i.o = 1 ∧ hasB i.nd d = true ∧ i.x.toNat = q := by
      unfold stepGo
      cases hi : is[a.toNat]? with
      | none => simp
      | some i =>
        simp only [Option.some.injEq, exists_eq_left']
        by_cases hc : i.o = 1 ∧ hasB i.nd d = true
        · rw [if_pos hc]
          constructor
          · intro h
            rcases getD_set_true h with rfl | h
            · exact .inr ⟨hc.1, hc.2, rfl⟩
            · exact .inl h
          · rintro (h | ⟨_, _, rfl⟩)
            · exact getD_set_keep h
            · exact getD_set_same hq
        · rw [if_neg hc]
          constructor
          · intro h; exact .inl h
          · rintro (h | ⟨h1, h2, _⟩)
            · exact h
            · exact absurd ⟨h1, h2⟩ hc
    rw [h1]
    constructor
    · rintro ((h | h) | ⟨p, hp, h⟩)
      · exact .inl h
      · exact .inr ⟨a, by simp, h⟩
      · exact .inr ⟨p, by simp [hp], h⟩
    · rintro (h | ⟨p, hp, h⟩)
      · exact .inl (.inl h)
      · rcases List.mem_cons.1 hp with rfl | hp
        · exact .inl (.inr h)
        · exact .inr ⟨p, hp, h⟩

theorem stepI_at {is : List In} (hin : Inside is) (h80 : is.length ≤ 80) {d : Int} {ps : List Int} (q : Nat) : (stepI is d ps).getD q false = true ↔ ∃ p ∈ ps, ∃ i, is[p.toNat]? = some i ∧ i.o = 1 ∧ hasB i.nd d = true ∧ i.x.toNat = q := by
  by_cases hq : q < 80
  · unfold stepI
    rw [stepFold_at ps _ q (by simpa using hq), rep_false]
    simp
  · constructor
    · intro h; rw [getD_false_of_le (by rw [stepI_len]; omega)] at h; cases h
    · rintro ⟨p, _, i, hi, _, _, rfl⟩
      have := hin i (List.mem_of_getElem? hi)
      omega
theorem stepS_at {is : List In} (hin : Inside is) {d : Int} {ps : List Int} (q : Nat) : (stepS is d ps).getD q false = true ↔ ∃ p ∈ ps, ∃ i, is[p.toNat]? = some i ∧ i.o = 1 ∧ hasB i.nd d = true ∧ i.x.toNat = q := by
  have hl : (stepS is d ps).length = is.length := by unfold stepS; rw [stepFold_len]; simp
  by_cases hq : q < is.length
  · unfold stepS
    rw [stepFold_at ps _ q (by simpa using hq), rep_false]
    simp
  · constructor
    · intro h; rw [getD_false_of_le (by omega)] at h; cases h
    · rintro ⟨p, _, i, hi, _, _, rfl⟩
      have := hin i (List.mem_of_getElem? hi)
      omega

theorem step_eq {is : List In} (hin : Inside is) (h80 : is.length ≤ 80) (d : Int) {ps qs : List Int} (hpq : ∀ p, p ∈ ps ↔ p ∈ qs) : placesOf (stepI is d ps) = placesOf (stepS is d qs) := by
  have n2 : (stepS is d qs).length = is.length := by unfold stepS; rw [stepFold_len]; simp
  refine places_eq (by rw [stepI_len, n2]; exact h80) (fun q => ?_)
  have h1 := stepI_at hin h80 (d := d) (ps := ps) q
  have h2 := stepS_at hin (d := d) (ps := qs) q
  have h3 : (stepI is d ps).getD q false = true ↔ (stepS is d qs).getD q false = true := by
    rw [h1, h2]
    constructor
    · rintro ⟨p, hp, h⟩; exact ⟨p, (hpq p).1 hp, h⟩
    · rintro ⟨p, hp, h⟩; exact ⟨p, (hpq p).2 hp, h⟩
  exact Bool.eq_iff_iff.2 h3

/-- What CloseSet and StepSet tell. -/
def clRes (is : List In) (xs : List Int) (b e : Bool) : List Int := if setFault is xs = 0 then placesOf (closeS is b e xs) else []
def stRes (is : List In) (xs : List Int) (d : Int) : List Int := if setFault is xs = 0 then placesOf (stepS is d xs) else []
theorem clRes_len (is : List In) (xs : List Int) (b e : Bool) : (clRes is xs b e).length ≤ 80 := by
  unfold clRes
  split
  · rename_i h
    obtain ⟨h1, h2, h3⟩ := setFault_ok h
    have hp := progFault_ok h1
    have hl := placesOf_len (closeS is b e xs)
    have := dfsAll_len (goes_of (inside_of h1) b e).2 is.length (Nat.le_refl _) hp.2.1 (List.replicate is.length false) (by simp) xs (fun p h => by have := h3 p h; omega)
    have e2 : (closeS is b e xs).length = is.length := this
    omega
  · simp
theorem stRes_len (is : List In) (xs : List Int) (d : Int) : (stRes is xs d).length ≤ 80 := by
  unfold stRes
  split
  · rename_i h
    have hp := progFault_ok (setFault_ok h).1
    have hl := placesOf_len (stepS is d xs)
    have n2 : (stepS is d xs).length = is.length := by unfold stepS; rw [stepFold_len]; simp
    omega
  · simp
end Go.Proofs.Ytjkipdamohljpaa

namespace Go.Proofs.Ytjkipdamohljpaa
open Go.RowKit
set_option linter.unusedVariables false
set_option linter.unusedSimpArgs false

set_option maxHeartbeats 1600000 in
set_option maxRecDepth 20000 in
theorem specCloseSet_any (a : Option Addr) (n ca : Nat) (is : List In) (x : Option Addr) (m cx : Nat) (xs : List Int) (b e : Bool) (w : World) (ha : RdR inE 8 w a n is) (hx : Rd .i64 w x m xs) (hs : inSum is ≤ 1048576) (h1 : n ≤ 1048576) (h2 : m ≤ 1048576) :
    Calls Try.prog 13 #[.slice a n ca, .slice x m cx, .bool b, .bool e] w fun r w' => ∃ v, r = .returned (.agg #[.int .i64 (setFault is xs), v]) ∧ RowI .i64 2 w' w.heap.size w'.heap.size v (clRes is xs b e).length (clRes is xs b e) ∧ Below w.heap.size w w' := by
  have CS := fun w' h' h'' => l7Set_any a n ca is x m cx xs w' h' h'' hs h1 h2
  have B1 : ∀ o, Below w.heap.size w (w.alloc o) := fun o => (Below.refl _ _).alloc (Nat.le_refl _) o
  by_cases hf : setFault is xs = 0
  case neg =>
    have e0 : clRes is xs b e = [] := by unfold clRes; rw [if_neg hf]
    rw [e0]
    generalize setFault is xs = P at *
    have hf' : (P == 0) = false := by simpa using hf
    have HS : Hid _ := CS
    clear CS e0
    go_enter Try.func13, Try.ntmps13
    go_wp2_with fail
    refine (HS.out _ (ha.below (B1 _)) (hx.below (B1 _))).mono ?_
    rintro r w1 ⟨rfl, hb1⟩
    have d0 : w1.cell? ⟨w.heap.size, 0, none⟩ = some (.int .i64 0) := cell_later hb1 (by simp [go_sem])
    have df0 : w1.frozen? ⟨w.heap.size, 0, none⟩ = false := (hb1.frozen (p := ⟨w.heap.size, 0, none⟩) (by simp)).trans (by simp [go_sem])
    have d1 : w1.cell? ⟨w.heap.size, 1, none⟩ = some (.slice none 0 0) := cell_later hb1 (by simp [go_sem])
    have df1 : w1.frozen? ⟨w.heap.size, 1, none⟩ = false := (hb1.frozen (p := ⟨w.heap.size, 1, none⟩) (by simp)).trans (by simp [go_sem])
    have hb01 := (B1 _).trans (hb1.mono (B1 _).size)
    have hz1 : w.heap.size < w1.heap.size := by have := hb1.size; simp at this; omega
    clear hb1
    go_wp2
    refine bodyPost_ret (v := .agg #[.int .i64 P, .slice none 0 0]) (by simp [results, Try.results13, go_sem, d0, d1]) rfl ⟨_, rfl, RowI.nil _ _ _ _ _, ?_⟩
    first | exact (hb01.setCell (Nat.le_refl _) _).setCell (Nat.le_refl _) _ | exact hb01.setCell (Nat.le_refl _) _
  obtain ⟨hpf, hm80, hxs⟩ := setFault_ok hf
  obtain ⟨hn1, hn80, -⟩ := progFault_ok hpf
  have hin := inside_of hpf
  have hlen := ha.1
  have hlx := hx.1
  have e0 : clRes is xs b e = placesOf (closeS is b e xs) := by unfold clRes; rw [if_pos hf]
  rw [e0]
  rw [hf] at CS ⊢
  have CC := fun w' h' h'' => l7Close_any a n ca is x m cx xs b e hin (by omega) (by omega) h2 (fun q hq => by have := hxs q hq; omega) w' h' h''
  generalize placesOf (closeS is b e xs) = L at CC ⊢
  have HS : Hid _ := CS
  have HC : Hid _ := CC
  clear CS CC e0 hf hpf hxs hin hlen hlx
  skip
  · go_enter Try.func13, Try.ntmps13
    go_wp2_with fail
    refine (HS.out _ (ha.below (B1 _)) (hx.below (B1 _))).mono ?_
    rintro r w1 ⟨rfl, hb1⟩
    have d0 : w1.cell? ⟨w.heap.size, 0, none⟩ = some (.int .i64 0) := cell_later hb1 (by simp [go_sem])
    have df0 : w1.frozen? ⟨w.heap.size, 0, none⟩ = false := (hb1.frozen (p := ⟨w.heap.size, 0, none⟩) (by simp)).trans (by simp [go_sem])
    have d1 : w1.cell? ⟨w.heap.size, 1, none⟩ = some (.slice none 0 0) := cell_later hb1 (by simp [go_sem])
    have df1 : w1.frozen? ⟨w.heap.size, 1, none⟩ = false := (hb1.frozen (p := ⟨w.heap.size, 1, none⟩) (by simp)).trans (by simp [go_sem])
    have hb01 := (B1 _).trans (hb1.mono (B1 _).size)
    have hz1 : w.heap.size < w1.heap.size := by have := hb1.size; simp at this; omega
    clear hb1
    go_wp2_with fail
    refine (HC.out _ (ha.below hb01) (hx.below hb01)).mono ?_
    rintro r w2 ⟨v, rfl, ho2, hb2⟩
    replace d0 := cell_later hb2 d0
    replace df0 : w2.frozen? ⟨w.heap.size, 0, none⟩ = false := (hb2.frozen (p := ⟨w.heap.size, 0, none⟩) (by exact hz1)).trans df0
    replace d1 := cell_later hb2 d1
    replace df1 : w2.frozen? ⟨w.heap.size, 1, none⟩ = false := (hb2.frozen (p := ⟨w.heap.size, 1, none⟩) (by exact hz1)).trans df1
    have hb02 := hb01.trans (hb2.mono hb01.size)
    have hz2 : w1.heap.size ≤ w2.heap.size := hb2.size
    obtain ⟨va, vc, hv, -⟩ := ho2.rd
    subst hv
    clear hb2
    go_wp2
    have S : ∀ (W : World) (i : Nat) (u : Value), RowI .i64 2 W w1.heap.size w2.heap.size (.slice va L.length vc) L.length L → RowI .i64 2 (W.setCell ⟨w.heap.size, i, none⟩ u) w1.heap.size w2.heap.size (.slice va L.length vc) L.length L := fun W i u h => h.chg (Chg.one (set_grown W w.heap.size i u)) (.inr (by omega))
    refine bodyPost_ret (v := .agg #[.int .i64 0, .slice va L.length vc]) (by simp [results, Try.results13, go_sem, d0, d1]) rfl ⟨_, rfl, ?_, ?_⟩
    · refine RowI.mono (S _ _ _ (S _ _ _ (RowI.of ho2))) (by omega) (by simp [World.setCell])
    · exact (hb02.setCell (Nat.le_refl _) _).setCell (Nat.le_refl _) _

set_option maxHeartbeats 1600000 in
set_option maxRecDepth 20000 in
theorem implCloseSet_any (a : Option Addr) (n ca : Nat) (is : List In) (x : Option Addr) (m cx : Nat) (xs : List Int) (b e : Bool) (w : World) (ha : RdR inE 8 w a n is) (hx : Rd .i64 w x m xs) (hs : inSum is ≤ 1048576) (h1 : n ≤ 1048576) (h2 : m ≤ 1048576) :
    Calls Try.prog 12 #[.slice a n ca, .slice x m cx, .bool b, .bool e] w fun r w' => ∃ v, r = .returned (.agg #[.int .i64 (setFault is xs), v]) ∧ RowI .i64 2 w' w.heap.size w'.heap.size v (clRes is xs b e).length (clRes is xs b e) ∧ Below w.heap.size w w' := by
  have CS := fun w' h' h'' => implSetFault_any a n ca is x m cx xs w' h' h'' hs h1 h2
  have B1 : ∀ o, Below w.heap.size w (w.alloc o) := fun o => (Below.refl _ _).alloc (Nat.le_refl _) o
  by_cases hf : setFault is xs = 0
  case neg =>
    have e0 : clRes is xs b e = [] := by unfold clRes; rw [if_neg hf]
    rw [e0]
    generalize setFault is xs = P at *
    have hf' : (P == 0) = false := by simpa using hf
    have HS : Hid _ := CS
    clear CS e0
    go_enter Try.func12, Try.ntmps12
    go_wp2_with fail
    refine (HS.out _ (ha.below (B1 _)) (hx.below (B1 _))).mono ?_
    rintro r w1 ⟨rfl, hb1⟩
    have d0 : w1.cell? ⟨w.heap.size, 0, none⟩ = some (.int .i64 0) := cell_later hb1 (by simp [go_sem])
    have df0 : w1.frozen? ⟨w.heap.size, 0, none⟩ = false := (hb1.frozen (p := ⟨w.heap.size, 0, none⟩) (by simp)).trans (by simp [go_sem])
    have d1 : w1.cell? ⟨w.heap.size, 1, none⟩ = some (.slice none 0 0) := cell_later hb1 (by simp [go_sem])
    have df1 : w1.frozen? ⟨w.heap.size, 1, none⟩ = false := (hb1.frozen (p := ⟨w.heap.size, 1, none⟩) (by simp)).trans (by simp [go_sem])
    have hb01 := (B1 _).trans (hb1.mono (B1 _).size)
    have hz1 : w.heap.size < w1.heap.size := by have := hb1.size; simp at this; omega
    clear hb1
    go_wp2
    refine bodyPost_ret (v := .agg #[.int .i64 P, .slice none 0 0]) (by simp [results, Try.results12, go_sem, d0, d1]) rfl ⟨_, rfl, RowI.nil _ _ _ _ _, ?_⟩
    first | exact (hb01.setCell (Nat.le_refl _) _).setCell (Nat.le_refl _) _ | exact hb01.setCell (Nat.le_refl _) _
  obtain ⟨hpf, hm80, hxs⟩ := setFault_ok hf
  obtain ⟨hn1, hn80, -⟩ := progFault_ok hpf
  have hin := inside_of hpf
  have hlen := ha.1
  have hlx := hx.1
  have e0 : clRes is xs b e = placesOf (closeS is b e xs) := by unfold clRes; rw [if_pos hf]
  rw [e0]
  rw [hf] at CS ⊢
  have hx80 : ∀ q ∈ xs, 0 ≤ q ∧ q < 80 := fun q hq => by have := hxs q hq; omega
  have hbn : BelowN (markB xs) n := below_markB (by omega) (fun q hq => by have := hxs q hq; omega)
  have CM := fun w' h' => setOfList_any x m cx xs w' h' hx80 (by omega)
  have CC := fun w' h' => closed_any a n ca is b e hin (by omega) (markB xs) w' (markB_len xs) hbn h'
  have hmem := fun p => markB_places hx80 (k := 80) (fun q hq => (hx80 q hq).2) p
  have epl : placesOf (markB xs) = placesTo (markB xs) 80 := by unfold placesOf; rw [markB_len]
  rw [← epl] at hmem
  have heq := close_eq hin (by omega) b e (ps := placesOf (markB xs)) (qs := xs) hmem (fun p hp => by have := hxs p ((hmem p).1 hp); omega)
  have hl80 := dfsAll_len (goes_of hin b e).1 80 (by omega) (Nat.le_refl _) (List.replicate 80 false) (by simp) (placesOf (markB xs)) (fun p hp => by have := hxs p ((hmem p).1 hp); omega)
  have CL := fun w' => list_any _ (closeI is b e (placesOf (markB xs))) rfl hl80 w'
  rw [heq] at CL
  generalize placesOf (closeS is b e xs) = L at CL ⊢
  generalize boolsA (closeI is b e (placesOf (markB xs))) = A2 at CC CL
  generalize boolsA (markB xs) = A1 at CM CC
  have HS : Hid _ := CS
  have HM : Hid _ := CM
  have HC : Hid _ := CC
  have HL : Hid _ := CL
  clear CS CM CC CL e0 hf hpf hxs hin hlen hlx hx80 hbn hmem heq epl hl80
  skip
  · go_enter Try.func12, Try.ntmps12
    go_wp2_with fail
    refine (HS.out _ (ha.below (B1 _)) (hx.below (B1 _))).mono ?_
    rintro r w1 ⟨rfl, hb1⟩
    have d0 : w1.cell? ⟨w.heap.size, 0, none⟩ = some (.int .i64 0) := cell_later hb1 (by simp [go_sem])
    have df0 : w1.frozen? ⟨w.heap.size, 0, none⟩ = false := (hb1.frozen (p := ⟨w.heap.size, 0, none⟩) (by simp)).trans (by simp [go_sem])
    have d1 : w1.cell? ⟨w.heap.size, 1, none⟩ = some (.slice none 0 0) := cell_later hb1 (by simp [go_sem])
    have df1 : w1.frozen? ⟨w.heap.size, 1, none⟩ = false := (hb1.frozen (p := ⟨w.heap.size, 1, none⟩) (by simp)).trans (by simp [go_sem])
    have hb01 := (B1 _).trans (hb1.mono (B1 _).size)
    have hz1 : w.heap.size < w1.heap.size := by have := hb1.size; simp at this; omega
    clear hb1
    go_wp2_with fail
    refine (HM.out _ (hx.below hb01)).mono ?_
    rintro r w2 ⟨rfl, hb2⟩
    replace d0 := cell_later hb2 d0
    replace df0 : w2.frozen? ⟨w.heap.size, 0, none⟩ = false := (hb2.frozen (p := ⟨w.heap.size, 0, none⟩) (by exact hz1)).trans df0
    replace d1 := cell_later hb2 d1
    replace df1 : w2.frozen? ⟨w.heap.size, 1, none⟩ = false := (hb2.frozen (p := ⟨w.heap.size, 1, none⟩) (by exact hz1)).trans df1
    have hb02 := hb01.trans (hb2.mono hb01.size)
    have hz2 : w.heap.size < w2.heap.size := Nat.lt_of_lt_of_le hz1 hb2.size
    clear hb2
    go_wp2_with fail
    refine (HC.out _ (ha.below hb02)).mono ?_
    rintro r w3 ⟨rfl, hb3⟩
    replace d0 := cell_later hb3 d0
    replace df0 : w3.frozen? ⟨w.heap.size, 0, none⟩ = false := (hb3.frozen (p := ⟨w.heap.size, 0, none⟩) (by exact hz2)).trans df0
    replace d1 := cell_later hb3 d1
    replace df1 : w3.frozen? ⟨w.heap.size, 1, none⟩ = false := (hb3.frozen (p := ⟨w.heap.size, 1, none⟩) (by exact hz2)).trans df1
    have hb03 := hb02.trans (hb3.mono hb02.size)
    have hz3 : w.heap.size < w3.heap.size := Nat.lt_of_lt_of_le hz2 hb3.size
    clear hb3
    go_wp2_with fail
    refine (HL.out _).mono ?_
    rintro r w4 ⟨v, rfl, ho4, hb4⟩
    replace d0 := cell_later hb4 d0
    replace df0 : w4.frozen? ⟨w.heap.size, 0, none⟩ = false := (hb4.frozen (p := ⟨w.heap.size, 0, none⟩) (by exact hz3)).trans df0
    replace d1 := cell_later hb4 d1
    replace df1 : w4.frozen? ⟨w.heap.size, 1, none⟩ = false := (hb4.frozen (p := ⟨w.heap.size, 1, none⟩) (by exact hz3)).trans df1
    have hb04 := hb03.trans (hb4.mono hb03.size)
    have hz4 : w3.heap.size ≤ w4.heap.size := hb4.size
    obtain ⟨va, vc, hv, -⟩ := ho4.rd
    subst hv
    clear hb4
    go_wp2
    have S : ∀ (W : World) (i : Nat) (u : Value), RowI .i64 2 W w3.heap.size w4.heap.size (.slice va L.length vc) L.length L → RowI .i64 2 (W.setCell ⟨w.heap.size, i, none⟩ u) w3.heap.size w4.heap.size (.slice va L.length vc) L.length L := fun W i u h => h.chg (Chg.one (set_grown W w.heap.size i u)) (.inr (by omega))
    refine bodyPost_ret (v := .agg #[.int .i64 0, .slice va L.length vc]) (by simp [results, Try.results12, go_sem, d0, d1]) rfl ⟨_, rfl, ?_, ?_⟩
    · refine RowI.mono (S _ _ _ (S _ _ _ (RowI.of ho4))) (by omega) (by simp [World.setCell])
    · exact (hb04.setCell (Nat.le_refl _) _).setCell (Nat.le_refl _) _

set_option maxHeartbeats 1600000 in
set_option maxRecDepth 20000 in
theorem specStepSet_any (a : Option Addr) (n ca : Nat) (is : List In) (x : Option Addr) (m cx : Nat) (xs : List Int) (d : Int) (hd0 : 0 ≤ d) (hd1 : d < 256) (w : World) (ha : RdR inE 8 w a n is) (hx : Rd .i64 w x m xs) (hs : inSum is ≤ 1048576) (h1 : n ≤ 1048576) (h2 : m ≤ 1048576) :
    Calls Try.prog 18 #[.slice a n ca, .slice x m cx, .int .u8 d] w fun r w' => ∃ v, r = .returned (.agg #[.int .i64 (setFault is xs), v]) ∧ RowI .i64 2 w' w.heap.size w'.heap.size v (stRes is xs d).length (stRes is xs d) ∧ Below w.heap.size w w' := by
  have CS := fun w' h' h'' => l7Set_any a n ca is x m cx xs w' h' h'' hs h1 h2
  have B1 : ∀ o, Below w.heap.size w (w.alloc o) := fun o => (Below.refl _ _).alloc (Nat.le_refl _) o
  by_cases hf : setFault is xs = 0
  case neg =>
    have e0 : stRes is xs d = [] := by unfold stRes; rw [if_neg hf]
    rw [e0]
    generalize setFault is xs = P at *
    have hf' : (P == 0) = false := by simpa using hf
    have HS : Hid _ := CS
    clear CS e0
    go_enter Try.func18, Try.ntmps18
    go_wp2_with fail
    refine (HS.out _ (ha.below (B1 _)) (hx.below (B1 _))).mono ?_
    rintro r w1 ⟨rfl, hb1⟩
    have d0 : w1.cell? ⟨w.heap.size, 0, none⟩ = some (.int .i64 0) := cell_later hb1 (by simp [go_sem])
    have df0 : w1.frozen? ⟨w.heap.size, 0, none⟩ = false := (hb1.frozen (p := ⟨w.heap.size, 0, none⟩) (by simp)).trans (by simp [go_sem])
    have d1 : w1.cell? ⟨w.heap.size, 1, none⟩ = some (.slice none 0 0) := cell_later hb1 (by simp [go_sem])
    have df1 : w1.frozen? ⟨w.heap.size, 1, none⟩ = false := (hb1.frozen (p := ⟨w.heap.size, 1, none⟩) (by simp)).trans (by simp [go_sem])
    have hb01 := (B1 _).trans (hb1.mono (B1 _).size)
    have hz1 : w.heap.size < w1.heap.size := by have := hb1.size; simp at this; omega
    clear hb1
    go_wp2
    refine bodyPost_ret (v := .agg #[.int .i64 P, .slice none 0 0]) (by simp [results, Try.results18, go_sem, d0, d1]) rfl ⟨_, rfl, RowI.nil _ _ _ _ _, ?_⟩
    first | exact (hb01.setCell (Nat.le_refl _) _).setCell (Nat.le_refl _) _ | exact hb01.setCell (Nat.le_refl _) _
  obtain ⟨hpf, hm80, hxs⟩ := setFault_ok hf
  obtain ⟨hn1, hn80, -⟩ := progFault_ok hpf
  have hin := inside_of hpf
  have hlen := ha.1
  have hlx := hx.1
  have e0 : stRes is xs d = placesOf (stepS is d xs) := by unfold stRes; rw [if_pos hf]
  rw [e0]
  rw [hf] at CS ⊢
  have CC := fun w' h' h'' => l7Step_any a n ca is x m cx xs d hd0 hd1 hin hs (by omega) (by omega) h2 (fun q hq => by have := hxs q hq; omega) w' h' h''
  generalize placesOf (stepS is d xs) = L at CC ⊢
  have HS : Hid _ := CS
  have HC : Hid _ := CC
  clear CS CC e0 hf hpf hxs hin hlen hlx
  skip
  · go_enter Try.func18, Try.ntmps18
    go_wp2_with fail
    refine (HS.out _ (ha.below (B1 _)) (hx.below (B1 _))).mono ?_
    rintro r w1 ⟨rfl, hb1⟩
    have d0 : w1.cell? ⟨w.heap.size, 0, none⟩ = some (.int .i64 0) := cell_later hb1 (by simp [go_sem])
    have df0 : w1.frozen? ⟨w.heap.size, 0, none⟩ = false := (hb1.frozen (p := ⟨w.heap.size, 0, none⟩) (by simp)).trans (by simp [go_sem])
    have d1 : w1.cell? ⟨w.heap.size, 1, none⟩ = some (.slice none 0 0) := cell_later hb1 (by simp [go_sem])
    have df1 : w1.frozen? ⟨w.heap.size, 1, none⟩ = false := (hb1.frozen (p := ⟨w.heap.size, 1, none⟩) (by simp)).trans (by simp [go_sem])
    have hb01 := (B1 _).trans (hb1.mono (B1 _).size)
    have hz1 : w.heap.size < w1.heap.size := by have := hb1.size; simp at this; omega
    clear hb1
    go_wp2_with fail
    refine (HC.out _ (ha.below hb01) (hx.below hb01)).mono ?_
    rintro r w2 ⟨v, rfl, ho2, hb2⟩
    replace d0 := cell_later hb2 d0
    replace df0 : w2.frozen? ⟨w.heap.size, 0, none⟩ = false := (hb2.frozen (p := ⟨w.heap.size, 0, none⟩) (by exact hz1)).trans df0
    replace d1 := cell_later hb2 d1
    replace df1 : w2.frozen? ⟨w.heap.size, 1, none⟩ = false := (hb2.frozen (p := ⟨w.heap.size, 1, none⟩) (by exact hz1)).trans df1
    have hb02 := hb01.trans (hb2.mono hb01.size)
    have hz2 : w1.heap.size ≤ w2.heap.size := hb2.size
    obtain ⟨va, vc, hv, -⟩ := ho2.rd
    subst hv
    clear hb2
    go_wp2
    have S : ∀ (W : World) (i : Nat) (u : Value), RowI .i64 2 W w1.heap.size w2.heap.size (.slice va L.length vc) L.length L → RowI .i64 2 (W.setCell ⟨w.heap.size, i, none⟩ u) w1.heap.size w2.heap.size (.slice va L.length vc) L.length L := fun W i u h => h.chg (Chg.one (set_grown W w.heap.size i u)) (.inr (by omega))
    refine bodyPost_ret (v := .agg #[.int .i64 0, .slice va L.length vc]) (by simp [results, Try.results18, go_sem, d0, d1]) rfl ⟨_, rfl, ?_, ?_⟩
    · refine RowI.mono (S _ _ _ (S _ _ _ (RowI.of ho2))) (by omega) (by simp [World.setCell])
    · exact (hb02.setCell (Nat.le_refl _) _).setCell (Nat.le_refl _) _

set_option maxHeartbeats 1600000 in
set_option maxRecDepth 20000 in
theorem implStepSet_any (a : Option Addr) (n ca : Nat) (is : List In) (x : Option Addr) (m cx : Nat) (xs : List Int) (d : Int) (hd0 : 0 ≤ d) (hd1 : d < 256) (w : World) (ha : RdR inE 8 w a n is) (hx : Rd .i64 w x m xs) (hs : inSum is ≤ 1048576) (h1 : n ≤ 1048576) (h2 : m ≤ 1048576) :
    Calls Try.prog 17 #[.slice a n ca, .slice x m cx, .int .u8 d] w fun r w' => ∃ v, r = .returned (.agg #[.int .i64 (setFault is xs), v]) ∧ RowI .i64 2 w' w.heap.size w'.heap.size v (stRes is xs d).length (stRes is xs d) ∧ Below w.heap.size w w' := by
  have CS := fun w' h' h'' => implSetFault_any a n ca is x m cx xs w' h' h'' hs h1 h2
  have B1 : ∀ o, Below w.heap.size w (w.alloc o) := fun o => (Below.refl _ _).alloc (Nat.le_refl _) o
  by_cases hf : setFault is xs = 0
  case neg =>
    have e0 : stRes is xs d = [] := by unfold stRes; rw [if_neg hf]
    rw [e0]
    generalize setFault is xs = P at *
    have hf' : (P == 0) = false := by simpa using hf
    have HS : Hid _ := CS
    clear CS e0
    go_enter Try.func17, Try.ntmps17
    go_wp2_with fail
    refine (HS.out _ (ha.below (B1 _)) (hx.below (B1 _))).mono ?_
    rintro r w1 ⟨rfl, hb1⟩
    have d0 : w1.cell? ⟨w.heap.size, 0, none⟩ = some (.int .i64 0) := cell_later hb1 (by simp [go_sem])
    have df0 : w1.frozen? ⟨w.heap.size, 0, none⟩ = false := (hb1.frozen (p := ⟨w.heap.size, 0, none⟩) (by simp)).trans (by simp [go_sem])
    have d1 : w1.cell? ⟨w.heap.size, 1, none⟩ = some (.slice none 0 0) := cell_later hb1 (by simp [go_sem])
    have df1 : w1.frozen? ⟨w.heap.size, 1, none⟩ = false := (hb1.frozen (p := ⟨w.heap.size, 1, none⟩) (by simp)).trans (by simp [go_sem])
    have hb01 := (B1 _).trans (hb1.mono (B1 _).size)
    have hz1 : w.heap.size < w1.heap.size := by have := hb1.size; simp at this; omega
    clear hb1
    go_wp2
    refine bodyPost_ret (v := .agg #[.int .i64 P, .slice none 0 0]) (by simp [results, Try.results17, go_sem, d0, d1]) rfl ⟨_, rfl, RowI.nil _ _ _ _ _, ?_⟩
    first | exact (hb01.setCell (Nat.le_refl _) _).setCell (Nat.le_refl _) _ | exact hb01.setCell (Nat.le_refl _) _
  obtain ⟨hpf, hm80, hxs⟩ := setFault_ok hf
  obtain ⟨hn1, hn80, -⟩ := progFault_ok hpf
  have hin := inside_of hpf
  have hlen := ha.1
  have hlx := hx.1
  have e0 : stRes is xs d = placesOf (stepS is d xs) := by unfold stRes; rw [if_pos hf]
  rw [e0]
  rw [hf] at CS ⊢
  have hx80 : ∀ q ∈ xs, 0 ≤ q ∧ q < 80 := fun q hq => by have := hxs q hq; omega
  have hbn : BelowN (markB xs) n := below_markB (by omega) (fun q hq => by have := hxs q hq; omega)
  have CM := fun w' h' => setOfList_any x m cx xs w' h' hx80 (by omega)
  have CC := fun w' h' => stepped_any a n ca is hin d hd0 hd1 (by omega) (markB xs) w' (markB_len xs) h'
  have hmem := fun p => markB_places hx80 (k := n) (fun q hq => by have := hxs q hq; omega) p
  have heq := step_eq hin (by omega) d (ps := placesTo (markB xs) n) (qs := xs) hmem
  have CL := fun w' => list_any _ (stepI is d (placesTo (markB xs) n)) rfl (stepI_len _ _ _) w'
  rw [heq] at CL
  generalize placesOf (stepS is d xs) = L at CL ⊢
  generalize boolsA (stepI is d (placesTo (markB xs) n)) = A2 at CC CL
  generalize boolsA (markB xs) = A1 at CM CC
  have HS : Hid _ := CS
  have HM : Hid _ := CM
  have HC : Hid _ := CC
  have HL : Hid _ := CL
  clear CS CM CC CL e0 hf hpf hxs hin hlen hlx hx80 hbn hmem heq 
  skip
  · go_enter Try.func17, Try.ntmps17
    go_wp2_with fail
    refine (HS.out _ (ha.below (B1 _)) (hx.below (B1 _))).mono ?_
    rintro r w1 ⟨rfl, hb1⟩
    have d0 : w1.cell? ⟨w.heap.size, 0, none⟩ = some (.int .i64 0) := cell_later hb1 (by simp [go_sem])
    have df0 : w1.frozen? ⟨w.heap.size, 0, none⟩ = false := (hb1.frozen (p := ⟨w.heap.size, 0, none⟩) (by simp)).trans (by simp [go_sem])
    have d1 : w1.cell? ⟨w.heap.size, 1, none⟩ = some (.slice none 0 0) := cell_later hb1 (by simp [go_sem])
    have df1 : w1.frozen? ⟨w.heap.size, 1, none⟩ = false := (hb1.frozen (p := ⟨w.heap.size, 1, none⟩) (by simp)).trans (by simp [go_sem])
    have hb01 := (B1 _).trans (hb1.mono (B1 _).size)
    have hz1 : w.heap.size < w1.heap.size := by have := hb1.size; simp at this; omega
    clear hb1
    go_wp2_with fail
    refine (HM.out _ (hx.below hb01)).mono ?_
    rintro r w2 ⟨rfl, hb2⟩
    replace d0 := cell_later hb2 d0
    replace df0 : w2.frozen? ⟨w.heap.size, 0, none⟩ = false := (hb2.frozen (p := ⟨w.heap.size, 0, none⟩) (by exact hz1)).trans df0
    replace d1 := cell_later hb2 d1
    replace df1 : w2.frozen? ⟨w.heap.size, 1, none⟩ = false := (hb2.frozen (p := ⟨w.heap.size, 1, none⟩) (by exact hz1)).trans df1
    have hb02 := hb01.trans (hb2.mono hb01.size)
    have hz2 : w.heap.size < w2.heap.size := Nat.lt_of_lt_of_le hz1 hb2.size
    clear hb2
    go_wp2_with fail
    refine (HC.out _ (ha.below hb02)).mono ?_
    rintro r w3 ⟨rfl, hb3⟩
    replace d0 := cell_later hb3 d0
    replace df0 : w3.frozen? ⟨w.heap.size, 0, none⟩ = false := (hb3.frozen (p := ⟨w.heap.size, 0, none⟩) (by exact hz2)).trans df0
    replace d1 := cell_later hb3 d1
    replace df1 : w3.frozen? ⟨w.heap.size, 1, none⟩ = false := (hb3.frozen (p := ⟨w.heap.size, 1, none⟩) (by exact hz2)).trans df1
    have hb03 := hb02.trans (hb3.mono hb02.size)
    have hz3 : w.heap.size < w3.heap.size := Nat.lt_of_lt_of_le hz2 hb3.size
    clear hb3
    go_wp2_with fail
    refine (HL.out _).mono ?_
    rintro r w4 ⟨v, rfl, ho4, hb4⟩
    replace d0 := cell_later hb4 d0
    replace df0 : w4.frozen? ⟨w.heap.size, 0, none⟩ = false := (hb4.frozen (p := ⟨w.heap.size, 0, none⟩) (by exact hz3)).trans df0
    replace d1 := cell_later hb4 d1
    replace df1 : w4.frozen? ⟨w.heap.size, 1, none⟩ = false := (hb4.frozen (p := ⟨w.heap.size, 1, none⟩) (by exact hz3)).trans df1
    have hb04 := hb03.trans (hb4.mono hb03.size)
    have hz4 : w3.heap.size ≤ w4.heap.size := hb4.size
    obtain ⟨va, vc, hv, -⟩ := ho4.rd
    subst hv
    clear hb4
    go_wp2
    have S : ∀ (W : World) (i : Nat) (u : Value), RowI .i64 2 W w3.heap.size w4.heap.size (.slice va L.length vc) L.length L → RowI .i64 2 (W.setCell ⟨w.heap.size, i, none⟩ u) w3.heap.size w4.heap.size (.slice va L.length vc) L.length L := fun W i u h => h.chg (Chg.one (set_grown W w.heap.size i u)) (.inr (by omega))
    refine bodyPost_ret (v := .agg #[.int .i64 0, .slice va L.length vc]) (by simp [results, Try.results17, go_sem, d0, d1]) rfl ⟨_, rfl, ?_, ?_⟩
    · refine RowI.mono (S _ _ _ (S _ _ _ (RowI.of ho4))) (by omega) (by simp [World.setCell])
    · exact (hb04.setCell (Nat.le_refl _) _).setCell (Nat.le_refl _) _
end Go.Proofs.Ytjkipdamohljpaa
