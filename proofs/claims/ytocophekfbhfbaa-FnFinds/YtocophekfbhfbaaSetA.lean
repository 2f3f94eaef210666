/-
  Set1, SetN, Set2, Set3 in one text.
-/
import Derived.Deep.WholeRow
import Derived.Laws.CopyOwn
import Derived.Test.YtocophekfbhfbaaSetM
import Derived.Test.YtocophekfbhfbaaProg1
import Derived.Test.YtocophekfbhfbaaAppend
import Derived.Test.YtocophekfbhfbaaBox
namespace Go.Proofs.Ytocophekfbhfbaa
open Go.RowKit
set_option linter.unusedVariables false
set_option linter.unusedSimpArgs false

theorem under80 : Try.prog.underlying 157 = some (.array 80 4) := by kernel_rfl
theorem info80 : (Try.prog.info? 157).map (fun i => (i.zero, i.size)) = some (some (.agg (List.replicate 80 (Value.bool false)).toArray), 80) := by kernel_rfl

theorem size80 {cs : Array Value} (h : cs.size = 80) : (Try.prog.info? 157).map (·.size) = some cs.size := by
  rw [h]
  exact (zero_of_info info80).2

/-- An element of an array by value. -/
theorem index80 {A : Array Value} {k : Nat} {b : Bool} (h : A[k]? = some (.bool b)) (hk : k < 80) (w : World) :
    (Instr.index 157 (.agg A) (.int .i64 (k : Int))).run Try.prog w = .ok (.bool b) w := by
  have hn : 0 ≤ (k : Int) ∧ (k : Int) < 80 := by omega
  have hz := Try.sizeOf4
  have ha := Try.isAgg4
  simp [Instr.index, run_underlying under80, asIntOf, part, hz, ha, h, hn]
  intro h80
  omega

set_option maxHeartbeats 1600000 in
set_option maxRecDepth 20000 in
theorem list_any (A : Array Value) (bs : List Bool) (hA : A = boolsA bs) (hl : bs.length = 80) (w : World) :
    Calls Try.prog 106 #[.agg A] w fun e w' => ∃ v, e = .returned v ∧ Own .i64 2 w' w.heap.size v (placesOf bs).length (placesOf bs) ∧ Below w.heap.size w w' := by
  have HZ : Hid (A.size = 80) := by rw [hA, boolsA_size, hl]; exact (rfl : 80 = 80)
  have HA : Hid _ := hA
  have HL : Hid _ := hl
  clear hA hl
  go_enter Try.func106, Try.ntmps106
  go_wp2_with ((with_reducible show wpList _ _ _ (({ dst := _, op := .load 157 _, type := _, pos := _, after := _, guard := _ } : Oper) :: _) _ _); refine wpList_load_row rfl 157 _ rfl _ rfl 157 A (0, 0) _ (Blk.new _ _ _) under80 rfl (size80 HZ.out) ?_)
  have hb0 : Below w.heap.size w (w.alloc (.cells A 157)) := (Below.refl _ _).alloc (Nat.le_refl _) _
  obtain ⟨i0, hi, hz0, hz1, hz2⟩ := info_parts info64n
  go_loopw [3, 7] (fun x i wr => ∃ k : Nat, k ≤ 80 ∧ i = .int .i64 k ∧ Own .i64 2 wr (w.heap.size + 1) x (placesTo bs k).length (placesTo bs k) ∧ Below w.heap.size w wr ∧ w.heap.size + 1 ≤ wr.heap.size) (fun _ i _ => 80 - (intOf i).toNat)
  case atStart => exact ⟨0, Nat.zero_le _, rfl, Own.nil _ _, hb0, by simp⟩
  case round =>
    obtain ⟨k, hk, rfl, ho, hbw, hzw⟩ := hrel
    clear hb0
    by_cases hlt : k < 80
    · have hlt' : (k : Int) < 80 := by omega
      have hAk := boolsA_at bs k (by rw [HL.out]; exact hlt)
      rw [← HA.out] at hAk
      have hlen := placesTo_len bs k
      cases hbk : bs.getD k false
      · have hno := placesTo_no hbk
        rw [← hno] at ho
        rw [hbk] at hAk
        have hix := index80 hAk hlt
        have HO : Hid _ := ho
        clear ho hno hbk hlen
        go_wp2
        go_roundw
        case rel => exact ⟨k + 1, by omega, by go_num, HO, hbw, hzw⟩
        case measure => simp [intOf]; omega
      · have hyes := placesTo_yes hbk
        rw [hbk] at hAk
        have hix := index80 hAk hlt
        have HY : Hid _ := hyes
        obtain ⟨va, vc, hv, hrd, hvm⟩ := ho.rd
        subst hv
        have lo := ho.lt
        clear hyes hbk
        go_wp2_with (at_builtin; refine wpList_append_rd rfl _ _ 60 rfl .i64 (w.heap.size + 1) 2 i0 8 Try.underlying60 hi hz0 hz1 hz2 _ _ (placesTo bs k) rfl (World.ownsRow.alloc ho _) (some ⟨wr.heap.size, 0, none⟩) 1 1 [(k : Int)] rfl (lit5_rd wr [(k : Int)] 1 rfl (by simp [maxLen])) (by simp [maxLen]; omega) (by omega) (by simp; omega) ?_)
        intro v5 w5 ho5 hg5
        have hb5 : Below w.heap.size w w5 := (hbw.alloc hbw.size _).grown hg5 (by simp; omega) (fun j hj => by have := (lo j hj).1; omega)
        have hz5 : w.heap.size + 1 ≤ w5.heap.size := by have := hg5.size; simp at this; omega
        have hln : (placesTo bs k).length + 1 = (placesTo bs (k + 1)).length := by rw [HY.out]; simp
        rw [← HY.out, hln] at ho5
        have HO5 : Hid _ := ho5
        clear ho5 hln ho hg5 lo hrd hvm hlen
        go_wp2
        go_roundw
        case rel => exact ⟨k + 1, by omega, by go_num, HO5, hb5, hz5⟩
        case measure => simp [intOf]; omega
    · go_wp2
      go_ret
      obtain rfl : k = 80 := by omega
      have e : placesOf bs = placesTo bs 80 := by unfold placesOf; rw [HL.out]
      refine ⟨_, rfl, ?_, hbw⟩
      rw [e]
      exact ho.up (by omega)
end Go.Proofs.Ytocophekfbhfbaa

namespace Go.Proofs.Ytocophekfbhfbaa
open Go.RowKit
set_option linter.unusedVariables false
set_option linter.unusedSimpArgs false

theorem getD_set_same {bs : List Bool} {p : Nat} {b : Bool} (h : p < bs.length) : (bs.set p b).getD p false = b := by
  simp [List.getD_eq_getElem?_getD, h]
theorem getD_set_other {bs : List Bool} {p q : Nat} {b : Bool} (h : q ≠ p) : (bs.set p b).getD q false = bs.getD q false := by
  simp [List.getD_eq_getElem?_getD, List.getElem?_set_ne (Ne.symm h)]
theorem getD_set_true {bs : List Bool} {p q : Nat} (h : (bs.set p true).getD q false = true) : q = p ∨ bs.getD q false = true := by
  by_cases e : q = p
  · exact .inl e
  · rw [getD_set_other e] at h; exact .inr h
theorem getD_set_keep {bs : List Bool} {p q : Nat} (h : bs.getD q false = true) : (bs.set p true).getD q false = true := by
  have hq : q < bs.length := by
    by_cases hq : q < bs.length
    · exact hq
    · simp [List.getD_eq_getElem?_getD, List.getElem?_eq_none (show bs.length ≤ q by omega)] at h
  by_cases e : q = p
  · subst e; exact getD_set_same hq
  · rw [getD_set_other e]; exact h

/-- How many are not marked. -/
def unM : List Bool → Nat
  | [] => 0
  | b :: bs => (if b then 0 else 1) + unM bs
theorem unM_le (bs : List Bool) : unM bs ≤ bs.length := by
  induction bs with
  | nil => simp [unM]
  | cons b bs ih => simp only [unM, List.length_cons]; split <;> omega
theorem unM_set {bs : List Bool} {p : Nat} (h : p < bs.length) (hb : bs.getD p false = false) : unM (bs.set p true) + 1 = unM bs := by
  induction bs generalizing p with
  | nil => simp at h
  | cons b bs ih =>
    cases p with
    | zero =>
      simp at hb
      subst hb
      simp [unM]
      omega
    | succ p =>
      have := ih (p := p) (by simpa using h) (by simpa using hb)
      simp [unM]
      omega

/-- A search in depth: 'tg' tells where an instruction leads, first and then. -/
def dfs (tg : In → Option Nat × Option Nat) (is : List In) : Nat → List Bool → Nat → List Bool
  | 0, bs, _ => bs
  | f + 1, bs, p =>
    if bs.getD p false then bs else
      match is[p]? with
      | none => bs.set p true
      | some i =>
        let b1 := bs.set p true
        let b2 := match (tg i).1 with | none => b1 | some q => dfs tg is f b1 q
        match (tg i).2 with | none => b2 | some q => dfs tg is f b2 q

/-- From p one comes to q. -/
def Nxt (tg : In → Option Nat × Option Nat) (is : List In) (p q : Nat) : Prop := ∃ i, is[p]? = some i ∧ ((tg i).1 = some q ∨ (tg i).2 = some q)
/-- Where one comes to is never behind n. -/
def Goes (tg : In → Option Nat × Option Nat) (is : List In) (n : Nat) : Prop := ∀ p q, Nxt tg is p q → q < n

structure Dfs (tg : In → Option Nat × Option Nat) (is : List In) (S S' : List Bool) (p : Nat) : Prop where
  len : S'.length = S.length
  un : unM S' ≤ unM S
  sub : ∀ q, S.getD q false = true → S'.getD q false = true
  mem : S'.getD p false = true
  cl : ∀ q r, S'.getD q false = true → S.getD q false = false → Nxt tg is q r → S'.getD r false = true
  min : ∀ C : Nat → Prop, (∀ q r, C q → Nxt tg is q r → C r) → C p → ∀ q, S'.getD q false = true → S.getD q false = true ∨ C q

/-- One target or none. -/
structure Dfo (tg : In → Option Nat × Option Nat) (is : List In) (S S' : List Bool) (t : Option Nat) : Prop where
  len : S'.length = S.length
  un : unM S' ≤ unM S
  sub : ∀ q, S.getD q false = true → S'.getD q false = true
  mem : ∀ p, t = some p → S'.getD p false = true
  cl : ∀ q r, S'.getD q false = true → S.getD q false = false → Nxt tg is q r → S'.getD r false = true
  min : ∀ C : Nat → Prop, (∀ q r, C q → Nxt tg is q r → C r) → (∀ p, t = some p → C p) → ∀ q, S'.getD q false = true → S.getD q false = true ∨ C q

theorem Dfs.opt {tg is S S' p} (h : Dfs tg is S S' p) : Dfo tg is S S' (some p) :=
  ⟨h.len, h.un, h.sub, fun q e => by cases e; exact h.mem, h.cl, fun C hC hp => h.min C hC (hp p rfl)⟩
theorem Dfo.none (tg is S) : Dfo tg is S S none :=
  ⟨rfl, Nat.le_refl _, fun _ h => h, fun p e => absurd e (by simp), fun q r h h' => absurd h (by rw [h']; simp), fun C _ _ q h => .inl h⟩

theorem dfs_dfs {tg : In → Option Nat × Option Nat} {is : List In} {n : Nat} (hg : Goes tg is n) : ∀ (f : Nat) (S : List Bool) (p : Nat), n ≤ S.length → p < S.length → unM S < f → Dfs tg is S (dfs tg is f S p) p
  | 0, S, p, _, _, h => by omega
  | f + 1, S, p, hn, hp, h => by
    unfold dfs
    by_cases hm : S.getD p false = true
    · rw [if_pos hm]
      exact ⟨rfl, Nat.le_refl _, fun _ h => h, hm, fun q r h h' => absurd h (by rw [h']; simp), fun C _ _ q h => .inl h⟩
    rw [if_neg hm]
    have hm' : S.getD p false = false := by simpa using hm
    have hu := unM_set hp hm'
    have hmem1 : (S.set p true).getD p false = true := getD_set_same hp
    cases hi : is[p]? with
    | none =>
      refine ⟨by simp, by simp only; omega, fun q h => getD_set_keep h, hmem1, ?_, ?_⟩
      · intro q r h1 h2 ⟨i, hi', _⟩
        rcases getD_set_true h1 with rfl | h1
        · rw [hi] at hi'; cases hi'
        · rw [h1] at h2; cases h2
      · intro C _ hC q h1
        rcases getD_set_true h1 with rfl | h1
        · exact .inr hC
        · exact .inl h1
    | some i =>
      simp only
      have d1 : Dfo tg is (S.set p true) (match (tg i).1 with | none => S.set p true | some q => dfs tg is f (S.set p true) q) (tg i).1 := by
        cases ht : (tg i).1 with
        | none => exact Dfo.none _ _ _
        | some q =>
          have hq : q < n := hg p q ⟨i, hi, .inl ht⟩
          exact (dfs_dfs hg f _ q (by simpa using hn) (by simp; omega) (by omega)).opt
      generalize (match (tg i).1 with | none => S.set p true | some q => dfs tg is f (S.set p true) q) = B2 at d1 ⊢
      have hl1 : (S.set p true).length = S.length := by simp
      have hl2 := d1.len
      have hu1 := d1.un
      have d2 : Dfo tg is B2 (match (tg i).2 with | none => B2 | some q => dfs tg is f B2 q) (tg i).2 := by
        cases ht : (tg i).2 with
        | none => exact Dfo.none _ _ _
        | some q =>
          have hq : q < n := hg p q ⟨i, hi, .inr ht⟩
          exact (dfs_dfs hg f _ q (by omega) (by omega) (by omega)).opt
      generalize (match (tg i).2 with | none => B2 | some q => dfs tg is f B2 q) = B3 at d2 ⊢
      have hu2 := d2.un
      refine ⟨by rw [d2.len, d1.len, hl1], by omega, fun q h => d2.sub q (d1.sub q (getD_set_keep h)), d2.sub p (d1.sub p hmem1), ?_, ?_⟩
      · intro q r h1 h2 hx
        by_cases hB2 : B2.getD q false = true
        · by_cases hB1 : (S.set p true).getD q false = true
          · rcases getD_set_true hB1 with rfl | h3
            · obtain ⟨i', hi', ht⟩ := hx
              rw [hi] at hi'
              cases hi'
              rcases ht with ht | ht
              · exact d2.sub r (d1.mem r ht)
              · exact d2.mem r ht
            · rw [h3] at h2; cases h2
          · exact d2.sub r (d1.cl q r hB2 (by simpa using hB1) hx)
        · exact d2.cl q r h1 (by simpa using hB2) hx
      · intro C hC hp' q h1
        rcases d2.min C hC (fun r hr => hC p r hp' ⟨i, hi, .inr hr⟩) q h1 with h2 | h2
        · rcases d1.min C hC (fun r hr => hC p r hp' ⟨i, hi, .inl hr⟩) q h2 with h3 | h3
          · rcases getD_set_true h3 with rfl | h3
            · exact .inr hp'
            · exact .inl h3
          · exact .inr h3
        · exact .inr h2

/-- From several places on. -/
def dfsAll (tg : In → Option Nat × Option Nat) (is : List In) (bs : List Bool) (ps : List Int) : List Bool := ps.foldl (fun b p => dfs tg is 81 b p.toNat) bs

/-- The least set that is closed and has all of some places. -/
structure Least (tg : In → Option Nat × Option Nat) (is : List In) (ps : List Int) (R : List Bool) : Prop where
  mem : ∀ p ∈ ps, R.getD p.toNat false = true
  cl : ∀ q r, R.getD q false = true → Nxt tg is q r → R.getD r false = true
  min : ∀ C : Nat → Prop, (∀ q r, C q → Nxt tg is q r → C r) → (∀ p ∈ ps, C p.toNat) → ∀ q, R.getD q false = true → C q

theorem dfsAll_len {tg : In → Option Nat × Option Nat} {is : List In} {n : Nat} (hg : Goes tg is n) (L : Nat) (hn : n ≤ L) (hL : L ≤ 80) (S : List Bool) (hS : S.length = L) (ps : List Int) (hp : ∀ p ∈ ps, p.toNat < n) : (dfsAll tg is S ps).length = L := by
  induction ps generalizing S with
  | nil => exact hS
  | cons p ps ih =>
    have hpn := hp p (by simp)
    have hu := unM_le S
    have d := dfs_dfs hg 81 S p.toNat (by omega) (by omega) (by omega)
    exact ih (dfs tg is 81 S p.toNat) (by rw [d.len, hS]) (fun q hq => hp q (by simp [hq]))

theorem dfsAll_go {tg : In → Option Nat × Option Nat} {is : List In} {n : Nat} (hg : Goes tg is n) (L : Nat) (hn : n ≤ L) (hL : L ≤ 80) (S : List Bool) (hS : S.length = L) (ds : List Int) (h : Least tg is ds S) (ps : List Int) (hp : ∀ p ∈ ps, p.toNat < n) : Least tg is (ds ++ ps) (dfsAll tg is S ps) := by
  induction ps generalizing S ds with
  | nil => simpa [dfsAll] using h
  | cons p ps ih =>
    have hpn := hp p (by simp)
    have hu := unM_le S
    have d := dfs_dfs hg 81 S p.toNat (by omega) (by omega) (by omega)
    have h' : Least tg is (ds ++ [p]) (dfs tg is 81 S p.toNat) := by
      refine ⟨?_, ?_, ?_⟩
      · intro q hq
        rcases List.mem_append.1 hq with hq | hq
        · exact d.sub _ (h.mem q hq)
        · simp at hq
          subst hq
          exact d.mem
      · intro q r h1 hx
        by_cases h2 : S.getD q false = true
        · exact d.sub _ (h.cl q r h2 hx)
        · exact d.cl q r h1 (by simpa using h2) hx
      · intro C hC hps q h1
        rcases d.min C hC (hps p (by simp)) q h1 with h2 | h2
        · exact h.min C hC (fun r hr => hps r (by simp [hr])) q h2
        · exact h2
    have := ih (dfs tg is 81 S p.toNat) (by rw [d.len, hS]) (ds ++ [p]) h' (fun q hq => hp q (by simp [hq]))
    rw [List.append_assoc] at this
    exact this

theorem least_none (tg : In → Option Nat × Option Nat) (is : List In) (L : Nat) : Least tg is [] (List.replicate L false) := by
  have h : ∀ q, (List.replicate L false).getD q false = false := by
    intro q
    by_cases hq : q < L <;> simp [List.getD_eq_getElem?_getD, hq]
  exact ⟨fun p hp => by simp at hp, fun q r h1 => absurd h1 (by rw [h]; simp), fun C _ _ q h1 => absurd h1 (by rw [h]; simp)⟩

theorem dfsAll_least {tg : In → Option Nat × Option Nat} {is : List In} {n : Nat} (hg : Goes tg is n) (L : Nat) (hn : n ≤ L) (hL : L ≤ 80) (ps : List Int) (hp : ∀ p ∈ ps, p.toNat < n) : Least tg is ps (dfsAll tg is (List.replicate L false) ps) := by
  have := dfsAll_go hg L hn hL _ (by simp) [] (least_none tg is L) ps hp
  simpa using this

theorem Least.lt {tg : In → Option Nat × Option Nat} {is : List In} {n : Nat} (hg : Goes tg is n) {ps : List Int} {R : List Bool} (h : Least tg is ps R) (hp : ∀ p ∈ ps, p.toNat < n) : ∀ q, R.getD q false = true → q < n :=
  h.min (fun q => q < n) (fun q r _ hx => hg q r hx) hp

/-- Whatever is tried first: the same places. -/
theorem Least.same {tg tg' : In → Option Nat × Option Nat} {is : List In} (he : ∀ p q, Nxt tg is p q ↔ Nxt tg' is p q) {ps ps' : List Int} (hps : ∀ p, p ∈ ps ↔ p ∈ ps') {R R' : List Bool} (h : Least tg is ps R) (h' : Least tg' is ps' R') : ∀ q, R.getD q false = R'.getD q false := by
  have h1 : ∀ q, R.getD q false = true → R'.getD q false = true := h.min (fun q => R'.getD q false = true) (fun q r hq hx => h'.cl q r hq ((he q r).1 hx)) (fun p hp => h'.mem p ((hps p).1 hp))
  have h2 : ∀ q, R'.getD q false = true → R.getD q false = true := h'.min (fun q => R.getD q false = true) (fun q r hq hx => h.cl q r hq ((he q r).2 hx)) (fun p hp => h.mem p ((hps p).2 hp))
  intro q
  cases e : R.getD q false <;> cases e' : R'.getD q false
  · rfl
  · rw [h2 q e'] at e; cases e
  · rw [h1 q e] at e'; cases e'
  · rfl

/-- Does an instruction lead to its X? -/
def goesX (b e : Bool) (i : In) : Bool := decide (i.o = 2) || decide (i.o = 3) || (decide (i.o = 4) && b) || (decide (i.o = 5) && e)
/-- The program goes to Y first, the specification to X. -/
def tgI (b e : Bool) (i : In) : Option Nat × Option Nat := (if i.o = 2 then some i.y.toNat else none, if goesX b e i then some i.x.toNat else none)
def tgS (b e : Bool) (i : In) : Option Nat × Option Nat := (if goesX b e i then some i.x.toNat else none, if i.o = 2 then some i.y.toNat else none)
theorem nxt_same (b e : Bool) (is : List In) (p q : Nat) : Nxt (tgI b e) is p q ↔ Nxt (tgS b e) is p q := by
  unfold Nxt tgI tgS
  constructor <;> rintro ⟨i, hi, h⟩ <;> exact ⟨i, hi, h.symm⟩

/-- Each place to which an instruction leads is one. -/
def Inside (is : List In) : Prop := ∀ i ∈ is, (0 ≤ i.x ∧ i.x < is.length) ∧ (0 ≤ i.y ∧ i.y < is.length)
theorem inside_of {is : List In} (h : progFault is = 0) : Inside is := fun i hi => by
  have := instF_ok (progGo_all (progFault_ok h).2.2 i hi)
  exact ⟨this.2.1, this.2.2.1⟩
theorem goes_of {is : List In} (h : Inside is) (b e : Bool) : Goes (tgI b e) is is.length ∧ Goes (tgS b e) is is.length := by
  have h1 : Goes (tgI b e) is is.length := by
    rintro p q ⟨i, hi, ht⟩
    have hw := h i (List.mem_of_getElem? hi)
    unfold tgI at ht
    simp only at ht
    rcases ht with ht | ht
    · split at ht
      · cases ht; omega
      · cases ht
    · split at ht
      · cases ht; omega
      · cases ht
  exact ⟨h1, fun p q hx => h1 p q ((nxt_same b e is p q).2 hx)⟩

/-- What the program comes to, and what the specification comes to. -/
def closeI (is : List In) (b e : Bool) (ps : List Int) : List Bool := dfsAll (tgI b e) is (List.replicate 80 false) ps
def closeS (is : List In) (b e : Bool) (ps : List Int) : List Bool := dfsAll (tgS b e) is (List.replicate is.length false) ps

theorem close_same {is : List In} (h : Inside is) (h80 : is.length ≤ 80) (b e : Bool) {ps : List Int} (hp : ∀ p ∈ ps, p.toNat < is.length) : placesOf (closeI is b e ps) = placesOf (closeS is b e ps) := by
  obtain ⟨g1, g2⟩ := goes_of h b e
  have l1 := dfsAll_least g1 80 h80 (Nat.le_refl _) ps hp
  have l2 := dfsAll_least g2 is.length (Nat.le_refl _) h80 ps hp
  have hs := Least.same (nxt_same b e is) (fun p => Iff.rfl) l1 l2
  have n1 : (closeI is b e ps).length = 80 := dfsAll_len g1 80 h80 (Nat.le_refl _) _ (by simp) ps hp
  have n2 : (closeS is b e ps).length = is.length := dfsAll_len g2 is.length (Nat.le_refl _) h80 _ (by simp) ps hp
  unfold placesOf
  rw [n1, n2]
  have e1 : placesTo (closeI is b e ps) 80 = placesTo (closeI is b e ps) is.length := by
    rw [show 80 = is.length + (80 - is.length) by omega]
    refine placesTo_more (fun i hi => ?_)
    cases hb : (closeI is b e ps).getD i false
    · rfl
    · have := l1.lt g1 hp i hb; omega
  rw [e1]
  exact placesTo_congr (fun i _ => hs i)
end Go.Proofs.Ytocophekfbhfbaa

namespace Go.Proofs.Ytocophekfbhfbaa
open Go.RowKit
set_option linter.unusedVariables false
set_option linter.unusedSimpArgs false

/-- A set out of a list. -/
def markB (xs : List Int) : List Bool := xs.foldl (fun b x => b.set x.toNat true) (List.replicate 80 false)
theorem markB_len (xs : List Int) : (markB xs).length = 80 := by
  have h : ∀ (xs : List Int) (b : List Bool), (xs.foldl (fun b x => b.set x.toNat true) b).length = b.length := by
    intro xs
    induction xs with
    | nil => intro b; rfl
    | cons x xs ih => intro b; rw [List.foldl_cons, ih]; simp
  rw [markB, h]; simp
theorem markB_step {xs : List Int} {k : Nat} (h : k < xs.length) : (markB (xs.take k)).set (xs.getD k 0).toNat true = markB (xs.take (k + 1)) := by
  unfold markB
  rw [List.take_succ_eq_append_getElem h, List.foldl_append, List.getD_eq_getElem?_getD, List.getElem?_eq_getElem h]
  rfl

theorem zero80 (w : World) : (zeroValue 157).run Try.prog w = .ok (.agg (boolsA (List.replicate 80 false))) w := by
  rw [boolsA_zero]
  exact (zero_of_info info80).1 w

/-- The address of an array's element. -/
theorem indexAt80 (B x : Nat) (h : x < 80) (w : World) : (Instr.indexAt 157 (.pointer (some ⟨B, 0, none⟩)) (.int .i64 (x : Int))).run Try.prog w = .ok (.pointer (some ⟨B, x, none⟩)) w := by
  have hz := Try.sizeOf4
  have h1 : Try.prog.arrayLen 157 = 80 := by kernel_rfl
  have h2 : Try.prog.elem 157 = 4 := by kernel_rfl
  have h0 : Try.prog.underlying 157 = some (.array (Try.prog.arrayLen 157) (Try.prog.elem 157)) := by kernel_rfl
  have hx : 0 ≤ (x : Int) ∧ (x : Int) < 80 := by omega
  rw [run_indexAt_array (h := h0), h1, h2, if_pos (by simpa using hx), hz]
  simp [Result.andThen, Addr.add_lit]

theorem arr80 : Try.prog.underlying 157 = some (.array (Try.prog.arrayLen 157) (Try.prog.elem 157)) ∧ Try.prog.arrayLen 157 = 80 ∧ Try.prog.elem 157 = 4 := ⟨by kernel_rfl, by kernel_rfl, by kernel_rfl⟩

theorem Blk.setRow {W : World} {B : Nat} {cs : Array Value} {t : TypeId} (h : Blk W B cs t) (cs' : Array Value) : Blk (W.setRow B cs') B cs' t := setRow_heap W B cs cs' t (0, 0) h
theorem Blk.otherRow {W : World} {B B' : Nat} {cs : Array Value} {t : TypeId} (h : Blk W B cs t) (hne : B ≠ B') (cs' : Array Value) : Blk (W.setRow B' cs') B cs t := (setRow_other W B' B cs' hne).trans h
theorem Blk.below {W W' : World} {B : Nat} {cs : Array Value} {t : TypeId} (h : Blk W B cs t) (hb : Below W.heap.size W W') : Blk W' B cs t := (hb.block B h.lt).trans h
theorem size_set80 {bs : List Bool} (h : bs.length = 80) : (boolsA bs).size = 80 := by rw [boolsA_size, h]
/-- An array's element in its box. -/
theorem Blk.bool {W : World} {B : Nat} {bs : List Bool} {t : TypeId} (h : Blk W B (boolsA bs) t) {j : Nat} (hj : j < bs.length) : W.cell? ⟨B, j, none⟩ = some (.bool (bs.getD j false)) := by
  rw [h.cell, boolsA_at bs j hj]
theorem Blk.mark {W : World} {B : Nat} {bs : List Bool} {t : TypeId} (h : Blk W B (boolsA bs) t) (j : Nat) (b : Bool) : Blk (W.setCell ⟨B, j, none⟩ (.bool b)) B (boolsA (bs.set j b)) t := by
  have := h.set (i := j) (.bool b)
  rw [boolsA_set] at this
  exact this

set_option maxHeartbeats 1600000 in
set_option maxRecDepth 20000 in
theorem setOfList_any (a : Option Addr) (n ca : Nat) (xs : List Int) (w : World) (ha : Rd .i64 w a n xs) (hx : ∀ x ∈ xs, 0 ≤ x ∧ x < 80) (h1 : n ≤ 80) :
    Calls Try.prog 104 #[.slice a n ca] w fun e w' => e = .returned (.agg (boolsA (markB xs))) ∧ Below w.heap.size w w' := by
  obtain ⟨Z, hZ⟩ : ∃ Z, Z = boolsA (List.replicate 80 false) := ⟨_, rfl⟩
  have hzv := zero80
  rw [← hZ] at hzv
  have HZ : Hid _ := hZ
  have HL : Hid _ := ha.1
  have HX : Hid _ := hx
  clear hZ hx
  have hb0 : Below w.heap.size w ((w.alloc (.cells Z 157)).alloc (.cells Z 157)) := ((Below.refl _ _).alloc (Nat.le_refl _) _).alloc (by simp) _
  have hB0 : Blk ((w.alloc (.cells Z 157)).alloc (.cells Z 157)) (w.heap.size + 1) (boolsA (markB (xs.take 0))) 157 := by
    have e : boolsA (markB (xs.take 0)) = Z := HZ.out.symm
    rw [e]
    have := Blk.new (w.alloc (.cells Z 157)) Z 157
    rwa [show (w.alloc (.cells Z 157)).heap.size = w.heap.size + 1 by simp] at this
  have hR0 : Blk ((w.alloc (.cells Z 157)).alloc (.cells Z 157)) w.heap.size Z 157 := (Blk.new w Z 157).alloc _
  go_enter Try.func104, Try.ntmps104
  go_wp2
  go_loopw [8] (fun i wr => ∃ k : Nat, k ≤ n ∧ i = .int .i64 k ∧ Hid (Blk wr (w.heap.size + 1) (boolsA (markB (xs.take k))) 157) ∧ Hid (Blk wr w.heap.size Z 157) ∧ Below w.heap.size w wr ∧ w.heap.size + 1 < wr.heap.size) (fun i _ => n - (intOf i).toNat)
  case atStart => exact ⟨0, Nat.zero_le _, rfl, hB0, hR0, hb0, by simp⟩
  case round =>
    obtain ⟨k, hk, rfl, HB, HR, hbw, hzw⟩ := hrel
    clear hb0 hB0 hR0
    by_cases hlt : k < n
    · obtain ⟨b1, o1, rfl, hc1⟩ := (ha.below hbw).at hlt
      have ck := hc1 k hlt
      have hst := markB_step (xs := xs) (k := k) (by rw [HL.out]; exact hlt)
      have hxr := HX.out (xs.getD k 0) (by have : k < xs.length := by rw [HL.out]; exact hlt
                                           rw [List.getD_eq_getElem?_getD, List.getElem?_eq_getElem this]; exact List.getElem_mem this)
      have hlt' : (k : Int) < (n : Int) := by omega
      clear hc1
      generalize xs.getD k 0 = X at ck hst hxr
      obtain ⟨x, rfl⟩ : ∃ x : Nat, X = (x : Int) := ⟨X.toNat, by omega⟩
      have hx80 : x < 80 := by omega
      have cb := HB.out.bool (j := x) (by rw [markB_len]; exact hx80)
      have cf := HB.out.frozen x
      have HB2 : Hid (Blk (wr.setCell ⟨w.heap.size + 1, x, none⟩ (.bool true)) (w.heap.size + 1) (boolsA (markB (xs.take (k + 1)))) 157) := by
        have := HB.out.mark x true
        rw [show (markB (xs.take k)).set x true = markB (xs.take (k + 1)) by simpa using hst] at this
        exact this
      have HR2 : Hid (Blk (wr.setCell ⟨w.heap.size + 1, x, none⟩ (.bool true)) w.heap.size Z 157) := HR.out.other (by omega) _
      generalize (markB (xs.take k)).getD x false = bx at cb
      clear hst
      have hx80' : (x : Int) < 80 := by omega
      have hia := indexAt80 (w.heap.size + 1) x hx80
      go_wp2
      go_roundw
      case rel => exact ⟨k + 1, by omega, by go_num, HB2, HR2, hbw.setCell (by simp) _, by simpa [World.setCell] using hzw⟩
      case measure => simp [intOf]; omega
    · have hkn : k = n := by omega
      subst hkn
      have HB3 : Hid (Blk wr (w.heap.size + 1) (boolsA (markB xs)) 157) := by
        have := HB.out
        rw [List.take_of_length_le (by rw [HL.out]; omega)] at this
        exact this
      have HS : Hid ((boolsA (markB xs)).size = 80) := size_set80 (markB_len xs)
      have HZS : Hid (Z.size = 80) := by rw [HZ.out]; exact size_set80 (by simp)
      have HO : Hid _ := boolsA_one (markB xs)
      clear HB
      obtain ⟨A, hA⟩ : ∃ A, A = boolsA (markB xs) := ⟨_, rfl⟩
      rw [← hA] at HB3 HS HO
      have HA : Hid _ := hA
      clear hA
      go_wp2_with (first | ((with_reducible show wpList _ _ _ (({ dst := _, op := .load 157 _, type := _, pos := _, after := _, guard := _ } : Oper) :: _) _ _); refine wpList_load_row rfl 157 _ rfl _ rfl 157 (A) (0, 0) _ HB3.out under80 rfl (size80 HS.out) ?_) | ((with_reducible show wpList _ _ _ (({ dst := _, op := .store 157 _ _, type := _, pos := _, after := _, guard := _ } : Oper) :: _) _ _); refine wpList_store_row rfl 157 _ _ rfl _ (A) rfl rfl 157 (Z) HR.out (size80 HS.out) (HZS.out.trans HS.out.symm) HO.out ?_))
      refine bodyPost_ret (v := .agg A) ?_ rfl ⟨by rw [HA.out], below_setRow hbw (Nat.le_refl _) _⟩
      exact results_cell_row rfl _ _ _ 157 A (0, 0) _ rfl (HR.out.setRow A) under80 rfl (size80 HS.out)
end Go.Proofs.Ytocophekfbhfbaa

namespace Go.Proofs.Ytocophekfbhfbaa
open Go.RowKit
set_option linter.unusedVariables false
set_option linter.unusedSimpArgs false

theorem dfs_marked {tg : In → Option Nat × Option Nat} {is : List In} {f : Nat} {bs : List Bool} {p : Nat} (h : bs.getD p false = true) : dfs tg is (f + 1) bs p = bs := by
  unfold dfs; rw [if_pos h]
theorem dfs_two {b e : Bool} {is : List In} {f : Nat} {bs : List Bool} {p : Nat} {i : In} (h : bs.getD p false = false) (hi : is[p]? = some i) (ho : i.o = 2) :
    dfs (tgI b e) is (f + 1) bs p = dfs (tgI b e) is f (dfs (tgI b e) is f (bs.set p true) i.y.toNat) i.x.toNat := by
  rw [dfs, if_neg (by rw [h]; simp), hi]
  simp [tgI, ho, goesX]
theorem dfs_one {b e : Bool} {is : List In} {f : Nat} {bs : List Bool} {p : Nat} {i : In} (h : bs.getD p false = false) (hi : is[p]? = some i) (ho : i.o ≠ 2) (hg : goesX b e i = true) :
    dfs (tgI b e) is (f + 1) bs p = dfs (tgI b e) is f (bs.set p true) i.x.toNat := by
  rw [dfs, if_neg (by rw [h]; simp), hi]
  simp [tgI, ho, hg]
theorem dfs_end {b e : Bool} {is : List In} {f : Nat} {bs : List Bool} {p : Nat} {i : In} (h : bs.getD p false = false) (hi : is[p]? = some i) (ho : i.o ≠ 2) (hg : goesX b e i = false) :
    dfs (tgI b e) is (f + 1) bs p = bs.set p true := by
  rw [dfs, if_neg (by rw [h]; simp), hi]
  simp [tgI, ho, hg]

set_option maxHeartbeats 6400000 in
set_option maxRecDepth 20000 in
theorem entered_any (a : Option Addr) (n ca : Nat) (is : List In) (b e : Bool) (hin : Inside is) (hn : n ≤ 80) : ∀ (f : Nat) (bs : List Bool) (p : Nat) (w : World), bs.length = 80 → p < n → unM bs < f → RdR inE 8 w a n is →
    Calls Try.prog 184 #[.agg (boolsA bs), .slice a n ca, .int .i64 (p : Int), .bool b, .bool e] w fun r w' => r = .returned (.agg (boolsA (dfs (tgI b e) is f bs p))) ∧ Below w.heap.size w w'
  | 0, bs, p, w, hl, hp, hu, ha => by omega
  | f + 1, bs, p, w, hl, hp, hu, ha => by
    have ih := fun bs' p' w' => entered_any a n ca is b e hin hn f bs' p' w'
    have hlen := ha.1
    have hp80 : p < 80 := by omega
    obtain ⟨Z, hZ⟩ : ∃ Z, Z = boolsA (List.replicate 80 false) := ⟨_, rfl⟩
    have hzv := zero80
    rw [← hZ] at hzv
    have HZS : Hid (Z.size = 80) := by rw [hZ]; exact size_set80 (by simp)
    clear hZ
    have HL : Hid _ := hl
    have HG : Hid _ := (goes_of hin b e).1
    have HLN : Hid _ := hlen
    have HU : Hid _ := hu
    obtain ⟨A, hA⟩ : ∃ A, A = boolsA bs := ⟨_, rfl⟩
    rw [← hA]
    have HS : Hid (A.size = 80) := by rw [hA]; exact size_set80 hl
    have HA : Hid _ := hA
    have hcell : A[p]? = some (.bool (bs.getD p false)) := by rw [hA]; exact boolsA_at bs p (by omega)
    have hia := indexAt80 w.heap.size p hp80
    have hp' : (p : Int) < 80 := by omega
    obtain ⟨R, hR⟩ : ∃ R, R = boolsA (dfs (tgI b e) is (f + 1) bs p) := ⟨_, rfl⟩
    rw [← hR]
    clear hA hl hlen
    cases hm : bs.getD p false
    case true =>
      rw [dfs_marked hm, ← HA.out] at hR
      subst hR
      rw [hm] at hcell
      have HO : Hid _ := boolsA_one bs
      rw [← HA.out] at HO
      have HB0 : Hid (Blk ((w.alloc (.cells R 157)).alloc (.cells Z 157)) w.heap.size R 157) := (Blk.new w R 157).alloc _
      have HB1 : Hid (Blk ((w.alloc (.cells R 157)).alloc (.cells Z 157)) (w.heap.size + 1) Z 157) := by
        have := Blk.new (w.alloc (.cells R 157)) Z 157
        rwa [show (w.alloc (.cells R 157)).heap.size = w.heap.size + 1 by simp] at this
      have HW : Hid (Below w.heap.size w ((w.alloc (.cells R 157)).alloc (.cells Z 157))) := ((Below.refl _ _).alloc (Nat.le_refl _) _).alloc (by simp) _
      clear hm hu
      go_enter Try.func184, Try.ntmps184
      go_wp2_with (first | ((with_reducible show wpList _ _ _ (({ dst := _, op := .load 157 _, type := _, pos := _, after := _, guard := _ } : Oper) :: _) _ _); refine wpList_load_row rfl 157 _ rfl _ rfl 157 (R) (0, 0) _ HB0.out under80 rfl (size80 HS.out) ?_) | ((with_reducible show wpList _ _ _ (({ dst := _, op := .store 157 _ _, type := _, pos := _, after := _, guard := _ } : Oper) :: _) _ _); refine wpList_store_row rfl 157 _ _ rfl _ (R) rfl rfl 157 (Z) HB1.out (size80 HS.out) (HZS.out.trans HS.out.symm) HO.out ?_))
      refine bodyPost_ret (v := .agg R) ?_ rfl ⟨rfl, below_setRow HW.out (by omega) _⟩
      exact results_cell_row rfl _ _ _ 157 R (0, 0) _ rfl (HB1.out.setRow R) under80 rfl (size80 HS.out)
    obtain ⟨b1, o1, i, rfl, hx, hc1⟩ := ha.at hp
    obtain ⟨c0, c1, c2, c3, c4, c5, c6, c7⟩ := eight hc1
    have HX : Hid _ := hx
    have hI := hin i (List.mem_of_getElem? hx)
    clear hc1
    rw [hm] at hcell
    have hum := unM_set (bs := bs) (p := p) (by rw [HL.out]; exact hp80) hm
    obtain ⟨A1, hA1⟩ : ∃ A1, A.setIfInBounds p (.bool true) = A1 := ⟨_, rfl⟩
    have HA1 : Hid (A1 = boolsA (bs.set p true)) := by rw [← hA1, HA.out]; exact boolsA_set bs p true
    have hl1 : (bs.set p true).length = 80 := by rw [List.length_set]; exact HL.out
    have HS1 : Hid (A1.size = 80) := by rw [HA1.out]; exact size_set80 hl1
    have HO1 : Hid _ := boolsA_one (bs.set p true)
    rw [← HA1.out] at HO1
    obtain ⟨o, k, c, s, l, r, x, y⟩ := i
    simp only at c0 c1 c2 c3 c4 c5 c6 c7 hI
    obtain ⟨⟨hx0, hxn⟩, ⟨hy0, hyn⟩⟩ := hI
    obtain ⟨xn, rfl⟩ : ∃ q : Nat, x = (q : Int) := ⟨x.toNat, by omega⟩
    obtain ⟨yn, rfl⟩ : ∃ q : Nat, y = (q : Int) := ⟨y.toNat, by omega⟩
    have hb1 : b1 < w.heap.size := block_lt_of_cell c0
    have hxn' : xn < n := by have := HLN.out; omega
    have hyn' : yn < n := by have := HLN.out; omega
    obtain ⟨W1, hW1⟩ : ∃ W1, W1 = ((w.alloc (.cells A1 157)).alloc (.cells Z 157)).alloc (.cells #[.int .i64 o, .int .i64 k, .int .i64 c, .string s, .int .i64 l, .int .i64 r, .int .i64 (xn : Int), .int .i64 (yn : Int)] 252) := ⟨_, rfl⟩
    have hsz1 : W1.heap.size = w.heap.size + 3 := by rw [hW1]; simp
    have HB0 : Hid (Blk W1 w.heap.size A1 157) := by rw [hW1]; exact ((Blk.new w A1 157).alloc _).alloc _
    have HB1 : Hid (Blk W1 (w.heap.size + 1) Z 157) := by
      have := (Blk.new (w.alloc (.cells A1 157)) Z 157).alloc (.cells #[.int .i64 o, .int .i64 k, .int .i64 c, .string s, .int .i64 l, .int .i64 r, .int .i64 (xn : Int), .int .i64 (yn : Int)] 252)
      rw [show (w.alloc (.cells A1 157)).heap.size = w.heap.size + 1 by simp] at this
      rw [hW1]
      exact this
    have HB2 : Hid (Blk W1 (w.heap.size + 2) #[.int .i64 o, .int .i64 k, .int .i64 c, .string s, .int .i64 l, .int .i64 r, .int .i64 (xn : Int), .int .i64 (yn : Int)] 252) := by
      have := Blk.new ((w.alloc (.cells A1 157)).alloc (.cells Z 157)) #[.int .i64 o, .int .i64 k, .int .i64 c, .string s, .int .i64 l, .int .i64 r, .int .i64 (xn : Int), .int .i64 (yn : Int)] 252
      rw [show ((w.alloc (.cells A1 157)).alloc (.cells Z 157)).heap.size = w.heap.size + 2 by simp] at this
      rw [hW1]
      exact this
    have HW : Hid (Below w.heap.size w W1) := by
      rw [hW1]
      exact (((Below.refl _ _).alloc (Nat.le_refl _) _).alloc (by simp) _).alloc (by simp; omega) _
    have HR1 : Hid (RdR inE 8 W1 (some ⟨b1, o1, none⟩) n is) := ha.below HW.out
    rw [hW1] at HB0 HB1 HB2 HW HR1
    clear hW1 hsz1 W1
    by_cases ho2 : o = 2
    case pos =>
      subst ho2
      have da := dfs_dfs HG.out f (bs.set p true) yn (by rw [HLN.out, hl1]; exact hn) (by rw [hl1]; omega) (by omega)
      have Ca := fun w' => ih (bs.set p true) yn w' (hl1) hyn' (by omega)
      have la : (dfs (tgI b e) is f (bs.set p true) yn).length = 80 := by rw [da.len]; exact hl1
      have ua := da.un
      obtain ⟨bs2, hbs2⟩ : ∃ q, q = dfs (tgI b e) is f (bs.set p true) yn := ⟨_, rfl⟩
      rw [← hbs2] at Ca la ua
      rw [← HA1.out] at Ca
      obtain ⟨A2, hA2⟩ : ∃ q, q = boolsA bs2 := ⟨_, rfl⟩
      rw [← hA2] at Ca
      have HA2 : Hid _ := hA2
      have HSA2 : Hid (A2.size = 80) := by rw [hA2]; exact size_set80 la
      have HOA2 : Hid _ := boolsA_one bs2
      rw [← hA2] at HOA2
      have HCa : Hid _ := Ca
      clear Ca da hA2
      have db := dfs_dfs HG.out f (bs2) xn (by rw [HLN.out, la]; exact hn) (by rw [la]; omega) (by omega)
      have Cb := fun w' => ih (bs2) xn w' (la) hxn' (by omega)
      have lb : (dfs (tgI b e) is f (bs2) xn).length = 80 := by rw [db.len]; exact la
      have ub := db.un
      obtain ⟨bs3, hbs3⟩ : ∃ q, q = dfs (tgI b e) is f (bs2) xn := ⟨_, rfl⟩
      rw [← hbs3] at Cb lb ub
      rw [← HA2.out] at Cb
      obtain ⟨A3, hA3⟩ : ∃ q, q = boolsA bs3 := ⟨_, rfl⟩
      rw [← hA3] at Cb
      have HA3 : Hid _ := hA3
      have HSA3 : Hid (A3.size = 80) := by rw [hA3]; exact size_set80 lb
      have HOA3 : Hid _ := boolsA_one bs3
      rw [← hA3] at HOA3
      have HCb : Hid _ := Cb
      clear Cb db hA3
      have hr := dfs_two (b := b) (e := e) (f := f) hm HX.out rfl
      simp only [Int.toNat_natCast] at hr
      rw [← hbs2, ← hbs3] at hr
      have HRR : Hid (A3 = R) := by rw [hR, hr]; exact HA3.out
      clear hR hr hm hu hum la lb ua ub hbs2 hbs3 hx hl1 ih
      go_enter Try.func184, Try.ntmps184
      go_wp2_with ((with_reducible show wpList _ _ _ (({ dst := _, op := .load 157 _, type := _, pos := _, after := _, guard := _ } : Oper) :: _) _ _); refine wpList_load_row rfl 157 _ rfl _ rfl 157 (A1) (0, 0) _ HB0.out under80 rfl (size80 HS1.out) ?_)
      refine (HCa.out _ HR1.out).mono ?_
      rintro r' W2 ⟨rfl, hb2⟩
      have K0a : Hid (Blk W2 w.heap.size A1 157) := HB0.out.below hb2
      have K1a : Hid (Blk (W2.setRow w.heap.size A2) (w.heap.size + 1) Z 157) := (HB1.out.below hb2).otherRow (by omega) _
      have K2a : Hid (Blk (W2.setRow w.heap.size A2) (w.heap.size + 2) #[.int .i64 2, .int .i64 k, .int .i64 c, .string s, .int .i64 l, .int .i64 r, .int .i64 (xn : Int), .int .i64 (yn : Int)] 252) := (HB2.out.below hb2).otherRow (by omega) _
      have N0a : Hid (Blk (W2.setRow w.heap.size A2) w.heap.size A2 157) := K0a.out.setRow _
      have KWa : Hid (Below w.heap.size w (W2.setRow w.heap.size A2)) := below_setRow (HW.out.trans (hb2.mono HW.out.size)) (Nat.le_refl _) _
      have qa0 := K2a.out.cell 0
      have qa1 := K2a.out.cell 1
      have qa2 := K2a.out.cell 2
      have qa3 := K2a.out.cell 3
      have qa4 := K2a.out.cell 4
      have qa5 := K2a.out.cell 5
      have qa6 := K2a.out.cell 6
      have qa7 := K2a.out.cell 7
      rw [show w.heap.size + 2 = w.heap.size + 1 + 1 from rfl] at qa0
      simp only [List.getElem?_toArray, List.getElem?_cons_zero, List.getElem?_cons_succ] at qa0
      rw [show w.heap.size + 2 = w.heap.size + 1 + 1 from rfl] at qa1
      simp only [List.getElem?_toArray, List.getElem?_cons_zero, List.getElem?_cons_succ] at qa1
      rw [show w.heap.size + 2 = w.heap.size + 1 + 1 from rfl] at qa2
      simp only [List.getElem?_toArray, List.getElem?_cons_zero, List.getElem?_cons_succ] at qa2
      rw [show w.heap.size + 2 = w.heap.size + 1 + 1 from rfl] at qa3
      simp only [List.getElem?_toArray, List.getElem?_cons_zero, List.getElem?_cons_succ] at qa3
      rw [show w.heap.size + 2 = w.heap.size + 1 + 1 from rfl] at qa4
      simp only [List.getElem?_toArray, List.getElem?_cons_zero, List.getElem?_cons_succ] at qa4
      rw [show w.heap.size + 2 = w.heap.size + 1 + 1 from rfl] at qa5
      simp only [List.getElem?_toArray, List.getElem?_cons_zero, List.getElem?_cons_succ] at qa5
      rw [show w.heap.size + 2 = w.heap.size + 1 + 1 from rfl] at qa6
      simp only [List.getElem?_toArray, List.getElem?_cons_zero, List.getElem?_cons_succ] at qa6
      rw [show w.heap.size + 2 = w.heap.size + 1 + 1 from rfl] at qa7
      simp only [List.getElem?_toArray, List.getElem?_cons_zero, List.getElem?_cons_succ] at qa7
      have HRa : Hid (RdR inE 8 (W2.setRow w.heap.size A2) (some ⟨b1, o1, none⟩) n is) := ha.below KWa.out
      go_wp2_with (first | ((with_reducible show wpList _ _ _ (({ dst := _, op := .store 157 _ _, type := _, pos := _, after := _, guard := _ } : Oper) :: _) _ _); refine wpList_store_row rfl 157 _ _ rfl _ (A2) rfl rfl 157 (A1) K0a.out (size80 HSA2.out) (HS1.out.trans HSA2.out.symm) HOA2.out ?_) | ((with_reducible show wpList _ _ _ (({ dst := _, op := .load 157 _, type := _, pos := _, after := _, guard := _ } : Oper) :: _) _ _); refine wpList_load_row rfl 157 _ rfl _ rfl 157 (A2) (0, 0) _ N0a.out under80 rfl (size80 HSA2.out) ?_))
      refine (HCb.out _ HRa.out).mono ?_
      rintro r'' W4 ⟨rfl, hb4⟩
      have HB0x := N0a
      have HB1x := K1a
      have HB2x := K2a
      clear qa0 qa1 qa2 qa3 qa4 qa5 qa6 qa7
      have K0b : Hid (Blk W4 w.heap.size A2 157) := HB0x.out.below hb4
      have K1b : Hid (Blk (W4.setRow w.heap.size A3) (w.heap.size + 1) Z 157) := (HB1x.out.below hb4).otherRow (by omega) _
      have K2b : Hid (Blk (W4.setRow w.heap.size A3) (w.heap.size + 2) #[.int .i64 2, .int .i64 k, .int .i64 c, .string s, .int .i64 l, .int .i64 r, .int .i64 (xn : Int), .int .i64 (yn : Int)] 252) := (HB2x.out.below hb4).otherRow (by omega) _
      have N0b : Hid (Blk (W4.setRow w.heap.size A3) w.heap.size A3 157) := K0b.out.setRow _
      have KWb : Hid (Below w.heap.size w (W4.setRow w.heap.size A3)) := below_setRow (KWa.out.trans (hb4.mono KWa.out.size)) (Nat.le_refl _) _
      have qb0 := K2b.out.cell 0
      have qb1 := K2b.out.cell 1
      have qb2 := K2b.out.cell 2
      have qb3 := K2b.out.cell 3
      have qb4 := K2b.out.cell 4
      have qb5 := K2b.out.cell 5
      have qb6 := K2b.out.cell 6
      have qb7 := K2b.out.cell 7
      rw [show w.heap.size + 2 = w.heap.size + 1 + 1 from rfl] at qb0
      simp only [List.getElem?_toArray, List.getElem?_cons_zero, List.getElem?_cons_succ] at qb0
      rw [show w.heap.size + 2 = w.heap.size + 1 + 1 from rfl] at qb1
      simp only [List.getElem?_toArray, List.getElem?_cons_zero, List.getElem?_cons_succ] at qb1
      rw [show w.heap.size + 2 = w.heap.size + 1 + 1 from rfl] at qb2
      simp only [List.getElem?_toArray, List.getElem?_cons_zero, List.getElem?_cons_succ] at qb2
      rw [show w.heap.size + 2 = w.heap.size + 1 + 1 from rfl] at qb3
      simp only [List.getElem?_toArray, List.getElem?_cons_zero, List.getElem?_cons_succ] at qb3
      rw [show w.heap.size + 2 = w.heap.size + 1 + 1 from rfl] at qb4
      simp only [List.getElem?_toArray, List.getElem?_cons_zero, List.getElem?_cons_succ] at qb4
      rw [show w.heap.size + 2 = w.heap.size + 1 + 1 from rfl] at qb5
      simp only [List.getElem?_toArray, List.getElem?_cons_zero, List.getElem?_cons_succ] at qb5
      rw [show w.heap.size + 2 = w.heap.size + 1 + 1 from rfl] at qb6
      simp only [List.getElem?_toArray, List.getElem?_cons_zero, List.getElem?_cons_succ] at qb6
      rw [show w.heap.size + 2 = w.heap.size + 1 + 1 from rfl] at qb7
      simp only [List.getElem?_toArray, List.getElem?_cons_zero, List.getElem?_cons_succ] at qb7
      go_wp2_with (first | ((with_reducible show wpList _ _ _ (({ dst := _, op := .store 157 _ _, type := _, pos := _, after := _, guard := _ } : Oper) :: _) _ _); refine wpList_store_row rfl 157 _ _ rfl _ (A3) rfl rfl 157 (A2) K0b.out (size80 HSA3.out) (HSA2.out.trans HSA3.out.symm) HOA3.out ?_) | ((with_reducible show wpList _ _ _ (({ dst := _, op := .load 157 _, type := _, pos := _, after := _, guard := _ } : Oper) :: _) _ _); refine wpList_load_row rfl 157 _ rfl _ rfl 157 (A3) (0, 0) _ N0b.out under80 rfl (size80 HSA3.out) ?_) | ((with_reducible show wpList _ _ _ (({ dst := _, op := .store 157 _ _, type := _, pos := _, after := _, guard := _ } : Oper) :: _) _ _); refine wpList_store_row rfl 157 _ _ rfl _ (A3) rfl rfl 157 (Z) K1b.out (size80 HSA3.out) (HZS.out.trans HSA3.out.symm) HOA3.out ?_))
      refine bodyPost_ret (v := .agg A3) ?_ rfl ⟨by rw [HRR.out], below_setRow KWb.out (by omega) _⟩
      exact results_cell_row rfl _ _ _ 157 A3 (0, 0) _ rfl (K1b.out.setRow A3) under80 rfl (size80 HSA3.out)
    by_cases ho3 : o = 3
    case pos =>
      subst ho3
      have da := dfs_dfs HG.out f (bs.set p true) xn (by rw [HLN.out, hl1]; exact hn) (by rw [hl1]; omega) (by omega)
      have Ca := fun w' => ih (bs.set p true) xn w' (hl1) hxn' (by omega)
      have la : (dfs (tgI b e) is f (bs.set p true) xn).length = 80 := by rw [da.len]; exact hl1
      have ua := da.un
      obtain ⟨bs2, hbs2⟩ : ∃ q, q = dfs (tgI b e) is f (bs.set p true) xn := ⟨_, rfl⟩
      rw [← hbs2] at Ca la ua
      rw [← HA1.out] at Ca
      obtain ⟨A2, hA2⟩ : ∃ q, q = boolsA bs2 := ⟨_, rfl⟩
      rw [← hA2] at Ca
      have HA2 : Hid _ := hA2
      have HSA2 : Hid (A2.size = 80) := by rw [hA2]; exact size_set80 la
      have HOA2 : Hid _ := boolsA_one bs2
      rw [← hA2] at HOA2
      have HCa : Hid _ := Ca
      clear Ca da hA2
      have hr := dfs_one (b := b) (e := e) (f := f) hm HX.out (by simp) (by simp [goesX])
      simp only [Int.toNat_natCast] at hr
      rw [← hbs2] at hr
      have HRR : Hid (A2 = R) := by rw [hR, hr]; exact HA2.out
      clear hR hr hm hu hum la ua hbs2 hx hl1 ih
      go_enter Try.func184, Try.ntmps184
      go_wp2_with ((with_reducible show wpList _ _ _ (({ dst := _, op := .load 157 _, type := _, pos := _, after := _, guard := _ } : Oper) :: _) _ _); refine wpList_load_row rfl 157 _ rfl _ rfl 157 (A1) (0, 0) _ HB0.out under80 rfl (size80 HS1.out) ?_)
      refine (HCa.out _ HR1.out).mono ?_
      rintro r' W2 ⟨rfl, hb2⟩
      have K0a : Hid (Blk W2 w.heap.size A1 157) := HB0.out.below hb2
      have K1a : Hid (Blk (W2.setRow w.heap.size A2) (w.heap.size + 1) Z 157) := (HB1.out.below hb2).otherRow (by omega) _
      have K2a : Hid (Blk (W2.setRow w.heap.size A2) (w.heap.size + 2) #[.int .i64 3, .int .i64 k, .int .i64 c, .string s, .int .i64 l, .int .i64 r, .int .i64 (xn : Int), .int .i64 (yn : Int)] 252) := (HB2.out.below hb2).otherRow (by omega) _
      have N0a : Hid (Blk (W2.setRow w.heap.size A2) w.heap.size A2 157) := K0a.out.setRow _
      have KWa : Hid (Below w.heap.size w (W2.setRow w.heap.size A2)) := below_setRow (HW.out.trans (hb2.mono HW.out.size)) (Nat.le_refl _) _
      have qa0 := K2a.out.cell 0
      have qa1 := K2a.out.cell 1
      have qa2 := K2a.out.cell 2
      have qa3 := K2a.out.cell 3
      have qa4 := K2a.out.cell 4
      have qa5 := K2a.out.cell 5
      have qa6 := K2a.out.cell 6
      have qa7 := K2a.out.cell 7
      rw [show w.heap.size + 2 = w.heap.size + 1 + 1 from rfl] at qa0
      simp only [List.getElem?_toArray, List.getElem?_cons_zero, List.getElem?_cons_succ] at qa0
      rw [show w.heap.size + 2 = w.heap.size + 1 + 1 from rfl] at qa1
      simp only [List.getElem?_toArray, List.getElem?_cons_zero, List.getElem?_cons_succ] at qa1
      rw [show w.heap.size + 2 = w.heap.size + 1 + 1 from rfl] at qa2
      simp only [List.getElem?_toArray, List.getElem?_cons_zero, List.getElem?_cons_succ] at qa2
      rw [show w.heap.size + 2 = w.heap.size + 1 + 1 from rfl] at qa3
      simp only [List.getElem?_toArray, List.getElem?_cons_zero, List.getElem?_cons_succ] at qa3
      rw [show w.heap.size + 2 = w.heap.size + 1 + 1 from rfl] at qa4
      simp only [List.getElem?_toArray, List.getElem?_cons_zero, List.getElem?_cons_succ] at qa4
      rw [show w.heap.size + 2 = w.heap.size + 1 + 1 from rfl] at qa5
      simp only [List.getElem?_toArray, List.getElem?_cons_zero, List.getElem?_cons_succ] at qa5
      rw [show w.heap.size + 2 = w.heap.size + 1 + 1 from rfl] at qa6
      simp only [List.getElem?_toArray, List.getElem?_cons_zero, List.getElem?_cons_succ] at qa6
      rw [show w.heap.size + 2 = w.heap.size + 1 + 1 from rfl] at qa7
      simp only [List.getElem?_toArray, List.getElem?_cons_zero, List.getElem?_cons_succ] at qa7
      go_wp2_with (first | ((with_reducible show wpList _ _ _ (({ dst := _, op := .store 157 _ _, type := _, pos := _, after := _, guard := _ } : Oper) :: _) _ _); refine wpList_store_row rfl 157 _ _ rfl _ (A2) rfl rfl 157 (A1) K0a.out (size80 HSA2.out) (HS1.out.trans HSA2.out.symm) HOA2.out ?_) | ((with_reducible show wpList _ _ _ (({ dst := _, op := .load 157 _, type := _, pos := _, after := _, guard := _ } : Oper) :: _) _ _); refine wpList_load_row rfl 157 _ rfl _ rfl 157 (A2) (0, 0) _ N0a.out under80 rfl (size80 HSA2.out) ?_) | ((with_reducible show wpList _ _ _ (({ dst := _, op := .store 157 _ _, type := _, pos := _, after := _, guard := _ } : Oper) :: _) _ _); refine wpList_store_row rfl 157 _ _ rfl _ (A2) rfl rfl 157 (Z) K1a.out (size80 HSA2.out) (HZS.out.trans HSA2.out.symm) HOA2.out ?_))
      refine bodyPost_ret (v := .agg A2) ?_ rfl ⟨by rw [HRR.out], below_setRow KWa.out (by omega) _⟩
      exact results_cell_row rfl _ _ _ 157 A2 (0, 0) _ rfl (K1a.out.setRow A2) under80 rfl (size80 HSA2.out)
    by_cases ho4 : o = 4
    case pos =>
      subst ho4
      cases b
      case true =>
        have da := dfs_dfs HG.out f (bs.set p true) xn (by rw [HLN.out, hl1]; exact hn) (by rw [hl1]; omega) (by omega)
        have Ca := fun w' => ih (bs.set p true) xn w' (hl1) hxn' (by omega)
        have la : (dfs (tgI true e) is f (bs.set p true) xn).length = 80 := by rw [da.len]; exact hl1
        have ua := da.un
        obtain ⟨bs2, hbs2⟩ : ∃ q, q = dfs (tgI true e) is f (bs.set p true) xn := ⟨_, rfl⟩
        rw [← hbs2] at Ca la ua
        rw [← HA1.out] at Ca
        obtain ⟨A2, hA2⟩ : ∃ q, q = boolsA bs2 := ⟨_, rfl⟩
        rw [← hA2] at Ca
        have HA2 : Hid _ := hA2
        have HSA2 : Hid (A2.size = 80) := by rw [hA2]; exact size_set80 la
        have HOA2 : Hid _ := boolsA_one bs2
        rw [← hA2] at HOA2
        have HCa : Hid _ := Ca
        clear Ca da hA2
        have hr := dfs_one (b := true) (e := e) (f := f) hm HX.out (by simp) (by simp [goesX])
        simp only [Int.toNat_natCast] at hr
        rw [← hbs2] at hr
        have HRR : Hid (A2 = R) := by rw [hR, hr]; exact HA2.out
        clear hR hr hm hu hum la ua hbs2 hx hl1 ih
        go_enter Try.func184, Try.ntmps184
        go_wp2_with ((with_reducible show wpList _ _ _ (({ dst := _, op := .load 157 _, type := _, pos := _, after := _, guard := _ } : Oper) :: _) _ _); refine wpList_load_row rfl 157 _ rfl _ rfl 157 (A1) (0, 0) _ HB0.out under80 rfl (size80 HS1.out) ?_)
        refine (HCa.out _ HR1.out).mono ?_
        rintro r' W2 ⟨rfl, hb2⟩
        have K0a : Hid (Blk W2 w.heap.size A1 157) := HB0.out.below hb2
        have K1a : Hid (Blk (W2.setRow w.heap.size A2) (w.heap.size + 1) Z 157) := (HB1.out.below hb2).otherRow (by omega) _
        have K2a : Hid (Blk (W2.setRow w.heap.size A2) (w.heap.size + 2) #[.int .i64 4, .int .i64 k, .int .i64 c, .string s, .int .i64 l, .int .i64 r, .int .i64 (xn : Int), .int .i64 (yn : Int)] 252) := (HB2.out.below hb2).otherRow (by omega) _
        have N0a : Hid (Blk (W2.setRow w.heap.size A2) w.heap.size A2 157) := K0a.out.setRow _
        have KWa : Hid (Below w.heap.size w (W2.setRow w.heap.size A2)) := below_setRow (HW.out.trans (hb2.mono HW.out.size)) (Nat.le_refl _) _
        have qa0 := K2a.out.cell 0
        have qa1 := K2a.out.cell 1
        have qa2 := K2a.out.cell 2
        have qa3 := K2a.out.cell 3
        have qa4 := K2a.out.cell 4
        have qa5 := K2a.out.cell 5
        have qa6 := K2a.out.cell 6
        have qa7 := K2a.out.cell 7
        rw [show w.heap.size + 2 = w.heap.size + 1 + 1 from rfl] at qa0
        simp only [List.getElem?_toArray, List.getElem?_cons_zero, List.getElem?_cons_succ] at qa0
        rw [show w.heap.size + 2 = w.heap.size + 1 + 1 from rfl] at qa1
        simp only [List.getElem?_toArray, List.getElem?_cons_zero, List.getElem?_cons_succ] at qa1
        rw [show w.heap.size + 2 = w.heap.size + 1 + 1 from rfl] at qa2
        simp only [List.getElem?_toArray, List.getElem?_cons_zero, List.getElem?_cons_succ] at qa2
        rw [show w.heap.size + 2 = w.heap.size + 1 + 1 from rfl] at qa3
        simp only [List.getElem?_toArray, List.getElem?_cons_zero, List.getElem?_cons_succ] at qa3
        rw [show w.heap.size + 2 = w.heap.size + 1 + 1 from rfl] at qa4
        simp only [List.getElem?_toArray, List.getElem?_cons_zero, List.getElem?_cons_succ] at qa4
        rw [show w.heap.size + 2 = w.heap.size + 1 + 1 from rfl] at qa5
        simp only [List.getElem?_toArray, List.getElem?_cons_zero, List.getElem?_cons_succ] at qa5
        rw [show w.heap.size + 2 = w.heap.size + 1 + 1 from rfl] at qa6
        simp only [List.getElem?_toArray, List.getElem?_cons_zero, List.getElem?_cons_succ] at qa6
        rw [show w.heap.size + 2 = w.heap.size + 1 + 1 from rfl] at qa7
        simp only [List.getElem?_toArray, List.getElem?_cons_zero, List.getElem?_cons_succ] at qa7
        go_wp2_with (first | ((with_reducible show wpList _ _ _ (({ dst := _, op := .store 157 _ _, type := _, pos := _, after := _, guard := _ } : Oper) :: _) _ _); refine wpList_store_row rfl 157 _ _ rfl _ (A2) rfl rfl 157 (A1) K0a.out (size80 HSA2.out) (HS1.out.trans HSA2.out.symm) HOA2.out ?_) | ((with_reducible show wpList _ _ _ (({ dst := _, op := .load 157 _, type := _, pos := _, after := _, guard := _ } : Oper) :: _) _ _); refine wpList_load_row rfl 157 _ rfl _ rfl 157 (A2) (0, 0) _ N0a.out under80 rfl (size80 HSA2.out) ?_) | ((with_reducible show wpList _ _ _ (({ dst := _, op := .store 157 _ _, type := _, pos := _, after := _, guard := _ } : Oper) :: _) _ _); refine wpList_store_row rfl 157 _ _ rfl _ (A2) rfl rfl 157 (Z) K1a.out (size80 HSA2.out) (HZS.out.trans HSA2.out.symm) HOA2.out ?_))
        refine bodyPost_ret (v := .agg A2) ?_ rfl ⟨by rw [HRR.out], below_setRow KWa.out (by omega) _⟩
        exact results_cell_row rfl _ _ _ 157 A2 (0, 0) _ rfl (K1a.out.setRow A2) under80 rfl (size80 HSA2.out)
      case false =>
        have hr := dfs_end (b := false) (e := e) (f := f) hm HX.out (by simp) (by simp [goesX])
        have HRR : Hid (A1 = R) := by rw [hR, hr]; exact HA1.out
        clear hR hr hm hu hum hx hl1 ih
        go_enter Try.func184, Try.ntmps184
        go_wp2_with (first | ((with_reducible show wpList _ _ _ (({ dst := _, op := .load 157 _, type := _, pos := _, after := _, guard := _ } : Oper) :: _) _ _); refine wpList_load_row rfl 157 _ rfl _ rfl 157 (A1) (0, 0) _ HB0.out under80 rfl (size80 HS1.out) ?_) | ((with_reducible show wpList _ _ _ (({ dst := _, op := .store 157 _ _, type := _, pos := _, after := _, guard := _ } : Oper) :: _) _ _); refine wpList_store_row rfl 157 _ _ rfl _ (A1) rfl rfl 157 (Z) HB1.out (size80 HS1.out) (HZS.out.trans HS1.out.symm) HO1.out ?_))
        refine bodyPost_ret (v := .agg A1) ?_ rfl ⟨by rw [HRR.out], below_setRow HW.out (by omega) _⟩
        exact results_cell_row rfl _ _ _ 157 A1 (0, 0) _ rfl (HB1.out.setRow A1) under80 rfl (size80 HS1.out)
    by_cases ho5 : o = 5
    case pos =>
      subst ho5
      cases e
      case true =>
        have da := dfs_dfs HG.out f (bs.set p true) xn (by rw [HLN.out, hl1]; exact hn) (by rw [hl1]; omega) (by omega)
        have Ca := fun w' => ih (bs.set p true) xn w' (hl1) hxn' (by omega)
        have la : (dfs (tgI b true) is f (bs.set p true) xn).length = 80 := by rw [da.len]; exact hl1
        have ua := da.un
        obtain ⟨bs2, hbs2⟩ : ∃ q, q = dfs (tgI b true) is f (bs.set p true) xn := ⟨_, rfl⟩
        rw [← hbs2] at Ca la ua
        rw [← HA1.out] at Ca
        obtain ⟨A2, hA2⟩ : ∃ q, q = boolsA bs2 := ⟨_, rfl⟩
        rw [← hA2] at Ca
        have HA2 : Hid _ := hA2
        have HSA2 : Hid (A2.size = 80) := by rw [hA2]; exact size_set80 la
        have HOA2 : Hid _ := boolsA_one bs2
        rw [← hA2] at HOA2
        have HCa : Hid _ := Ca
        clear Ca da hA2
        have hr := dfs_one (b := b) (e := true) (f := f) hm HX.out (by simp) (by simp [goesX])
        simp only [Int.toNat_natCast] at hr
        rw [← hbs2] at hr
        have HRR : Hid (A2 = R) := by rw [hR, hr]; exact HA2.out
        clear hR hr hm hu hum la ua hbs2 hx hl1 ih
        go_enter Try.func184, Try.ntmps184
        go_wp2_with ((with_reducible show wpList _ _ _ (({ dst := _, op := .load 157 _, type := _, pos := _, after := _, guard := _ } : Oper) :: _) _ _); refine wpList_load_row rfl 157 _ rfl _ rfl 157 (A1) (0, 0) _ HB0.out under80 rfl (size80 HS1.out) ?_)
        refine (HCa.out _ HR1.out).mono ?_
        rintro r' W2 ⟨rfl, hb2⟩
        have K0a : Hid (Blk W2 w.heap.size A1 157) := HB0.out.below hb2
        have K1a : Hid (Blk (W2.setRow w.heap.size A2) (w.heap.size + 1) Z 157) := (HB1.out.below hb2).otherRow (by omega) _
        have K2a : Hid (Blk (W2.setRow w.heap.size A2) (w.heap.size + 2) #[.int .i64 5, .int .i64 k, .int .i64 c, .string s, .int .i64 l, .int .i64 r, .int .i64 (xn : Int), .int .i64 (yn : Int)] 252) := (HB2.out.below hb2).otherRow (by omega) _
        have N0a : Hid (Blk (W2.setRow w.heap.size A2) w.heap.size A2 157) := K0a.out.setRow _
        have KWa : Hid (Below w.heap.size w (W2.setRow w.heap.size A2)) := below_setRow (HW.out.trans (hb2.mono HW.out.size)) (Nat.le_refl _) _
        have qa0 := K2a.out.cell 0
        have qa1 := K2a.out.cell 1
        have qa2 := K2a.out.cell 2
        have qa3 := K2a.out.cell 3
        have qa4 := K2a.out.cell 4
        have qa5 := K2a.out.cell 5
        have qa6 := K2a.out.cell 6
        have qa7 := K2a.out.cell 7
        rw [show w.heap.size + 2 = w.heap.size + 1 + 1 from rfl] at qa0
        simp only [List.getElem?_toArray, List.getElem?_cons_zero, List.getElem?_cons_succ] at qa0
        rw [show w.heap.size + 2 = w.heap.size + 1 + 1 from rfl] at qa1
        simp only [List.getElem?_toArray, List.getElem?_cons_zero, List.getElem?_cons_succ] at qa1
        rw [show w.heap.size + 2 = w.heap.size + 1 + 1 from rfl] at qa2
        simp only [List.getElem?_toArray, List.getElem?_cons_zero, List.getElem?_cons_succ] at qa2
        rw [show w.heap.size + 2 = w.heap.size + 1 + 1 from rfl] at qa3
        simp only [List.getElem?_toArray, List.getElem?_cons_zero, List.getElem?_cons_succ] at qa3
        rw [show w.heap.size + 2 = w.heap.size + 1 + 1 from rfl] at qa4
        simp only [List.getElem?_toArray, List.getElem?_cons_zero, List.getElem?_cons_succ] at qa4
        rw [show w.heap.size + 2 = w.heap.size + 1 + 1 from rfl] at qa5
        simp only [List.getElem?_toArray, List.getElem?_cons_zero, List.getElem?_cons_succ] at qa5
        rw [show w.heap.size + 2 = w.heap.size + 1 + 1 from rfl] at qa6
        simp only [List.getElem?_toArray, List.getElem?_cons_zero, List.getElem?_cons_succ] at qa6
        rw [show w.heap.size + 2 = w.heap.size + 1 + 1 from rfl] at qa7
        simp only [List.getElem?_toArray, List.getElem?_cons_zero, List.getElem?_cons_succ] at qa7
        go_wp2_with (first | ((with_reducible show wpList _ _ _ (({ dst := _, op := .store 157 _ _, type := _, pos := _, after := _, guard := _ } : Oper) :: _) _ _); refine wpList_store_row rfl 157 _ _ rfl _ (A2) rfl rfl 157 (A1) K0a.out (size80 HSA2.out) (HS1.out.trans HSA2.out.symm) HOA2.out ?_) | ((with_reducible show wpList _ _ _ (({ dst := _, op := .load 157 _, type := _, pos := _, after := _, guard := _ } : Oper) :: _) _ _); refine wpList_load_row rfl 157 _ rfl _ rfl 157 (A2) (0, 0) _ N0a.out under80 rfl (size80 HSA2.out) ?_) | ((with_reducible show wpList _ _ _ (({ dst := _, op := .store 157 _ _, type := _, pos := _, after := _, guard := _ } : Oper) :: _) _ _); refine wpList_store_row rfl 157 _ _ rfl _ (A2) rfl rfl 157 (Z) K1a.out (size80 HSA2.out) (HZS.out.trans HSA2.out.symm) HOA2.out ?_))
        refine bodyPost_ret (v := .agg A2) ?_ rfl ⟨by rw [HRR.out], below_setRow KWa.out (by omega) _⟩
        exact results_cell_row rfl _ _ _ 157 A2 (0, 0) _ rfl (K1a.out.setRow A2) under80 rfl (size80 HSA2.out)
      case false =>
        have hr := dfs_end (b := b) (e := false) (f := f) hm HX.out (by simp) (by simp [goesX])
        have HRR : Hid (A1 = R) := by rw [hR, hr]; exact HA1.out
        clear hR hr hm hu hum hx hl1 ih
        go_enter Try.func184, Try.ntmps184
        go_wp2_with (first | ((with_reducible show wpList _ _ _ (({ dst := _, op := .load 157 _, type := _, pos := _, after := _, guard := _ } : Oper) :: _) _ _); refine wpList_load_row rfl 157 _ rfl _ rfl 157 (A1) (0, 0) _ HB0.out under80 rfl (size80 HS1.out) ?_) | ((with_reducible show wpList _ _ _ (({ dst := _, op := .store 157 _ _, type := _, pos := _, after := _, guard := _ } : Oper) :: _) _ _); refine wpList_store_row rfl 157 _ _ rfl _ (A1) rfl rfl 157 (Z) HB1.out (size80 HS1.out) (HZS.out.trans HS1.out.symm) HO1.out ?_))
        refine bodyPost_ret (v := .agg A1) ?_ rfl ⟨by rw [HRR.out], below_setRow HW.out (by omega) _⟩
        exact results_cell_row rfl _ _ _ 157 A1 (0, 0) _ rfl (HB1.out.setRow A1) under80 rfl (size80 HS1.out)
    have ho2' : (o == 2) = false := by simpa using ho2
    have ho3' : (o == 3) = false := by simpa using ho3
    have ho4' : (o == 4) = false := by simpa using ho4
    have ho5' : (o == 5) = false := by simpa using ho5
    have hr := dfs_end (b := b) (e := e) (f := f) hm HX.out ho2 (by simp [goesX, ho2, ho3, ho4, ho5])
    have HRR : Hid (A1 = R) := by rw [hR, hr]; exact HA1.out
    clear hR hr hm hu hum hx hl1 ih
    go_enter Try.func184, Try.ntmps184
    go_wp2_with (first | ((with_reducible show wpList _ _ _ (({ dst := _, op := .load 157 _, type := _, pos := _, after := _, guard := _ } : Oper) :: _) _ _); refine wpList_load_row rfl 157 _ rfl _ rfl 157 (A1) (0, 0) _ HB0.out under80 rfl (size80 HS1.out) ?_) | ((with_reducible show wpList _ _ _ (({ dst := _, op := .store 157 _ _, type := _, pos := _, after := _, guard := _ } : Oper) :: _) _ _); refine wpList_store_row rfl 157 _ _ rfl _ (A1) rfl rfl 157 (Z) HB1.out (size80 HS1.out) (HZS.out.trans HS1.out.symm) HO1.out ?_))
    refine bodyPost_ret (v := .agg A1) ?_ rfl ⟨by rw [HRR.out], below_setRow HW.out (by omega) _⟩
    exact results_cell_row rfl _ _ _ 157 A1 (0, 0) _ rfl (HB1.out.setRow A1) under80 rfl (size80 HS1.out)
end Go.Proofs.Ytocophekfbhfbaa
