/-
  Node4, NodeF in one text.
-/
import Derived.Laws.StructEq
import Derived.Test.YtocophekfbhfbaaNodeM
import Derived.Test.YtocophekfbhfbaaRows
namespace Go.Proofs.Ytocophekfbhfbaa
open Go.RowKit
set_option linter.unusedVariables false

theorem baList (a b : ByteArray) : a.toList = b.toList ↔ a = b := by
  rw [ByteArray.toList_eq, ByteArray.toList_eq]
  obtain ⟨⟨x⟩⟩ := a
  obtain ⟨⟨y⟩⟩ := b
  simp

instance : DecidableEq Nd := fun a b => if h : a.k = b.k ∧ a.c = b.c ∧ a.s = b.s ∧ a.l = b.l ∧ a.r = b.r then .isTrue (by cases a; cases b; simp_all) else .isFalse (by intro e; subst e; simp at h)

theorem ndEq_iff (a b : Nd) : a = b ↔ a.k = b.k ∧ a.c = b.c ∧ a.s = b.s ∧ a.l = b.l ∧ a.r = b.r := by cases a; cases b; simp

/-- Go's '!=' at nodes. -/
theorem neqNode (x y : Nd) (w : World) :
    (binOp .neq 151 (.agg #[.int .i64 x.k, .int .i64 x.c, .string x.s, .int .i64 x.l, .int .i64 x.r]) (.agg #[.int .i64 y.k, .int .i64 y.c, .string y.s, .int .i64 y.l, .int .i64 y.r])).run Try.prog w = .ok (.bool (!decide (x = y))) w := by
  have u3 := Try.underlying2
  have a3 := Try.isAgg2
  have z3 := Try.sizeOf2
  have u9 := Try.underlying9
  have a9 := Try.isAgg9
  have z9 := Try.sizeOf9
  have hS : Try.prog.underlying 151 = some (.struct (Try.prog.fieldsOf 151)) := by kernel_rfl
  have hp : Try.prog.stoodInHeld 151 = false := by kernel_rfl
  rw [run_neq_struct, show (10000 : Nat) = 9999 + 1 from rfl, run_equalIn_agg w 9999 151 _ _ hS hp]
  simp only [Program.fieldsOf, Try.underlying151]
  go_simp
  by_cases h1 : x.k = y.k <;> by_cases h2 : x.c = y.c <;> by_cases h3 : x.s = y.s <;> by_cases h4 : x.l = y.l <;> by_cases h5 : x.r = y.r <;> simp [h1, h2, h3, h4, h5, ndEq_iff, baList]

theorem guardNode (op : BinOp) (a b : Operand) (x y : Array Value) (w : World) : (eqGuard op 151 a b (.agg x) (.agg y)).run Try.prog w = .ok () w := run_eqGuard_agg w op 151 a b x y (by kernel_rfl)

theorem same_end {xs ys : List Nd} {n : Nat} (h1 : xs.length = n) (h2 : ys.length = n) (h : xs.take n = ys.take n) : xs = ys := by
  rwa [List.take_of_length_le (by omega), List.take_of_length_le (by omega)] at h
theorem same_succ {xs ys : List Nd} {k : Nat} {x : Nd} (h1 : xs[k]? = some x) (h2 : ys[k]? = some x) (h : xs.take k = ys.take k) : xs.take (k + 1) = ys.take (k + 1) := by
  rw [List.take_add_one, List.take_add_one, h1, h2, h]
theorem same_no {xs ys : List Nd} {k : Nat} {x y : Nd} (h1 : xs[k]? = some x) (h2 : ys[k]? = some y) (h : x ≠ y) : xs ≠ ys := by
  rintro rfl
  rw [h1] at h2
  exact h (by simpa using h2)

/-- The first k are alike. -/
def Alike (xs ys : List Nd) (k : Nat) : Prop := xs.take k = ys.take k

set_option maxHeartbeats 800000 in
theorem slicesEqual_any (a b : Option Addr) (n m ca cb : Nat) (xs ys : List Nd) (w : World) (ha : RdR ndE 5 w a n xs) (hb : RdR ndE 5 w b m ys) (h1 : n ≤ 1073741824) (h2 : m ≤ 1073741824) :
    Calls Try.prog 99 #[.slice a n ca, .slice b m cb] w fun e w' => e = .returned (.bool (decide (xs = ys))) ∧ Below w.heap.size w w' := by
  obtain ⟨R, hR⟩ : ∃ R, R = decide (xs = ys) := ⟨_, rfl⟩
  rw [← hR]
  have HR : Hid _ := hR
  have HLA : Hid _ := ha.1
  have HLB : Hid _ := hb.1
  clear hR
  by_cases hnm : n = m
  · subst hnm
    go_enter Try.func99, Try.ntmps99
    go_wp2
    go_loopw [13] (fun i wr => ∃ k : Nat, k ≤ n ∧ i = .int .i64 k ∧ Alike xs ys k ∧ Below w.heap.size w wr) (fun i _ => n - (intOf i).toNat)
    case atStart => exact ⟨0, Nat.zero_le _, rfl, rfl, Below.refl _ _⟩
    case round =>
      obtain ⟨k, hk, rfl, hal, hbw⟩ := hrel
      by_cases hlt : k < n
      · obtain ⟨b1, o1, x, rfl, hx, hc1⟩ := (ha.below hbw).at hlt
        obtain ⟨b2, o2, y, rfl, hy, hc2⟩ := (hb.below hbw).at hlt
        obtain ⟨c0, c1, c2, c3, c4⟩ := five hc1
        obtain ⟨e0, e1, e2, e3, e4⟩ := five hc2
        have HX : Hid _ := hx
        have HY : Hid _ := hy
        clear hx hy hc1 hc2
        have hne := fun w' => neqNode x y w'
        have hg := guardNode
        have hlt' : (k : Int) < (n : Int) := by omega
        by_cases hxy : x = y
        · have hd : decide (x = y) = true := by simp [hxy]
          rw [hd] at hne
          have HE : Hid _ := hxy
          clear hxy hd
          obtain ⟨x0, x1, x2, x3, x4⟩ := x
          obtain ⟨y0, y1, y2, y3, y4⟩ := y
          simp only at c0 c1 c2 c3 c4 e0 e1 e2 e3 e4 hne
          go_wp2
          go_region
          all_goals
            go_wp2
            go_roundw
            case rel => exact ⟨k + 1, by omega, by go_num, same_succ HX.out (by rw [HY.out, HE.out]) hal, hbw.drew⟩
            case measure => simp [intOf]; omega
        · have hd : decide (x = y) = false := by simp [hxy]
          rw [hd] at hne
          have HE : Hid _ := hxy
          clear hxy hd
          obtain ⟨x0, x1, x2, x3, x4⟩ := x
          obtain ⟨y0, y1, y2, y3, y4⟩ := y
          simp only at c0 c1 c2 c3 c4 e0 e1 e2 e3 e4 hne
          go_wp2
          go_region
          all_goals
            go_wp2
            go_ret
            exact ⟨ret_bool (by rw [HR.out, decide_eq_false (same_no HX.out HY.out HE.out)]), hbw.drew⟩
      · go_wp2
        go_ret
        obtain rfl : k = n := by omega
        exact ⟨ret_bool (by rw [HR.out, decide_eq_true (same_end HLA.out HLB.out hal)]), hbw⟩
  · have hnm' : ((n : Int) == (m : Int)) = false := by simp; omega
    have hnm2 : ¬ (n : Int) = (m : Int) := by omega
    go_enter Try.func99, Try.ntmps99
    go_wp2
    go_ret
    exact ⟨ret_bool (by rw [HR.out, decide_eq_false (by intro e; have h3 := HLA.out; have h4 := HLB.out; rw [e] at h3; omega)]), Below.refl _ _⟩

theorem implSameNodes_any (a b : Option Addr) (n m ca cb : Nat) (xs ys : List Nd) (w : World) (ha : RdR ndE 5 w a n xs) (hb : RdR ndE 5 w b m ys) (h1 : n ≤ 1073741824) (h2 : m ≤ 1073741824) :
    Calls Try.prog 29 #[.slice a n ca, .slice b m cb] w fun e w' => e = .returned (.bool (decide (xs = ys))) ∧ Below w.heap.size w w' := by
  have h := fun w' ha' hb' => slicesEqual_any a b n m ca cb xs ys w' ha' hb' h1 h2
  generalize decide (xs = ys) = R at h ⊢
  have HH : Hid _ := h
  clear h
  go_enter Try.func29, Try.ntmps29
  go_wp2_with fail
  refine (HH.out _ ha hb).mono ?_
  rintro e w1 ⟨rfl, hb1⟩
  go_wp2
  go_ret
  exact ⟨rfl, hb1⟩
end Go.Proofs.Ytocophekfbhfbaa

namespace Go.Proofs.Ytocophekfbhfbaa
open Go.RowKit
set_option linter.unusedVariables false

def eB : ByteArray := ⟨#[]⟩

/-- A node has nothing that its kind has not. -/
def FormP (n : Nd) : Prop := (1 ≤ n.k ∧ n.k ≤ 12) ∧ (n.k = 2 ∨ n.c = 0) ∧ (n.k = 4 ∨ n.k = 5 ∨ n.s = eB) ∧ (n.k = 11 ∨ n.k = 12 ∨ n.r = 0) ∧ (8 ≤ n.k ∨ n.l = 0)
instance (n : Nd) : Decidable (FormP n) := by unfold FormP; infer_instance

def charsB (l : List UInt8) : Bool := l.all fun b => decide (32 ≤ b.toNat ∧ b.toNat ≤ 126)
def risingB : List UInt8 → Bool
  | a :: b :: t => decide (a.toNat < b.toNat) && risingB (b :: t)
  | _ => true

theorem risingB_no {l : List UInt8} {k : Nat} (h : k + 1 < l.length) (hr : (l.getD (k + 1) 0).toNat ≤ (l.getD k 0).toNat) : risingB l = false := by
  induction l generalizing k with
  | nil => simp at h
  | cons a t ih =>
    cases t with
    | nil => simp at h
    | cons b t =>
      cases k with
      | zero =>
        simp at hr
        simp [risingB]
        intro h1
        omega
      | succ k =>
        have := ih (k := k) (by simpa using h) (by simpa using hr)
        simp [risingB, this]

theorem risingB_yes {l : List UInt8} (h : ∀ k, k + 1 < l.length → (l.getD k 0).toNat < (l.getD (k + 1) 0).toNat) : risingB l = true := by
  induction l with
  | nil => rfl
  | cons a t ih =>
    cases t with
    | nil => rfl
    | cons b t =>
      have h0 := h 0 (by simp)
      have h1 := ih (fun k hk => by simpa using h (k + 1) (by simpa using hk))
      simp at h0
      simp [risingB, h0, h1]

theorem charsB_no {l : List UInt8} {k : Nat} (h : k < l.length) (hr : ¬ (32 ≤ (l.getD k 0).toNat ∧ (l.getD k 0).toNat ≤ 126)) : charsB l = false := by
  rw [charsB, List.all_eq_false]
  refine ⟨l[k], List.getElem_mem h, ?_⟩
  simpa [List.getD_eq_getElem?_getD, h] using hr

theorem charsB_yes {l : List UInt8} (h : ∀ k, k < l.length → 32 ≤ (l.getD k 0).toNat ∧ (l.getD k 0).toNat ≤ 126) : charsB l = true := by
  rw [charsB, List.all_eq_true]
  intro b hb
  obtain ⟨j, hj, rfl⟩ := List.mem_iff_getElem.1 hb
  have := h j hj
  simpa [List.getD_eq_getElem?_getD, hj] using this

/-- A set that is right. -/
def setB (s : ByteArray) : Bool := decide (1 ≤ s.size ∧ s.size ≤ 20) && charsB s.data.toList && risingB s.data.toList

def rangeB (n : Nd) : Bool := if n.k = 2 then decide (32 ≤ n.c ∧ n.c ≤ 126) else if n.k = 4 ∨ n.k = 5 then setB n.s else true

/-- The first place of all that a node has in it, behind nodes that begin at bs; -1: there is none. -/
def beg (bs : List Int) (n : Nd) : Int :=
  if n.k = 11 ∨ n.k = 12 then
    if (bs.length : Int) = 0 ∨ n.r ≠ bs.length - 1 then -1
    else if bs.getD (bs.length - 1) 0 = 0 ∨ n.l ≠ bs.getD (bs.length - 1) 0 - 1 then -1
    else bs.getD (bs.getD (bs.length - 1) 0 - 1).toNat 0
  else if 8 ≤ n.k ∧ n.k ≤ 10 then
    if (bs.length : Int) = 0 ∨ n.l ≠ bs.length - 1 then -1 else bs.getD (bs.length - 1) 0
  else bs.length

def faultGo (bs : List Int) : List Nd → Int
  | [] => if bs.getD (bs.length - 1) 0 = 0 then 0 else 1
  | n :: ns => if ¬ FormP n then 1 else if rangeB n = false then 3 else if beg bs n = -1 then 1 else faultGo (bs ++ [beg bs n]) ns

def nodesFault (ns : List Nd) : Int := if ns.length < 1 ∨ 24 < ns.length then 2 else faultGo [] ns

/-- The first k nodes are right, and begin at bs. -/
structure Beg (ns : List Nd) (k : Nat) (bs : List Int) : Prop where
  len : bs.length = k
  at_ : ∀ i n, i < k → ns[i]? = some n → FormP n ∧ rangeB n = true ∧ beg (bs.take i) n = bs.getD i 0 ∧ 0 ≤ bs.getD i 0 ∧ bs.getD i 0 ≤ i

theorem Beg.zero (ns : List Nd) : Beg ns 0 [] := ⟨rfl, fun i n h => by omega⟩

theorem getD_take' {bs : List Int} {i j : Nat} (h : j < i) : (bs.take i).getD j 0 = bs.getD j 0 := by
  rw [List.getD_eq_getElem?_getD, List.getD_eq_getElem?_getD, List.getElem?_take, if_pos h]

theorem Beg.bd {ns : List Nd} {k : Nat} {bs : List Int} (h : Beg ns k bs) (hl : k ≤ ns.length) {i : Nat} (hi : i < k) : 0 ≤ bs.getD i 0 ∧ bs.getD i 0 ≤ i := by
  obtain ⟨_, _, _, h1, h2⟩ := h.at_ i ns[i] hi (List.getElem?_eq_getElem (by omega))
  exact ⟨h1, h2⟩

theorem beg_bd {ns : List Nd} {k : Nat} {bs : List Int} {n : Nd} (h : Beg ns k bs) (hl : k ≤ ns.length) (hb : beg bs n ≠ -1) : 0 ≤ beg bs n ∧ beg bs n ≤ k := by
  have hlen := h.len
  unfold beg at *
  by_cases h2 : n.k = 11 ∨ n.k = 12
  · simp only [if_pos h2] at *
    by_cases h3 : (bs.length : Int) = 0 ∨ n.r ≠ bs.length - 1
    · exact absurd (if_pos h3) hb
    · simp only [if_neg h3] at *
      by_cases h4 : bs.getD (bs.length - 1) 0 = 0 ∨ n.l ≠ bs.getD (bs.length - 1) 0 - 1
      · exact absurd (if_pos h4) hb
      · simp only [if_neg h4] at *
        have b1 := h.bd hl (i := bs.length - 1) (by omega)
        have b2 := h.bd hl (i := (bs.getD (bs.length - 1) 0 - 1).toNat) (by omega)
        omega
  · simp only [if_neg h2] at *
    by_cases h3 : 8 ≤ n.k ∧ n.k ≤ 10
    · simp only [if_pos h3] at *
      by_cases h4 : (bs.length : Int) = 0 ∨ n.l ≠ bs.length - 1
      · exact absurd (if_pos h4) hb
      · simp only [if_neg h4] at *
        have b1 := h.bd hl (i := bs.length - 1) (by omega)
        omega
    · simp only [if_neg h3]
      omega

theorem Beg.succ {ns : List Nd} {k : Nat} {bs : List Int} {n : Nd} (h : Beg ns k bs) (hx : ns[k]? = some n) (hf : FormP n) (hr : rangeB n = true) (hb : beg bs n ≠ -1) : Beg ns (k + 1) (bs ++ [beg bs n]) := by
  have hk : k < ns.length := (List.getElem?_eq_some_iff.1 hx).1
  have hbd := beg_bd h (by omega) hb
  have hlen := h.len
  refine ⟨by simp [hlen], fun i m hi hm => ?_⟩
  by_cases hik : i = k
  · subst hik
    obtain rfl : n = m := by rw [hx] at hm; simpa using hm
    have e1 : (bs ++ [beg bs n]).take i = bs := by rw [← hlen]; simp
    have e2 : (bs ++ [beg bs n]).getD i 0 = beg bs n := by rw [List.getD_eq_getElem?_getD, List.getElem?_append_right (by omega)]; simp [hlen]
    rw [e1, e2]
    exact ⟨hf, hr, rfl, hbd.1, hbd.2⟩
  · obtain ⟨a1, a2, a3, a4, a5⟩ := h.at_ i m (by omega) hm
    have e1 : (bs ++ [beg bs n]).take i = bs.take i := by rw [List.take_append_of_le_length (by omega)]
    have e2 : (bs ++ [beg bs n]).getD i 0 = bs.getD i 0 := by rw [List.getD_eq_getElem?_getD, List.getElem?_append_left (by omega), ← List.getD_eq_getElem?_getD]
    rw [e1, e2]
    exact ⟨a1, a2, a3, a4, a5⟩

/-- What a node is of. -/
theorem Beg.two {ns : List Nd} {k : Nat} {bs : List Int} (h : Beg ns k bs) {i : Nat} {n : Nd} (hi : i < k) (hx : ns[i]? = some n) (h2 : n.k = 11 ∨ n.k = 12) :
    1 < i ∧ n.r = (i : Int) - 1 ∧ 0 < bs.getD (i - 1) 0 ∧ n.l = bs.getD (i - 1) 0 - 1 ∧ bs.getD (i - 1) 0 ≤ i - 1 ∧ bs.getD n.l.toNat 0 = bs.getD i 0 := by
  obtain ⟨_, _, h3, h4, h5⟩ := h.at_ i n hi hx
  have hlen := h.len
  have hl : (bs.take i).length = i := by simp; omega
  have hns : i < ns.length := (List.getElem?_eq_some_iff.1 hx).1
  unfold beg at h3
  rw [if_pos h2, hl] at h3
  by_cases c1 : (i : Int) = 0 ∨ n.r ≠ i - 1
  · rw [if_pos c1] at h3; omega
  rw [if_neg c1, getD_take' (by omega)] at h3
  obtain ⟨_, _, _, b1, b2⟩ := h.at_ (i - 1) ns[i - 1] (by omega) (List.getElem?_eq_getElem (by omega))
  by_cases c2 : bs.getD (i - 1) 0 = 0 ∨ n.l ≠ bs.getD (i - 1) 0 - 1
  · rw [if_pos c2] at h3; omega
  rw [if_neg c2, getD_take' (by omega)] at h3
  refine ⟨by omega, by omega, by omega, by omega, by omega, ?_⟩
  rw [← h3, show n.l = bs.getD (i - 1) 0 - 1 by omega]

theorem Beg.one {ns : List Nd} {k : Nat} {bs : List Int} (h : Beg ns k bs) {i : Nat} {n : Nd} (hi : i < k) (hx : ns[i]? = some n) (h2 : 8 ≤ n.k ∧ n.k ≤ 10) :
    0 < i ∧ n.l = (i : Int) - 1 ∧ bs.getD n.l.toNat 0 = bs.getD i 0 := by
  obtain ⟨_, _, h3, h4, h5⟩ := h.at_ i n hi hx
  have hlen := h.len
  have hl : (bs.take i).length = i := by simp; omega
  unfold beg at h3
  rw [if_neg (by omega), if_pos h2, hl] at h3
  by_cases c1 : (i : Int) = 0 ∨ n.l ≠ i - 1
  · rw [if_pos c1] at h3; omega
  rw [if_neg c1, getD_take' (by omega)] at h3
  refine ⟨by omega, by omega, ?_⟩
  rw [← h3, show n.l.toNat = i - 1 by omega]

theorem Beg.leaf {ns : List Nd} {k : Nat} {bs : List Int} (h : Beg ns k bs) {i : Nat} {n : Nd} (hi : i < k) (hx : ns[i]? = some n) (h2 : n.k ≤ 7) : bs.getD i 0 = i := by
  obtain ⟨_, _, h3, h4, h5⟩ := h.at_ i n hi hx
  have hlen := h.len
  have hl : (bs.take i).length = i := by simp; omega
  unfold beg at h3
  rw [if_neg (by omega), if_neg (by omega), hl] at h3
  exact h3.symm

theorem faultGo_at {ns : List Nd} {k : Nat} {n : Nd} (bs : List Int) (hx : ns[k]? = some n) :
    faultGo bs (ns.drop k) = if ¬ FormP n then 1 else if rangeB n = false then 3 else if beg bs n = -1 then 1 else faultGo (bs ++ [beg bs n]) (ns.drop (k + 1)) := by
  have hk := List.getElem?_eq_some_iff.1 hx
  rw [List.drop_eq_getElem_cons hk.1, hk.2]
  rfl
end Go.Proofs.Ytocophekfbhfbaa
