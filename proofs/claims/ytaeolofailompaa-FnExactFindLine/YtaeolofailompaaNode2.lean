/-
  Chapter 5: helpers of the exact laws over nodes: sizes, copies, comparisons.
-/
import Derived.Test.YtaeolofailompaaNode1
import Derived.Test.YtaeolofailompaaHlpCA
namespace Go.Proofs.Ytaeolofailompaa
open Go.RowKit
set_option linter.unusedVariables false

/-- A node as a value. -/
def ndV (n : Nd) : Value := .agg #[.int .i64 n.k, .int .i64 n.c, .string n.s, .int .i64 n.l, .int .i64 n.r]

theorem szNode_any (n : Nd) (l : Int) (w : World) (h2 : 0 ≤ l) (h3 : l ≤ 1073741824) (h4 : (n.s.size : Int) ≤ 9223372036854775807) :
    Calls Try.prog 225 #[.agg #[.int .i64 n.k, .int .i64 n.c, .string n.s, .int .i64 n.l, .int .i64 n.r], .int .i64 l] w fun e w' => e = .returned (.int .i64 (if l < n.s.size then -1 else l - n.s.size)) ∧ Below w.heap.size w w' := by
  have B1 : ∀ o, Below w.heap.size w (w.alloc o) := fun o => (Below.refl _ _).alloc (Nat.le_refl _) o
  by_cases h : l < n.s.size
  · rw [if_pos h]
    go_enter Try.func225, Try.ntmps225
    go_wp2
    go_ret
    exact ⟨rfl, B1 _⟩
  · rw [if_neg h]
    go_enter Try.func225, Try.ntmps225
    go_wp2
    go_ret
    exact ⟨rfl, B1 _⟩

set_option maxHeartbeats 800000 in
theorem toNode_any (k c : Int) (s : ByteArray) (l r : Int) (w : World) :
    Calls Try.prog 226 #[.agg #[.int .i64 k, .int .i64 c, .string s, .int .i64 l, .int .i64 r]] w fun e w' => e = .returned (.agg #[.int .i64 k, .int .i64 c, .string s, .int .i64 l, .int .i64 r]) ∧ Below w.heap.size w w' := by
  go_enter Try.func226, Try.ntmps226
  go_wp2
  refine bodyPost_ret (v := .agg #[.int .i64 k, .int .i64 c, .string s, .int .i64 l, .int .i64 r]) (by simp [results, Try.results226, go_sem]) rfl ⟨rfl, ?_⟩
  exact (((Below.refl _ _).alloc (Nat.le_refl _) _).alloc (by simp) _).alloc (by simp; omega) _

set_option maxHeartbeats 800000 in
theorem eqNode_yes (k c : Int) (s : ByteArray) (l r : Int) (w : World) :
    Calls Try.prog 223 #[.agg #[.int .i64 k, .int .i64 c, .string s, .int .i64 l, .int .i64 r], .agg #[.int .i64 k, .int .i64 c, .string s, .int .i64 l, .int .i64 r]] w fun e w' => e = .returned (.bool true) ∧ Below w.heap.size w w' := by
  go_enter Try.func223, Try.ntmps223
  go_wp2
  go_ret
  exact ⟨rfl, ((Below.refl _ _).alloc (Nat.le_refl _) _).alloc (by simp) _⟩

theorem infoN : (Try.prog.info? 161).map (fun i => (i.zero, i.size, i.bytes)) = some (some (.agg #[.int .i64 0, .int .i64 0, .string ⟨#[]⟩, .int .i64 0, .int .i64 0]), 5, 48) := by kernel_rfl

theorem madeN (n : Nat) : (madeCells #[Value.int .i64 0, .int .i64 0, .string ⟨#[]⟩, .int .i64 0, .int .i64 0] (n * 5)).toList = (List.replicate n nd0).flatMap ndE := by
  apply List.ext_getElem?
  intro j
  by_cases hj : j < n * 5
  · have e1 : j / 5 < n := by omega
    have h := getElem?_flatMap ndE 5 ndE_len (List.replicate n nd0) (j / 5) (j % 5) nd0 (by simp [e1]) (by omega)
    rw [show j / 5 * 5 + j % 5 = j by omega] at h
    rw [h]
    have : j % 5 = 0 ∨ j % 5 = 1 ∨ j % 5 = 2 ∨ j % 5 = 3 ∨ j % 5 = 4 := by omega
    rcases this with h | h | h | h | h <;> simp [madeCells, hj, h, ndE, nd0]
  · have h2 := length_flatMap' ndE 5 ndE_len (List.replicate n nd0)
    rw [List.getElem?_eq_none (by simp [madeCells]; omega), List.getElem?_eq_none (by rw [h2]; simp; omega)]

theorem copyN_set (cs : List Nd) (n k : Nat) (c : Nd) (h : cs.length = n) (hk : cs[k]? = some c) :
    (cs.take k ++ List.replicate (n - k) nd0).set k c = cs.take (k + 1) ++ List.replicate (n - (k + 1)) nd0 := by
  have hk' := (List.getElem?_eq_some_iff.1 hk).1
  obtain ⟨d, hd⟩ : ∃ d, n - k = d + 1 := ⟨n - k - 1, by omega⟩
  rw [hd, List.replicate_succ, set_mid _ _ (by simp; omega), List.take_add_one, hk, show n - (k + 1) = d by omega]
  simp

/-- A whole node is stored. -/
theorem storeN {e : TypeId} {w : World} {base g n cap j : Nat} {xs : List Nd} {c : Nd} (h : OwnR ndE 5 e w base (.slice (some ⟨g, 0, none⟩) n cap) n xs) (hx : xs[j]? = some c) (k d : Int) (s : ByteArray) (l r : Int) :
    OwnR ndE 5 e (((((w.setCell ⟨g, j * 5, none⟩ (.int .i64 k)).setCell ⟨g, j * 5 + 1, none⟩ (.int .i64 d)).setCell ⟨g, j * 5 + 2, none⟩ (.string s)).setCell ⟨g, j * 5 + 3, none⟩ (.int .i64 l)).setCell ⟨g, j * 5 + 4, none⟩ (.int .i64 r)) base (.slice (some ⟨g, 0, none⟩) n cap) n (xs.set j ⟨k, d, s, l, r⟩) ∧
    w.grownBy (((((w.setCell ⟨g, j * 5, none⟩ (.int .i64 k)).setCell ⟨g, j * 5 + 1, none⟩ (.int .i64 d)).setCell ⟨g, j * 5 + 2, none⟩ (.string s)).setCell ⟨g, j * 5 + 3, none⟩ (.int .i64 l)).setCell ⟨g, j * 5 + 4, none⟩ (.int .i64 r)) (some g) := by
  have hj : j < xs.length := (List.getElem?_eq_some_iff.1 hx).1
  have s0 := OwnR.store (f := 0) (u := .int .i64 k) (y := ⟨k, c.c, c.s, c.l, c.r⟩) ndE_len h hx (by omega) rfl
  have x1 : (xs.set j ⟨k, c.c, c.s, c.l, c.r⟩)[j]? = some ⟨k, c.c, c.s, c.l, c.r⟩ := by simp [hj]
  have s1 := OwnR.store (f := 1) (u := .int .i64 d) (y := ⟨k, d, c.s, c.l, c.r⟩) ndE_len s0.1 x1 (by omega) rfl
  have x2 : ((xs.set j ⟨k, c.c, c.s, c.l, c.r⟩).set j ⟨k, d, c.s, c.l, c.r⟩)[j]? = some ⟨k, d, c.s, c.l, c.r⟩ := by simp [hj]
  have s2 := OwnR.store (f := 2) (u := .string s) (y := ⟨k, d, s, c.l, c.r⟩) ndE_len s1.1 x2 (by omega) rfl
  have x3 : (((xs.set j ⟨k, c.c, c.s, c.l, c.r⟩).set j ⟨k, d, c.s, c.l, c.r⟩).set j ⟨k, d, s, c.l, c.r⟩)[j]? = some ⟨k, d, s, c.l, c.r⟩ := by simp [hj]
  have s3 := OwnR.store (f := 3) (u := .int .i64 l) (y := ⟨k, d, s, l, c.r⟩) ndE_len s2.1 x3 (by omega) rfl
  have x4 : ((((xs.set j ⟨k, c.c, c.s, c.l, c.r⟩).set j ⟨k, d, c.s, c.l, c.r⟩).set j ⟨k, d, s, c.l, c.r⟩).set j ⟨k, d, s, l, c.r⟩)[j]? = some ⟨k, d, s, l, c.r⟩ := by simp [hj]
  have s4 := OwnR.store (f := 4) (u := .int .i64 r) (y := ⟨k, d, s, l, r⟩) ndE_len s3.1 x4 (by omega) rfl
  rw [List.set_set, List.set_set, List.set_set, List.set_set] at s4
  exact ⟨s4.1, grown_trans' (grown_trans' (grown_trans' (grown_trans' s0.2 s1.2) s2.2) s3.2) s4.2⟩

set_option maxHeartbeats 800000 in
theorem eqNodeS_yes (a b : Option Addr) (n ca cb : Nat) (cs : List Nd) (w : World) (ha : RdR ndE 5 w a n cs) (hb : RdR ndE 5 w b n cs) (h1 : n ≤ 1073741824) :
    Calls Try.prog 153 #[.slice a n ca, .slice b n cb] w fun e w' => e = .returned (.bool true) ∧ Below w.heap.size w w' := by
  go_enter Try.func153, Try.ntmps153
  go_wp2
  go_loopw [5] (fun i wr => ∃ k : Nat, k ≤ n ∧ i = .int .i64 k ∧ Below w.heap.size w wr) (fun i _ => n - (intOf i).toNat)
  case atStart => exact ⟨0, Nat.zero_le _, rfl, Below.refl _ _⟩
  case round =>
    obtain ⟨k, hk, rfl, hbw⟩ := hrel
    by_cases hlt : k < n
    · obtain ⟨b1, o1, c, rfl, hx, hc1⟩ := (ha.below hbw).at hlt
      obtain ⟨b2, o2, c', rfl, hx', hc2⟩ := (hb.below hbw).at hlt
      obtain rfl : c = c' := by rw [hx] at hx'; simpa using hx'
      obtain ⟨c0, c1, c2, c3, c4⟩ := five hc1
      obtain ⟨e0, e1, e2, e3, e4⟩ := five hc2
      clear hx hx' hc1 hc2
      obtain ⟨x, y, s, l, r⟩ := c
      simp only at c0 c1 c2 c3 c4 e0 e1 e2 e3 e4
      have hlt' : (k : Int) < (n : Int) := by omega
      go_wp2
      go_region_with (go_at_call 223; refine (eqNode_yes x y s l r _).mono ?_; rintro e w2 ⟨rfl, hb2⟩)
      all_goals
        go_wp2
        go_roundw
        case rel => exact ⟨k + 1, by omega, by go_num, hbw.drew.trans (hb2.mono hbw.size)⟩
        case measure => simp [intOf]; omega
    · go_wp2
      go_ret
      exact ⟨rfl, hbw⟩

end Go.Proofs.Ytaeolofailompaa