/-
  Chapter 5: helpers of the exact laws over nodes: sizes, copies, comparisons.
-/
import Derived.Test.YtlemdjgpkmjihaaGreatNode1
import Derived.Test.YtlemdjgpkmjihaaGreatHlpCA
namespace Go.Proofs.YtlemdjgpkmjihaaGreat
open Go.RowKit
set_option linter.unusedVariables false

/-- A node as a value. -/
def ndV (n : Nd) : Value := .agg #[.int .i64 n.k, .int .i64 n.c, .string n.s, .int .i64 n.l, .int .i64 n.r]

theorem szNode_any (n : Nd) (l : Int) (w : World) (h2 : 0 ≤ l) (h3 : l ≤ 1073741824) (h4 : (n.s.size : Int) ≤ 9223372036854775807) :
    Calls Tryz.prog 45 #[.agg #[.int .i64 n.k, .int .i64 n.c, .string n.s, .int .i64 n.l, .int .i64 n.r], .int .i64 l] w fun e w' => e = .returned (.int .i64 (if l < n.s.size then -1 else l - n.s.size)) ∧ Below w.heap.size w w' := by
  have B1 : ∀ o, Below w.heap.size w (w.alloc o) := fun o => (Below.refl _ _).alloc (Nat.le_refl _) o
  by_cases h : l < n.s.size
  · rw [if_pos h]
    go_enter Tryz.func45, Tryz.ntmps45
    go_wp2
    go_ret
    exact ⟨rfl, B1 _⟩
  · rw [if_neg h]
    go_enter Tryz.func45, Tryz.ntmps45
    go_wp2
    go_ret
    exact ⟨rfl, B1 _⟩

set_option maxHeartbeats 800000 in
theorem toNode_any (k c : Int) (s : ByteArray) (l r : Int) (w : World) :
    Calls Tryz.prog 54 #[.agg #[.int .i64 k, .int .i64 c, .string s, .int .i64 l, .int .i64 r]] w fun e w' => e = .returned (.agg #[.int .i64 k, .int .i64 c, .string s, .int .i64 l, .int .i64 r]) ∧ Below w.heap.size w w' := by
  go_enter Tryz.func54, Tryz.ntmps54
  go_wp2
  refine bodyPost_ret (v := .agg #[.int .i64 k, .int .i64 c, .string s, .int .i64 l, .int .i64 r]) (by simp [results, Tryz.results54, go_sem]) rfl ⟨rfl, ?_⟩
  exact (((Below.refl _ _).alloc (Nat.le_refl _) _).alloc (by simp) _).alloc (by simp; omega) _

set_option maxHeartbeats 800000 in
theorem eqNode_yes (k c : Int) (s : ByteArray) (l r : Int) (w : World) :
    Calls Tryz.prog 69 #[.agg #[.int .i64 k, .int .i64 c, .string s, .int .i64 l, .int .i64 r], .agg #[.int .i64 k, .int .i64 c, .string s, .int .i64 l, .int .i64 r]] w fun e w' => e = .returned (.bool true) ∧ Below w.heap.size w w' := by
  go_enter Tryz.func69, Tryz.ntmps69
  go_wp2
  go_ret
  exact ⟨rfl, ((Below.refl _ _).alloc (Nat.le_refl _) _).alloc (by simp) _⟩

theorem infoN : (Tryz.prog.info? 62).map (fun i => (i.zero, i.size, i.bytes)) = some (some (.agg #[.int .i64 0, .int .i64 0, .string ⟨#[]⟩, .int .i64 0, .int .i64 0]), 5, 48) := by kernel_rfl

theorem madeN (n : Nat) : (madeCells #[Value.int .i64 0, .int .i64 0, .string ⟨#[]⟩, .int .i64 0, .int .i64 0] (n * 5)).toList = (List.replicate n nd0).flatMap ndE := by
  apply List.ext_getElem?
  intro j
  by_cases hj : j < n * 5
  · have e1 : j / 5 < n := by omega
    have h := getElem?_flatMap ndE 5 ndE_len (List.replicate n nd0) (j / 5) (j % 5) nd0 (by simp [e1]) (by omega)
    rw [show j / 5 * 5 + j % 5 = j by omega] at h
    rw [h]
    have : j % 5 = 0 ∨ j % 5 = 1 ∨ j % 5 = 2 ∨ j % 5 = 3 ∨ j % 5 = 4 := by omega
    rcases this with h | h | h | h | h <;> simp [madeCells, hj, h, ndE, nd0]
  · have h2 := length_flatMap' ndE 5 ndE_len (List.replicate n nd0)
    rw [List.getElem?_eq_none (by simp [madeCells]; omega), List.getElem?_eq_none (by rw [h2]; simp; omega)]

theorem copyN_set (cs : List Nd) (n k : Nat) (c : Nd) (h : cs.length = n) (hk : cs[k]? = some c) :
    (cs.take k ++ List.replicate (n - k) nd0).set k c = cs.take (k + 1) ++ List.replicate (n - (k + 1)) nd0 := by
  have hk' := (List.getElem?_eq_some_iff.1 hk).1
  obtain ⟨d, hd⟩ : ∃ d, n - k = d + 1 := ⟨n - k - 1, by omega⟩
  rw [hd, List.replicate_succ, set_mid _ _ (by simp; omega), List.take_add_one, hk, show n - (k + 1) = d by omega]
  simp

/-- A whole node is stored. -/
theorem storeN {e : TypeId} {w : World} {base g n cap j : Nat} {xs : List Nd} {c : Nd} (h : OwnR ndE 5 e w base (.slice (some ⟨g, 0, none⟩) n cap) n xs) (hx : xs[j]? = some c) (k d : Int) (s : ByteArray) (l r : Int) :
    OwnR ndE 5 e (((((w.setCell ⟨g, j * 5, none⟩ (.int .i64 k)).setCell ⟨g, j * 5 + 1, none⟩ (.int .i64 d)).setCell ⟨g, j * 5 + 2, none⟩ (.string s)).setCell ⟨g, j * 5 + 3, none⟩ (.int .i64 l)).setCell ⟨g, j * 5 + 4, none⟩ (.int .i64 r)) base (.slice (some ⟨g, 0, none⟩) n cap) n (xs.set j ⟨k, d, s, l, r⟩) ∧
    w.grownBy (((((w.setCell ⟨g, j * 5, none⟩ (.int .i64 k)).setCell ⟨g, j * 5 + 1, none⟩ (.int .i64 d)).setCell ⟨g, j * 5 + 2, none⟩ (.string s)).setCell ⟨g, j * 5 + 3, none⟩ (.int .i64 l)).setCell ⟨g, j * 5 + 4, none⟩ (.int .i64 r)) (some g) := by
  have hj : j < xs.length := (List.getElem?_eq_some_iff.1 hx).1
  have s0 := OwnR.store (f := 0) (u := .int .i64 k) (y := ⟨k, c.c, c.s, c.l, c.r⟩) ndE_len h hx (by omega) rfl
  have x1 : (xs.set j ⟨k, c.c, c.s, c.l, c.r⟩)[j]? = some ⟨k, c.c, c.s, c.l, c.r⟩ := by simp [hj]
  have s1 := OwnR.store (f := 1) (u := .int .i64 d) (y := ⟨k, d, c.s, c.l, c.r⟩) ndE_len s0.1 x1 (by omega) rfl
  have x2 : ((xs.set j ⟨k, c.c, c.s, c.l, c.r⟩).set j ⟨k, d, c.s, c.l, c.r⟩)[j]? = some ⟨k, d, c.s, c.l, c.r⟩ := by simp [hj]
  have s2 := OwnR.store (f := 2) (u := .string s) (y := ⟨k, d, s, c.l, c.r⟩) ndE_len s1.1 x2 (by omega) rfl
  have x3 : (((xs.set j ⟨k, c.c, c.s, c.l, c.r⟩).set j ⟨k, d, c.s, c.l, c.r⟩).set j ⟨k, d, s, c.l, c.r⟩)[j]? = some ⟨k, d, s, c.l, c.r⟩ := by simp [hj]
  have s3 := OwnR.store (f := 3) (u := .int .i64 l) (y := ⟨k, d, s, l, c.r⟩) ndE_len s2.1 x3 (by omega) rfl
  have x4 : ((((xs.set j ⟨k, c.c, c.s, c.l, c.r⟩).set j ⟨k, d, c.s, c.l, c.r⟩).set j ⟨k, d, s, c.l, c.r⟩).set j ⟨k, d, s, l, c.r⟩)[j]? = some ⟨k, d, s, l, c.r⟩ := by simp [hj]
  have s4 := OwnR.store (f := 4) (u := .int .i64 r) (y := ⟨k, d, s, l, r⟩) ndE_len s3.1 x4 (by omega) rfl
  rw [List.set_set, List.set_set, List.set_set, List.set_set] at s4
  exact ⟨s4.1, grown_trans' (grown_trans' (grown_trans' (grown_trans' s0.2 s1.2) s2.2) s3.2) s4.2⟩

end Go.Proofs.YtlemdjgpkmjihaaGreat