/-
  HlpN, HlpN2 in one text.
-/
import Derived.Test.YtaeolofailompaaNode2
import Derived.Test.YtaeolofailompaaInstM
namespace Go.Proofs.Ytaeolofailompaa
open Go.RowKit
set_option linter.unusedVariables false
set_option linter.unusedSimpArgs false

set_option maxHeartbeats 800000 in
theorem szInst_any (n : In) (l : Int) (w : World) (h2 : 0 ≤ l) (h3 : l ≤ 1073741824) (h4 : (n.s.size : Int) ≤ 9223372036854775807) :
    Calls Try.prog 156 #[.agg #[.int .i64 n.o, .int .i64 n.k, .int .i64 n.c, .string n.s, .int .i64 n.l, .int .i64 n.r, .int .i64 n.x, .int .i64 n.y], .int .i64 l] w fun e w' => e = .returned (.int .i64 (if l < n.s.size then -1 else l - n.s.size)) ∧ Below w.heap.size w w' := by
  have B1 : ∀ o, Below w.heap.size w (w.alloc o) := fun o => (Below.refl _ _).alloc (Nat.le_refl _) o
  obtain ⟨o, k, c, s, l', r, x, y⟩ := n
  have hc := fun w' => szNode_any ⟨k, c, s, l', r⟩ l w' h2 h3 h4
  simp only at hc h4 ⊢
  by_cases h : l < s.size
  · rw [if_pos h] at hc ⊢
    have HC : Hid _ := hc
    clear hc
    go_enter Try.func156, Try.ntmps156
    go_wp2_with fail
    refine (HC.out _).mono ?_
    rintro e w2 ⟨rfl, hb2⟩
    go_wp2
    go_ret
    exact ⟨rfl, (B1 _).trans (hb2.mono (B1 _).size)⟩
  · rw [if_neg h] at hc ⊢
    obtain ⟨z, hz⟩ : ∃ z, z = l - s.size := ⟨_, rfl⟩
    have hz0 : ¬ z < 0 := by omega
    rw [← hz] at hc ⊢
    have HC : Hid _ := hc
    clear hc hz h
    go_enter Try.func156, Try.ntmps156
    go_wp2_with fail
    refine (HC.out _).mono ?_
    rintro e w2 ⟨rfl, hb2⟩
    go_wp2
    go_ret
    exact ⟨rfl, (B1 _).trans (hb2.mono (B1 _).size)⟩

theorem infoIn : (Try.prog.info? 217).map (fun i => (i.zero, i.size, i.bytes)) = some (some (.agg #[.int .i64 0, .int .i64 0, .int .i64 0, .string ⟨#[]⟩, .int .i64 0, .int .i64 0, .int .i64 0, .int .i64 0]), 8, 72) := by kernel_rfl

theorem madeIn (n : Nat) : (madeCells #[Value.int .i64 0, .int .i64 0, .int .i64 0, .string ⟨#[]⟩, .int .i64 0, .int .i64 0, .int .i64 0, .int .i64 0] (n * 8)).toList = (List.replicate n in0).flatMap inE := by
  apply List.ext_getElem?
  intro j
  by_cases hj : j < n * 8
  · have e1 : j / 8 < n := by omega
    have h := getElem?_flatMap inE 8 inE_len (List.replicate n in0) (j / 8) (j % 8) in0 (by simp [e1]) (by omega)
    rw [show j / 8 * 8 + j % 8 = j by omega] at h
    rw [h]
    have : j % 8 = 0 ∨ j % 8 = 1 ∨ j % 8 = 2 ∨ j % 8 = 3 ∨ j % 8 = 4 ∨ j % 8 = 5 ∨ j % 8 = 6 ∨ j % 8 = 7 := by omega
    rcases this with h | h | h | h | h | h | h | h <;> simp [madeCells, hj, h, inE, in0]
  · have h2 := length_flatMap' inE 8 inE_len (List.replicate n in0)
    rw [List.getElem?_eq_none (by simp [madeCells]; omega), List.getElem?_eq_none (by rw [h2]; simp; omega)]

theorem copyIn_set (cs : List In) (n k : Nat) (c : In) (h : cs.length = n) (hk : cs[k]? = some c) :
    (cs.take k ++ List.replicate (n - k) in0).set k c = cs.take (k + 1) ++ List.replicate (n - (k + 1)) in0 := by
  have hk' := (List.getElem?_eq_some_iff.1 hk).1
  obtain ⟨d, hd⟩ : ∃ d, n - k = d + 1 := ⟨n - k - 1, by omega⟩
  rw [hd, List.replicate_succ, set_mid _ _ (by simp; omega), List.take_add_one, hk, show n - (k + 1) = d by omega]
  simp

/-- A whole instruction is stored. -/
theorem storeIn {e : TypeId} {w : World} {base g n cap j : Nat} {xs : List In} {i : In} (h : OwnR inE 8 e w base (.slice (some ⟨g, 0, none⟩) n cap) n xs) (hx : xs[j]? = some i) (o k c : Int) (s : ByteArray) (l r x y : Int) :
    OwnR inE 8 e ((((((((w.setCell ⟨g, j * 8, none⟩ (.int .i64 o)).setCell ⟨g, j * 8 + 1, none⟩ (.int .i64 k)).setCell ⟨g, j * 8 + 2, none⟩ (.int .i64 c)).setCell ⟨g, j * 8 + 3, none⟩ (.string s)).setCell ⟨g, j * 8 + 4, none⟩ (.int .i64 l)).setCell ⟨g, j * 8 + 5, none⟩ (.int .i64 r)).setCell ⟨g, j * 8 + 6, none⟩ (.int .i64 x)).setCell ⟨g, j * 8 + 7, none⟩ (.int .i64 y)) base (.slice (some ⟨g, 0, none⟩) n cap) n (xs.set j ⟨o, k, c, s, l, r, x, y⟩) ∧
    w.grownBy ((((((((w.setCell ⟨g, j * 8, none⟩ (.int .i64 o)).setCell ⟨g, j * 8 + 1, none⟩ (.int .i64 k)).setCell ⟨g, j * 8 + 2, none⟩ (.int .i64 c)).setCell ⟨g, j * 8 + 3, none⟩ (.string s)).setCell ⟨g, j * 8 + 4, none⟩ (.int .i64 l)).setCell ⟨g, j * 8 + 5, none⟩ (.int .i64 r)).setCell ⟨g, j * 8 + 6, none⟩ (.int .i64 x)).setCell ⟨g, j * 8 + 7, none⟩ (.int .i64 y)) (some g) := by
  have hj : j < xs.length := (List.getElem?_eq_some_iff.1 hx).1
  have s0 := OwnR.store (f := 0) (u := .int .i64 o) (y := ⟨o, i.k, i.c, i.s, i.l, i.r, i.x, i.y⟩) inE_len h hx (by omega) rfl
  have x1 : (xs.set j ⟨o, i.k, i.c, i.s, i.l, i.r, i.x, i.y⟩)[j]? = some ⟨o, i.k, i.c, i.s, i.l, i.r, i.x, i.y⟩ := by simp [hj]
  have s1 := OwnR.store (f := 1) (u := .int .i64 k) (y := ⟨o, k, i.c, i.s, i.l, i.r, i.x, i.y⟩) inE_len s0.1 x1 (by omega) rfl
  have x2 : ((xs.set j ⟨o, i.k, i.c, i.s, i.l, i.r, i.x, i.y⟩).set j ⟨o, k, i.c, i.s, i.l, i.r, i.x, i.y⟩)[j]? = some ⟨o, k, i.c, i.s, i.l, i.r, i.x, i.y⟩ := by simp [hj]
  have s2 := OwnR.store (f := 2) (u := .int .i64 c) (y := ⟨o, k, c, i.s, i.l, i.r, i.x, i.y⟩) inE_len s1.1 x2 (by omega) rfl
  have x3 : (((xs.set j ⟨o, i.k, i.c, i.s, i.l, i.r, i.x, i.y⟩).set j ⟨o, k, i.c, i.s, i.l, i.r, i.x, i.y⟩).set j ⟨o, k, c, i.s, i.l, i.r, i.x, i.y⟩)[j]? = some ⟨o, k, c, i.s, i.l, i.r, i.x, i.y⟩ := by simp [hj]
  have s3 := OwnR.store (f := 3) (u := .string s) (y := ⟨o, k, c, s, i.l, i.r, i.x, i.y⟩) inE_len s2.1 x3 (by omega) rfl
  have x4 : ((((xs.set j ⟨o, i.k, i.c, i.s, i.l, i.r, i.x, i.y⟩).set j ⟨o, k, i.c, i.s, i.l, i.r, i.x, i.y⟩).set j ⟨o, k, c, i.s, i.l, i.r, i.x, i.y⟩).set j ⟨o, k, c, s, i.l, i.r, i.x, i.y⟩)[j]? = some ⟨o, k, c, s, i.l, i.r, i.x, i.y⟩ := by simp [hj]
  have s4 := OwnR.store (f := 4) (u := .int .i64 l) (y := ⟨o, k, c, s, l, i.r, i.x, i.y⟩) inE_len s3.1 x4 (by omega) rfl
  have x5 : (((((xs.set j ⟨o, i.k, i.c, i.s, i.l, i.r, i.x, i.y⟩).set j ⟨o, k, i.c, i.s, i.l, i.r, i.x, i.y⟩).set j ⟨o, k, c, i.s, i.l, i.r, i.x, i.y⟩).set j ⟨o, k, c, s, i.l, i.r, i.x, i.y⟩).set j ⟨o, k, c, s, l, i.r, i.x, i.y⟩)[j]? = some ⟨o, k, c, s, l, i.r, i.x, i.y⟩ := by simp [hj]
  have s5 := OwnR.store (f := 5) (u := .int .i64 r) (y := ⟨o, k, c, s, l, r, i.x, i.y⟩) inE_len s4.1 x5 (by omega) rfl
  have x6 : ((((((xs.set j ⟨o, i.k, i.c, i.s, i.l, i.r, i.x, i.y⟩).set j ⟨o, k, i.c, i.s, i.l, i.r, i.x, i.y⟩).set j ⟨o, k, c, i.s, i.l, i.r, i.x, i.y⟩).set j ⟨o, k, c, s, i.l, i.r, i.x, i.y⟩).set j ⟨o, k, c, s, l, i.r, i.x, i.y⟩).set j ⟨o, k, c, s, l, r, i.x, i.y⟩)[j]? = some ⟨o, k, c, s, l, r, i.x, i.y⟩ := by simp [hj]
  have s6 := OwnR.store (f := 6) (u := .int .i64 x) (y := ⟨o, k, c, s, l, r, x, i.y⟩) inE_len s5.1 x6 (by omega) rfl
  have x7 : (((((((xs.set j ⟨o, i.k, i.c, i.s, i.l, i.r, i.x, i.y⟩).set j ⟨o, k, i.c, i.s, i.l, i.r, i.x, i.y⟩).set j ⟨o, k, c, i.s, i.l, i.r, i.x, i.y⟩).set j ⟨o, k, c, s, i.l, i.r, i.x, i.y⟩).set j ⟨o, k, c, s, l, i.r, i.x, i.y⟩).set j ⟨o, k, c, s, l, r, i.x, i.y⟩).set j ⟨o, k, c, s, l, r, x, i.y⟩)[j]? = some ⟨o, k, c, s, l, r, x, i.y⟩ := by simp [hj]
  have s7 := OwnR.store (f := 7) (u := .int .i64 y) (y := ⟨o, k, c, s, l, r, x, y⟩) inE_len s6.1 x7 (by omega) rfl
  rw [List.set_set, List.set_set, List.set_set, List.set_set, List.set_set, List.set_set, List.set_set] at s7
  exact ⟨s7.1, (grown_trans' (grown_trans' (grown_trans' (grown_trans' (grown_trans' (grown_trans' (grown_trans' s0.2 s1.2) s2.2) s3.2) s4.2) s5.2) s6.2) s7.2)⟩

set_option maxHeartbeats 1600000 in
theorem toInst_any (o k c : Int) (s : ByteArray) (l r x y : Int) (w : World) :
    Calls Try.prog 158 #[.agg #[.int .i64 o, .int .i64 k, .int .i64 c, .string s, .int .i64 l, .int .i64 r, .int .i64 x, .int .i64 y]] w fun e w' => e = .returned (.agg #[.int .i64 o, .int .i64 k, .int .i64 c, .string s, .int .i64 l, .int .i64 r, .int .i64 x, .int .i64 y]) ∧ Below w.heap.size w w' := by
  have B3 : ∀ o1 o2 o3, Below w.heap.size w (((w.alloc o1).alloc o2).alloc o3) := fun o1 o2 o3 => (((Below.refl _ _).alloc (Nat.le_refl _) o1).alloc (by simp) o2).alloc (by simp; omega) o3
  go_enter Try.func158, Try.ntmps158
  go_wp2_with fail
  refine (toNode_any k c s l r _).mono ?_
  rintro e w1 ⟨rfl, hb1⟩
  have q0 : w1.cell? ⟨w.heap.size, 0, none⟩ = some (.int .i64 o) := cell_later hb1 (by simp [go_sem])
  have q1 : w1.cell? ⟨w.heap.size, 1, none⟩ = some (.int .i64 k) := cell_later hb1 (by simp [go_sem])
  have q2 : w1.cell? ⟨w.heap.size, 2, none⟩ = some (.int .i64 c) := cell_later hb1 (by simp [go_sem])
  have q3 : w1.cell? ⟨w.heap.size, 3, none⟩ = some (.string s) := cell_later hb1 (by simp [go_sem])
  have q4 : w1.cell? ⟨w.heap.size, 4, none⟩ = some (.int .i64 l) := cell_later hb1 (by simp [go_sem])
  have q5 : w1.cell? ⟨w.heap.size, 5, none⟩ = some (.int .i64 r) := cell_later hb1 (by simp [go_sem])
  have q6 : w1.cell? ⟨w.heap.size, 6, none⟩ = some (.int .i64 x) := cell_later hb1 (by simp [go_sem])
  have q7 : w1.cell? ⟨w.heap.size, 7, none⟩ = some (.int .i64 y) := cell_later hb1 (by simp [go_sem])
  have d0 : w1.cell? ⟨w.heap.size + 1 + 1, 0, none⟩ = some (.int .i64 o) := cell_later hb1 (by simp [go_sem])
  have df0 : w1.frozen? ⟨w.heap.size + 1 + 1, 0, none⟩ = false := (hb1.frozen (p := ⟨w.heap.size + 1 + 1, 0, none⟩) (by simp)).trans (by simp [go_sem])
  have d1 : w1.cell? ⟨w.heap.size + 1 + 1, 1, none⟩ = some (.int .i64 0) := cell_later hb1 (by simp [go_sem])
  have df1 : w1.frozen? ⟨w.heap.size + 1 + 1, 1, none⟩ = false := (hb1.frozen (p := ⟨w.heap.size + 1 + 1, 1, none⟩) (by simp)).trans (by simp [go_sem])
  have d2 : w1.cell? ⟨w.heap.size + 1 + 1, 2, none⟩ = some (.int .i64 0) := cell_later hb1 (by simp [go_sem])
  have df2 : w1.frozen? ⟨w.heap.size + 1 + 1, 2, none⟩ = false := (hb1.frozen (p := ⟨w.heap.size + 1 + 1, 2, none⟩) (by simp)).trans (by simp [go_sem])
  have d3 : w1.cell? ⟨w.heap.size + 1 + 1, 3, none⟩ = some (.string ⟨#[]⟩) := cell_later hb1 (by simp [go_sem])
  have df3 : w1.frozen? ⟨w.heap.size + 1 + 1, 3, none⟩ = false := (hb1.frozen (p := ⟨w.heap.size + 1 + 1, 3, none⟩) (by simp)).trans (by simp [go_sem])
  have d4 : w1.cell? ⟨w.heap.size + 1 + 1, 4, none⟩ = some (.int .i64 0) := cell_later hb1 (by simp [go_sem])
  have df4 : w1.frozen? ⟨w.heap.size + 1 + 1, 4, none⟩ = false := (hb1.frozen (p := ⟨w.heap.size + 1 + 1, 4, none⟩) (by simp)).trans (by simp [go_sem])
  have d5 : w1.cell? ⟨w.heap.size + 1 + 1, 5, none⟩ = some (.int .i64 0) := cell_later hb1 (by simp [go_sem])
  have df5 : w1.frozen? ⟨w.heap.size + 1 + 1, 5, none⟩ = false := (hb1.frozen (p := ⟨w.heap.size + 1 + 1, 5, none⟩) (by simp)).trans (by simp [go_sem])
  have d6 : w1.cell? ⟨w.heap.size + 1 + 1, 6, none⟩ = some (.int .i64 0) := cell_later hb1 (by simp [go_sem])
  have df6 : w1.frozen? ⟨w.heap.size + 1 + 1, 6, none⟩ = false := (hb1.frozen (p := ⟨w.heap.size + 1 + 1, 6, none⟩) (by simp)).trans (by simp [go_sem])
  have d7 : w1.cell? ⟨w.heap.size + 1 + 1, 7, none⟩ = some (.int .i64 0) := cell_later hb1 (by simp [go_sem])
  have df7 : w1.frozen? ⟨w.heap.size + 1 + 1, 7, none⟩ = false := (hb1.frozen (p := ⟨w.heap.size + 1 + 1, 7, none⟩) (by simp)).trans (by simp [go_sem])
  have g0 : w1.cell? ⟨w.heap.size + 1, 0, none⟩ = some (.int .i64 0) := cell_later hb1 (by simp [go_sem])
  have gf0 : w1.frozen? ⟨w.heap.size + 1, 0, none⟩ = false := (hb1.frozen (p := ⟨w.heap.size + 1, 0, none⟩) (by simp)).trans (by simp [go_sem])
  have g1 : w1.cell? ⟨w.heap.size + 1, 1, none⟩ = some (.int .i64 0) := cell_later hb1 (by simp [go_sem])
  have gf1 : w1.frozen? ⟨w.heap.size + 1, 1, none⟩ = false := (hb1.frozen (p := ⟨w.heap.size + 1, 1, none⟩) (by simp)).trans (by simp [go_sem])
  have g2 : w1.cell? ⟨w.heap.size + 1, 2, none⟩ = some (.int .i64 0) := cell_later hb1 (by simp [go_sem])
  have gf2 : w1.frozen? ⟨w.heap.size + 1, 2, none⟩ = false := (hb1.frozen (p := ⟨w.heap.size + 1, 2, none⟩) (by simp)).trans (by simp [go_sem])
  have g3 : w1.cell? ⟨w.heap.size + 1, 3, none⟩ = some (.string ⟨#[]⟩) := cell_later hb1 (by simp [go_sem])
  have gf3 : w1.frozen? ⟨w.heap.size + 1, 3, none⟩ = false := (hb1.frozen (p := ⟨w.heap.size + 1, 3, none⟩) (by simp)).trans (by simp [go_sem])
  have g4 : w1.cell? ⟨w.heap.size + 1, 4, none⟩ = some (.int .i64 0) := cell_later hb1 (by simp [go_sem])
  have gf4 : w1.frozen? ⟨w.heap.size + 1, 4, none⟩ = false := (hb1.frozen (p := ⟨w.heap.size + 1, 4, none⟩) (by simp)).trans (by simp [go_sem])
  have g5 : w1.cell? ⟨w.heap.size + 1, 5, none⟩ = some (.int .i64 0) := cell_later hb1 (by simp [go_sem])
  have gf5 : w1.frozen? ⟨w.heap.size + 1, 5, none⟩ = false := (hb1.frozen (p := ⟨w.heap.size + 1, 5, none⟩) (by simp)).trans (by simp [go_sem])
  have g6 : w1.cell? ⟨w.heap.size + 1, 6, none⟩ = some (.int .i64 0) := cell_later hb1 (by simp [go_sem])
  have gf6 : w1.frozen? ⟨w.heap.size + 1, 6, none⟩ = false := (hb1.frozen (p := ⟨w.heap.size + 1, 6, none⟩) (by simp)).trans (by simp [go_sem])
  have g7 : w1.cell? ⟨w.heap.size + 1, 7, none⟩ = some (.int .i64 0) := cell_later hb1 (by simp [go_sem])
  have gf7 : w1.frozen? ⟨w.heap.size + 1, 7, none⟩ = false := (hb1.frozen (p := ⟨w.heap.size + 1, 7, none⟩) (by simp)).trans (by simp [go_sem])
  have z1 : w.heap.size + 1 + 1 < w1.heap.size := by have := hb1.size; simp at this; omega
  have hb01 : Below w.heap.size w w1 := (B3 _ _ _).trans (hb1.mono (by simp; omega))
  have S1 : ∀ (W : World) (b i : Nat) (x : Value), w.heap.size ≤ b → Below w.heap.size w W → Below w.heap.size w (W.setCell ⟨b, i, none⟩ x) := fun W b i x hb h => h.setCell hb x
  clear hb1
  go_wp2
  refine bodyPost_ret (v := .agg #[.int .i64 o, .int .i64 k, .int .i64 c, .string s, .int .i64 l, .int .i64 r, .int .i64 x, .int .i64 y]) (by simp [results, Try.results158, go_sem, g0, g1, g2, g3, g4, g5, g6, g7]) rfl ⟨rfl, ?_⟩
  repeat refine S1 _ _ _ _ (by omega) ?_
  exact hb01

set_option maxHeartbeats 1600000 in
theorem eqInst_yes (o k c : Int) (s : ByteArray) (l r x y : Int) (w : World) :
    Calls Try.prog 160 #[.agg #[.int .i64 o, .int .i64 k, .int .i64 c, .string s, .int .i64 l, .int .i64 r, .int .i64 x, .int .i64 y], .agg #[.int .i64 o, .int .i64 k, .int .i64 c, .string s, .int .i64 l, .int .i64 r, .int .i64 x, .int .i64 y]] w fun e w' => e = .returned (.bool true) ∧ Below w.heap.size w w' := by
  have B2 : ∀ o1 o2, Below w.heap.size w ((w.alloc o1).alloc o2) := fun o1 o2 => ((Below.refl _ _).alloc (Nat.le_refl _) o1).alloc (by simp) o2
  go_enter Try.func160, Try.ntmps160
  go_wp2_with fail
  refine (eqNode_yes k c s l r _).mono ?_
  rintro e w1 ⟨rfl, hb1⟩
  have q0 : w1.cell? ⟨w.heap.size, 0, none⟩ = some (.int .i64 o) := cell_later hb1 (by simp [go_sem])
  have q1 : w1.cell? ⟨w.heap.size, 1, none⟩ = some (.int .i64 k) := cell_later hb1 (by simp [go_sem])
  have q2 : w1.cell? ⟨w.heap.size, 2, none⟩ = some (.int .i64 c) := cell_later hb1 (by simp [go_sem])
  have q3 : w1.cell? ⟨w.heap.size, 3, none⟩ = some (.string s) := cell_later hb1 (by simp [go_sem])
  have q4 : w1.cell? ⟨w.heap.size, 4, none⟩ = some (.int .i64 l) := cell_later hb1 (by simp [go_sem])
  have q5 : w1.cell? ⟨w.heap.size, 5, none⟩ = some (.int .i64 r) := cell_later hb1 (by simp [go_sem])
  have q6 : w1.cell? ⟨w.heap.size, 6, none⟩ = some (.int .i64 x) := cell_later hb1 (by simp [go_sem])
  have q7 : w1.cell? ⟨w.heap.size, 7, none⟩ = some (.int .i64 y) := cell_later hb1 (by simp [go_sem])
  have d0 : w1.cell? ⟨w.heap.size + 1, 0, none⟩ = some (.int .i64 o) := cell_later hb1 (by simp [go_sem])
  have d1 : w1.cell? ⟨w.heap.size + 1, 1, none⟩ = some (.int .i64 k) := cell_later hb1 (by simp [go_sem])
  have d2 : w1.cell? ⟨w.heap.size + 1, 2, none⟩ = some (.int .i64 c) := cell_later hb1 (by simp [go_sem])
  have d3 : w1.cell? ⟨w.heap.size + 1, 3, none⟩ = some (.string s) := cell_later hb1 (by simp [go_sem])
  have d4 : w1.cell? ⟨w.heap.size + 1, 4, none⟩ = some (.int .i64 l) := cell_later hb1 (by simp [go_sem])
  have d5 : w1.cell? ⟨w.heap.size + 1, 5, none⟩ = some (.int .i64 r) := cell_later hb1 (by simp [go_sem])
  have d6 : w1.cell? ⟨w.heap.size + 1, 6, none⟩ = some (.int .i64 x) := cell_later hb1 (by simp [go_sem])
  have d7 : w1.cell? ⟨w.heap.size + 1, 7, none⟩ = some (.int .i64 y) := cell_later hb1 (by simp [go_sem])
  have hb01 : Below w.heap.size w w1 := (B2 _ _).trans (hb1.mono (by simp; omega))
  clear hb1
  go_wp2
  go_ret
  exact ⟨rfl, hb01⟩

set_option maxHeartbeats 1600000 in
theorem toInstS_any (a : Option Addr) (n ca : Nat) (cs : List In) (w : World) (ha : RdR inE 8 w a n cs) (h1 : n ≤ 1073741824) :
    Calls Try.prog 69 #[.slice a n ca] w fun e w' => ∃ v, e = .returned v ∧ OwnR inE 8 217 w' w.heap.size v n cs ∧ Below w.heap.size w w' := by
  obtain ⟨i0, hi, hz0, hz1, hz2⟩ := info_parts infoIn
  have hlen := ha.1
  go_enter Try.func69, Try.ntmps69
  go_wp2_with (at_make; refine wpList_make_full _ rfl _ _ 59 rfl w.heap.size 217 i0 (.agg #[.int .i64 0, .int .i64 0, .int .i64 0, .string ⟨#[]⟩, .int .i64 0, .int .i64 0, .int .i64 0, .int .i64 0]) 8 Try.underlying59 hi hz0 hz1 _ _ _ _ n rfl rfl rfl rfl (by rw [hz2]; omega) (by unfold maxLen; omega) (Nat.le_refl _) ?_)
  intro w1 hown1 hgrow1
  have ho1 : OwnR inE 8 217 w1 w.heap.size (.slice (some ⟨w.heap.size, 0, none⟩) n n) n (List.replicate n in0) := by
    refine ⟨by simp, ?_⟩
    rw [← madeIn]
    simpa [Value.cells] using hown1
  have hb1 : Below w.heap.size w w1 := (Below.refl _ _).grown hgrow1 (Nat.le_refl _) (by simp)
  clear hown1 hgrow1
  go_wp2
  go_loopw [4] (fun i wr => ∃ k : Nat, k ≤ n ∧ i = .int .i64 k ∧ OwnR inE 8 217 wr w.heap.size (.slice (some ⟨w.heap.size, 0, none⟩) n n) n (cs.take k ++ List.replicate (n - k) in0) ∧ Below w.heap.size w wr ∧ w.heap.size < wr.heap.size) (fun i _ => n - (intOf i).toNat)
  case atStart => exact ⟨0, Nat.zero_le _, rfl, by simpa using ho1, hb1, (ho1.lt w.heap.size rfl).2⟩
  case round =>
    obtain ⟨q, hq, rfl, ho, hb, hz⟩ := hrel
    by_cases hlt : q < n
    · obtain ⟨b1, o1, ci, rfl, hx, hc1⟩ := (ha.below hb).at hlt
      obtain ⟨c0, c1, c2, c3, c4, c5, c6, c7⟩ := eight hc1
      have HX : Hid _ := hx
      clear hx hc1
      obtain ⟨o, k, c, s, l, r, x, y⟩ := ci
      simp only at c0 c1 c2 c3 c4 c5 c6 c7
      have hlt' : (q : Int) < (n : Int) := by omega
      go_wp2_with fail
      refine (toInst_any o k c s l r x y _).mono ?_
      rintro e w2 ⟨rfl, hb2⟩
      have ho2 := ho.below hb2
      have hold : (cs.take q ++ List.replicate (n - q) in0)[q]? = some in0 := by
        have hl : (cs.take q).length = q := by simp; omega
        rw [List.getElem?_append_right (by omega), hl, Nat.sub_self, List.getElem?_replicate, if_pos (by omega)]
      have d0 := OwnR.cell (f := 0) inE_len ho2 hold rfl
      have d1 := OwnR.cell (f := 1) inE_len ho2 hold rfl
      have d2 := OwnR.cell (f := 2) inE_len ho2 hold rfl
      have d3 := OwnR.cell (f := 3) inE_len ho2 hold rfl
      have d4 := OwnR.cell (f := 4) inE_len ho2 hold rfl
      have d5 := OwnR.cell (f := 5) inE_len ho2 hold rfl
      have d6 := OwnR.cell (f := 6) inE_len ho2 hold rfl
      have d7 := OwnR.cell (f := 7) inE_len ho2 hold rfl
      have f0 := ho2.frozen (q * 8)
      have f1 := ho2.frozen (q * 8 + 1)
      have f2 := ho2.frozen (q * 8 + 2)
      have f3 := ho2.frozen (q * 8 + 3)
      have f4 := ho2.frozen (q * 8 + 4)
      have f5 := ho2.frozen (q * 8 + 5)
      have f6 := ho2.frozen (q * 8 + 6)
      have f7 := ho2.frozen (q * 8 + 7)
      rw [Nat.add_zero] at d0
      have hst := storeIn ho2 hold o k c s l r x y
      rw [copyIn_set cs n q _ hlen HX.out] at hst
      have HS : Hid _ := hst
      have hb02 : Below w.heap.size w w2 := hb.trans (hb2.mono hb.size)
      have hz2 : w.heap.size < w2.heap.size := by have := hb2.size; omega
      clear hst ho2 ho hold hb hb2
      go_wp2
      go_roundw
      case rel => exact ⟨q + 1, by omega, by go_num, HS.out.1, (((((((hb02.setCell (Nat.le_refl _) _).setCell (Nat.le_refl _) _).setCell (Nat.le_refl _) _).setCell (Nat.le_refl _) _).setCell (Nat.le_refl _) _).setCell (Nat.le_refl _) _).setCell (Nat.le_refl _) _).setCell (Nat.le_refl _) _, by simpa [World.setCell] using hz2⟩
      case measure => simp [intOf]; omega
    · go_wp2
      go_ret
      obtain rfl : q = n := by omega
      refine ⟨_, rfl, ?_, hb⟩
      rw [List.take_of_length_le (by omega), Nat.sub_self, List.replicate_zero, List.append_nil] at ho
      exact ho

set_option maxHeartbeats 800000 in
theorem eqInstS_yes (a b : Option Addr) (n ca cb : Nat) (cs : List In) (w : World) (ha : RdR inE 8 w a n cs) (hb : RdR inE 8 w b n cs) (h1 : n ≤ 1073741824) :
    Calls Try.prog 72 #[.slice a n ca, .slice b n cb] w fun e w' => e = .returned (.bool true) ∧ Below w.heap.size w w' := by
  go_enter Try.func72, Try.ntmps72
  go_wp2
  go_loopw [5] (fun i wr => ∃ k : Nat, k ≤ n ∧ i = .int .i64 k ∧ Below w.heap.size w wr) (fun i _ => n - (intOf i).toNat)
  case atStart => exact ⟨0, Nat.zero_le _, rfl, Below.refl _ _⟩
  case round =>
    obtain ⟨q, hq, rfl, hbw⟩ := hrel
    by_cases hlt : q < n
    · obtain ⟨b1, o1, ci, rfl, hx, hc1⟩ := (ha.below hbw).at hlt
      obtain ⟨b2, o2, ci', rfl, hx', hc2⟩ := (hb.below hbw).at hlt
      obtain rfl : ci = ci' := by rw [hx] at hx'; simpa using hx'
      obtain ⟨c0, c1, c2, c3, c4, c5, c6, c7⟩ := eight hc1
      obtain ⟨e0, e1, e2, e3, e4, e5, e6, e7⟩ := eight hc2
      clear hx hx' hc1 hc2
      obtain ⟨o, k, c, s, l, r, x, y⟩ := ci
      simp only at c0 c1 c2 c3 c4 c5 c6 c7 e0 e1 e2 e3 e4 e5 e6 e7
      have hlt' : (q : Int) < (n : Int) := by omega
      go_wp2
      go_region_with (go_at_call 160; refine (eqInst_yes o k c s l r x y _).mono ?_; rintro e w2 ⟨rfl, hb2⟩)
      all_goals
        go_wp2
        go_roundw
        case rel => exact ⟨q + 1, by omega, by go_num, hbw.drew.trans (hb2.mono hbw.size)⟩
        case measure => simp [intOf]; omega
    · go_wp2
      go_ret
      exact ⟨rfl, hbw⟩

set_option maxHeartbeats 400000 in
theorem szInstS_any (a : Option Addr) (n ca : Nat) (cs : List In) (l : Int) (w : World) (ha : RdR inE 8 w a n cs) (hsz : ∀ y ∈ cs, y.s.size ≤ maxLen) (h1 : n ≤ maxLen) (h2 : 0 ≤ l) (h3 : l ≤ 1073741824) :
    Calls Try.prog 67 #[.slice a n ca, .int .i64 l] w fun e w' => e = .returned (.int .i64 (if l < (n : Int) + inSum cs then -1 else l - n - inSum cs)) ∧ Below w.heap.size w w' := by
  have hlen := ha.1
  obtain ⟨R, hR⟩ : ∃ R, R = (if l < (n : Int) + inSum cs then -1 else l - n - inSum cs) := ⟨_, rfl⟩
  rw [← hR]
  have HR : Hid _ := hR
  have HS : Hid _ := hsz
  have HL : Hid _ := hlen
  clear hR hsz hlen
  unfold maxLen at h1
  by_cases h : l < n
  · go_enter Try.func67, Try.ntmps67
    go_wp2
    go_ret
    exact ⟨ret_int (by rw [HR.out, if_pos (by omega)]), Below.refl _ _⟩
  · have h' : (n : Int) ≤ l := by omega
    clear h
    go_enter Try.func67, Try.ntmps67
    go_wp2
    go_loopw [1, 5] (fun x i wr => ∃ (k : Nat) (z : Int), k ≤ n ∧ i = .int .i64 k ∧ x = .int .i64 z ∧ z = l - n - inSum (cs.take k) ∧ 0 ≤ z ∧ z ≤ 1073741824 ∧ Below w.heap.size w wr) (fun _ i _ => n - (intOf i).toNat)
    case atStart => exact ⟨0, l - n, Nat.zero_le _, rfl, rfl, by simp [inSum], by omega, by omega, Below.refl _ _⟩
    case round =>
      obtain ⟨k, z, hk, rfl, rfl, hz, hz0, hz1, hbw⟩ := hrel
      have HZ : Hid _ := hz
      clear hz
      by_cases hlt : k < n
      · obtain ⟨b1, o1, c, rfl, hx, hc1⟩ := (ha.below hbw).at hlt
        obtain ⟨c0, c1, c2, c3, c4, c5, c6, c7⟩ := eight hc1
        have HX : Hid _ := hx
        have hm := HS.out c (List.mem_of_getElem? hx)
        clear hx hc1
        have hlt' : (k : Int) < (n : Int) := by omega
        have hcz := fun w' => szInst_any c z w' hz0 hz1 (by unfold maxLen at hm; omega)
        clear hm
        by_cases hs : z < c.s.size
        · rw [if_pos hs] at hcz
          have HC : Hid _ := hcz
          clear hcz
          have HS2 : Hid _ := hs
          clear hs
          obtain ⟨o, k', c', s, l', r, x, y⟩ := c
          simp only at c0 c1 c2 c3 c4 c5 c6 c7 HC HS2
          go_wp2_with fail
          refine (HC.out _).mono ?_
          rintro e w2 ⟨rfl, hb2⟩
          go_wp2
          go_ret
          refine ⟨ret_int ?_, hbw.trans (hb2.mono hbw.size)⟩
          have h5 := inSum_succ HX.out
          have h6 := inSum_take cs (k + 1)
          have h7 := HZ.out
          have h8 := HS2.out
          simp only at h5 h8
          rw [HR.out, if_pos (by omega)]
        · rw [if_neg hs] at hcz
          have HC : Hid _ := hcz
          clear hcz
          obtain ⟨zz, hzz⟩ : ∃ zz, zz = z - c.s.size := ⟨_, rfl⟩
          have hzz0 : 0 ≤ zz := by omega
          have hzz1 : zz ≤ 1073741824 := by omega
          have h5 : Hid _ := inSum_succ HX.out
          have HZZ : Hid (zz = z - c.s.size) := hzz
          rw [← hzz] at HC
          clear hs hzz
          obtain ⟨o, k', c', s, l', r, x, y⟩ := c
          simp only at c0 c1 c2 c3 c4 c5 c6 c7 HC HZZ h5
          go_wp2_with fail
          refine (HC.out _).mono ?_
          rintro e w2 ⟨rfl, hb2⟩
          go_wp2
          go_roundw
          case rel =>
            refine ⟨k + 1, zz, by omega, by go_num, rfl, ?_, hzz0, hzz1, hbw.trans (hb2.mono hbw.size)⟩
            have h7 := HZ.out
            have h8 := HZZ.out
            have h9 := h5.out
            omega
          case measure => simp [intOf]; omega
      · go_wp2
        go_ret
        refine ⟨ret_int ?_, hbw⟩
        have h7 := HZ.out
        have h8 := HL.out
        obtain rfl : k = n := by omega
        rw [List.take_of_length_le (by omega)] at h7
        rw [HR.out, if_neg (by omega)]
        exact h7
end Go.Proofs.Ytaeolofailompaa

namespace Go.Proofs.Ytaeolofailompaa
open Go.RowKit
set_option linter.unusedVariables false

theorem toInstS_row (a : Option Addr) (n ca : Nat) (cs : List In) (w : World) (ha : RdR inE 8 w a n cs) (h1 : n ≤ 1073741824) :
    Calls Try.prog 69 #[.slice a n ca] w fun e w' => ∃ v, e = .returned v ∧ RowS inE 8 217 w' w.heap.size w'.heap.size v n cs ∧ Below w.heap.size w w' :=
  (toInstS_any a n ca cs w ha h1).mono fun e w' ⟨v, he, ho, hb⟩ => ⟨v, he, RowS.of ho, hb⟩
end Go.Proofs.Ytaeolofailompaa
