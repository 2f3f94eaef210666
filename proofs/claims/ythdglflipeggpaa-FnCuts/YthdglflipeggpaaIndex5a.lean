/-
  CutIndex, of the specification and of the program.
-/
import Derived.Test.YthdglflipeggpaaIndex4
namespace Go.Proofs.Ythdglflipeggpaa
open Go.RowKit
set_option linter.unusedVariables false
set_option linter.unusedSimpArgs false

/-- How many marks, from the first on, are not above s. -/
def keptN (s : Int) : List Int → Nat
  | [] => 0
  | m :: ms => if m ≤ s then keptN s ms + 1 else 0

theorem keptN_le (s : Int) (ms : List Int) : keptN s ms ≤ ms.length := by
  induction ms with
  | nil => simp [keptN]
  | cons m ms ih => simp only [keptN, List.length_cons]; split <;> omega

theorem keptN_step {s : Int} {ms : List Int} {k : Nat} (hk : k < ms.length) (h : ms.getD k 0 ≤ s) (e : keptN s ms = k + keptN s (ms.drop k)) : keptN s ms = k + 1 + keptN s (ms.drop (k + 1)) := by
  rw [e, drop_get hk, keptN, if_pos h]; omega

theorem keptN_stop {s : Int} {ms : List Int} {k : Nat} (hk : k < ms.length) (h : ¬ ms.getD k 0 ≤ s) (e : keptN s ms = k + keptN s (ms.drop k)) : keptN s ms = k := by
  rw [e, drop_get hk, keptN, if_neg h]; omega

theorem keptN_end {s : Int} {ms : List Int} {k : Nat} (hk : ms.length ≤ k) (e : keptN s ms = k + keptN s (ms.drop k)) : keptN s ms = k := by
  rw [e, List.drop_of_length_le hk, keptN]; omega

def cuCode (E : Int) (ms : List Int) (L Z s : Int) : Int := if indexFault E ms L Z ≠ 0 then indexFault E ms L Z else if s < 0 then 3 else 0
def cuE (E : Int) (ms : List Int) (L Z s : Int) : Int := if cuCode E ms L Z s = 0 then E else 0
def cuM (E : Int) (ms : List Int) (L Z s : Int) : List Int := if cuCode E ms L Z s = 0 then (if s < Z then ms.take (keptN s ms) else ms) else []
def cuL (E : Int) (ms : List Int) (L Z s : Int) : Int := if cuCode E ms L Z s = 0 then (if s < Z then (keptN s ms : Int) * E else L) else 0
def cuZ (E : Int) (ms : List Int) (L Z s : Int) : Int := if cuCode E ms L Z s = 0 then (if s < Z then aheadOf ms (keptN s ms) else Z) else 0

theorem cu_zero {E L Z s : Int} {ms : List Int} (h : cuCode E ms L Z s = 0) : indexFault E ms L Z = 0 ∧ ¬ s < 0 := by
  unfold cuCode at h
  by_cases h1 : indexFault E ms L Z = 0
  · rw [if_neg (by simpa using h1)] at h
    by_cases h2 : s < 0
    · rw [if_pos h2] at h; simp at h
    · exact ⟨h1, h2⟩
  · rw [if_pos h1] at h; exact absurd h h1

theorem cu_bad {E L Z s : Int} {ms : List Int} (h : ¬ cuCode E ms L Z s = 0) : cuE E ms L Z s = 0 ∧ cuM E ms L Z s = [] ∧ cuL E ms L Z s = 0 ∧ cuZ E ms L Z s = 0 := by
  simp [cuE, cuM, cuL, cuZ, h]

theorem cu_keep {E L Z s : Int} {ms : List Int} (h : cuCode E ms L Z s = 0) (h2 : ¬ s < Z) : cuE E ms L Z s = E ∧ cuM E ms L Z s = ms ∧ cuL E ms L Z s = L ∧ cuZ E ms L Z s = Z := by
  simp [cuE, cuM, cuL, cuZ, h, h2]

theorem cu_cut {E L Z s : Int} {ms : List Int} (h : cuCode E ms L Z s = 0) (h2 : s < Z) : cuE E ms L Z s = E ∧ cuM E ms L Z s = ms.take (keptN s ms) ∧ cuL E ms L Z s = (keptN s ms : Int) * E ∧ cuZ E ms L Z s = aheadOf ms (keptN s ms) := by
  simp [cuE, cuM, cuL, cuZ, h, h2]

theorem cuM_len (E : Int) (ms : List Int) (L Z s : Int) : (cuM E ms L Z s).length ≤ 1000 := by
  by_cases h : cuCode E ms L Z s = 0
  · obtain ⟨h1, _⟩ := cu_zero h
    obtain ⟨_, _, _, _, _, _, _, _, h3⟩ := index_ok h1
    by_cases h2 : s < Z
    · rw [(cu_cut h h2).2.1, List.length_take]; omega
    · rw [(cu_keep h h2).2.1]; omega
  · rw [(cu_bad h).2.1]; simp

/-- A row that the call owns, cut behind its first j. -/
theorem Own.first {k : IntKind} {e : TypeId} {w : World} {base n c j : Nat} {a : Option Addr} {xs : List Int} (h : Own k e w base (.slice a n c) n xs) (hj : j ≤ n) : Own k e w base (.slice a j c) j (xs.take j) := by
  have hlen := h.len
  refine ⟨by simp; omega, ?_⟩
  rcases h.2 with ⟨hv, hn⟩ | ⟨g, cap, cur, hv, hb, hg, hn, hm, hs, ht⟩
  · left
    simp at hv
    exact ⟨by rw [hv.1, hv.2.2, show j = 0 by omega], by omega⟩
  · right
    simp only [Value.slice.injEq] at hv
    obtain ⟨rfl, _, rfl⟩ := hv
    refine ⟨g, c, cur, rfl, hb, hg, by omega, hm, hs, ?_⟩
    rw [List.map_take, ← ht, List.take_take]
    congr 1
    omega

theorem keptMul {k : Nat} {E : Int} (hE1 : 1 ≤ E) (hE2 : E ≤ 9) (hk : k ≤ 400) : IntKind.i64.wrap ((k : Int) * E) = (k : Int) * E := by
  have h1 : 0 ≤ (k : Int) * E := Int.mul_nonneg (by omega) (by omega)
  have h2 : (k : Int) * E ≤ 400 * 9 := Int.mul_le_mul (by omega) hE2 (by omega) (by omega)
  rw [IntKind.wrap_i64] <;> omega

set_option maxHeartbeats 800000 in
theorem markPlace_any (p k n cv : Nat) (av : Option Addr) (ms : List Int) (w : World) (c1 : w.cell? ⟨p, 1, none⟩ = some (.slice av n cv)) (hr : Rd .i64 w av n ms) (hk : k ≤ n) (hn : n ≤ 400) :
    Calls Try.prog 68 #[.pointer (some ⟨p, 0, none⟩), .int .i64 k] w fun e w' => e = .returned (.int .i64 (aheadOf ms k)) ∧ w' = w := by
  by_cases h0 : k = 0
  · subst h0
    go_enter Try.func68, Try.ntmps68
    go_wp2
    go_ret
    exact ⟨rfl, rfl⟩
  · obtain ⟨b1, o1, rfl, hc⟩ := hr.at (show k - 1 < n by omega)
    have hk1 := hc (k - 1) (by omega)
    clear hc
    obtain ⟨j, rfl⟩ : ∃ j, k = j + 1 := ⟨k - 1, by omega⟩
    have ha := aheadOf_succ ms j
    rw [Nat.add_sub_cancel] at hk1
    have e1 : ((j + 1 : Nat) : Int) - 1 = (j : Int) := by omega
    have e2 : ¬ ((j + 1 : Nat) : Int) = 0 := by omega
    have e3 : (j : Int) < (n : Int) := by omega
    have e4 : j < n := by omega
    obtain ⟨J, hJ⟩ : ∃ J : Int, J = ((j + 1 : Nat) : Int) := ⟨_, rfl⟩
    rw [← hJ] at e1 e2 ⊢
    have hw1 : IntKind.i64.wrap (J - 1) = (j : Int) := by rw [IntKind.wrap_i64] <;> omega
    rw [ha]
    clear h0 hJ ha
    generalize ms.getD j 0 = m at *
    go_enter Try.func68, Try.ntmps68
    go_wp2
    go_ret
    exact ⟨rfl, rfl⟩

set_option maxRecDepth 20000 in
set_option maxHeartbeats 1600000 in
theorem forget_any (p lo : Nat) (E L Z s : Int) (av : Option Addr) (n cv : Nat) (ms : List Int) (w0 w : World)
    (hbl : Blk w p #[.int .i64 E, .slice av n cv, .int .i64 L, .int .i64 Z] 26) (ho : Own .i64 2 w lo (.slice av n cv) n ms) (hb : Below w0.heap.size w0 w) (hp : w0.heap.size ≤ p) (hE1 : 1 ≤ E) (hE2 : E ≤ 9) (hn : n ≤ 400) :
    Calls Try.prog 40 #[.pointer (some ⟨p, 0, none⟩), .int .i64 s] w fun e w' => ∃ r, e = .returned r ∧ Blk w' p #[.int .i64 E, .slice av (keptN s ms) cv, .int .i64 ((keptN s ms : Int) * E), .int .i64 (aheadOf ms (keptN s ms))] 26 ∧ Own .i64 2 w' lo (.slice av (keptN s ms) cv) (keptN s ms) (ms.take (keptN s ms)) ∧ Below w0.heap.size w0 w' := by
  have hlen := ho.len
  have hr := ho.read
  have hcv : n ≤ cv := by obtain ⟨a', c', hv, _, h1, h2⟩ := ho.rdc; simp at hv; omega
  have hnr := hbl.not_row (by decide) ho
  have x0 := hbl.cell 0
  have x1 := hbl.cell 1
  have x2 := hbl.cell 2
  have x3 := hbl.cell 3
  have f1 := hbl.frozen 1
  have f2 := hbl.frozen 2
  have f3 := hbl.frozen 3
  simp at x0 x1 x2 x3
  obtain ⟨K, hK⟩ : ∃ K, K = keptN s ms := ⟨_, rfl⟩
  have hKle : K ≤ n := by rw [hK, ← hlen]; exact keptN_le s ms
  rw [← hK]
  have HBL := hid hbl
  have HO := hid ho
  have HNR := hid hnr
  clear hbl ho hnr
  have hKm := keptMul hE1 hE2 (show K ≤ 400 by omega)
  go_enter Try.func40, Try.ntmps40
  go_wp2
  go_loop [4] (fun i => ∃ k : Nat, k ≤ n ∧ i = .int .i64 k ∧ K = k + keptN s (ms.drop k)) (fun i => n - (intOf i).toNat)
  case atStart => exact ⟨0, Nat.zero_le _, rfl, by simpa using hK⟩
  case round =>
    obtain ⟨k, hk, rfl, hKk⟩ := hrel
    by_cases hgo : k < n ∧ ms.getD k 0 ≤ s
    · obtain ⟨hlt, hle⟩ := hgo
      have hst := keptN_step (by omega) hle (hK.symm.trans hKk)
      obtain ⟨b1, o1, rfl, hc1⟩ := hr.at hlt
      have hk1 := hc1 k hlt
      have hlt' : (k : Int) < (n : Int) := by omega
      clear hc1 hKk
      generalize ms.getD k 0 = m at *
      go_wp2
      go_round
      case rel => exact ⟨k + 1, by omega, by go_num, hK.trans hst⟩
      case measure => simp [intOf]; omega
    · have hkK : K = k := by
        by_cases hlt : k < n
        · exact hK.trans (keptN_stop (by omega) (fun h => hgo ⟨hlt, h⟩) (hK.symm.trans hKk))
        · exact hK.trans (keptN_end (by omega) (hK.symm.trans hKk))
      subst hkK
      have s3 := HBL.out.set (i := 3) (.int .i64 (aheadOf ms K))
      have s1 := s3.set (i := 1) (.slice av K cv)
      have s2 := s1.set (i := 2) (.int .i64 ((K : Int) * E))
      have gg := grownBy_trans (setCell_grown w p 3 (.int .i64 (aheadOf ms K))) (grownBy_trans (setCell_grown _ p 1 (.slice av K cv)) (setCell_grown _ p 2 (.int .i64 ((K : Int) * E))))
      have o2 := Own.first (Own.kept HO.out gg (fun j hj e => HNR.out (by rw [hj, e]))) hKle
      have b2 : Below w0.heap.size w0 (((w.setCell ⟨p, 3, none⟩ (.int .i64 (aheadOf ms K))).setCell ⟨p, 1, none⟩ (.slice av K cv)).setCell ⟨p, 2, none⟩ (.int .i64 ((K : Int) * E))) := ((hb.setCell hp _).setCell hp _).setCell hp _
      simp only [List.setIfInBounds_toArray, List.set_cons_zero, List.set_cons_succ] at s2
      have HS2 := hid s2
      have HO2 := hid o2
      have HKK := hid hK
      have hKc : K ≤ cv := by omega
      have hKn' : (K : Int) ≤ (n : Int) := by omega
      have hKc' : (K : Int) ≤ (cv : Int) := by omega
      clear s3 s1 s2 gg o2 hKk hK
      by_cases hlt : K < n
      · obtain ⟨b1, o1, rfl, hc1⟩ := hr.at hlt
        have hk1 := hc1 K hlt
        have hlt' : (K : Int) < (n : Int) := by omega
        have hno : ¬ ms.getD K 0 ≤ s := fun h => hgo ⟨hlt, h⟩
        clear hc1 hgo
        generalize ms.getD K 0 = m at *
        go_wp2_with fail
        refine (markPlace_any p K n cv _ ms w x1 hr hk hn).mono ?_
        rintro e w1 ⟨rfl, rfl⟩
        go_wp2
        exact bodyPost_end (v := .tuple #[]) (by simp [results, Try.results40, go_sem]) rfl ⟨_, rfl, HS2.out, HO2.out, b2⟩
      · have hlt' : ¬ (K : Int) < (n : Int) := by omega
        clear hgo
        go_wp2_with fail
        refine (markPlace_any p K n cv _ ms w x1 hr hk hn).mono ?_
        rintro e w1 ⟨rfl, rfl⟩
        go_wp2
        exact bodyPost_end (v := .tuple #[]) (by simp [results, Try.results40, go_sem]) rfl ⟨_, rfl, HS2.out, HO2.out, b2⟩

set_option maxRecDepth 20000 in
set_option maxHeartbeats 1600000 in
theorem l4Cut_keep (E : Int) (a : Option Addr) (n ca : Nat) (ms : List Int) (L Z s : Int) (w : World) (ha : Rd .i64 w a n ms) (hE1 : 1 ≤ E) (hE2 : E ≤ 9) (hn : n ≤ 400) (hs : ¬ s < Z) :
    Calls Try.prog 43 #[.agg #[.int .i64 E, .slice a n ca, .int .i64 L, .int .i64 Z], .int .i64 s] w fun e w' => ∃ v, e = .returned (.agg #[.int .i64 E, v, .int .i64 L, .int .i64 Z]) ∧ Own .i64 2 w' w.heap.size v n ms ∧ Below w.heap.size w w' := by
  have hlen := ha.1
  have B2 : ∀ o1 o2, Below w.heap.size w ((w.alloc o1).alloc o2) := fun o1 o2 => ((Below.refl _ _).alloc (Nat.le_refl _) o1).alloc (by simp) o2
  have hs' : Z ≤ s := by omega
  go_enter Try.func43, Try.ntmps43
  go_wp2_with fail
  refine (l4Copy_any E a n ca ms L Z _ (ha.below (B2 _ _)) (by omega)).mono ?_
  rintro e w1 ⟨v1, rfl, ho1, hb1⟩
  have hb01 := (B2 _ _).trans (hb1.mono (by simp; omega))
  have s1 : w.heap.size + 2 ≤ w1.heap.size := by have := hb1.size; simp at this; omega
  obtain ⟨a1, c1, rfl, -⟩ := ho1.rdc
  have e3 : ∀ o, (w1.alloc o).cell? ⟨w.heap.size, 3, none⟩ = some (.int .i64 Z) := fun o => cell_later ((Below.refl _ _).alloc (Nat.le_refl _) o) (cell_later hb1 (by simp [go_sem]))
  have g0 : w1.cell? ⟨w.heap.size + 1, 0, none⟩ = some (.int .i64 0) := cell_later hb1 (by simp [go_sem])
  have gf0 : w1.frozen? ⟨w.heap.size + 1, 0, none⟩ = false := (hb1.frozen (p := ⟨w.heap.size + 1, 0, none⟩) (by simp)).trans (by simp [go_sem])
  have g1 : w1.cell? ⟨w.heap.size + 1, 1, none⟩ = some (.slice none 0 0) := cell_later hb1 (by simp [go_sem])
  have gf1 : w1.frozen? ⟨w.heap.size + 1, 1, none⟩ = false := (hb1.frozen (p := ⟨w.heap.size + 1, 1, none⟩) (by simp)).trans (by simp [go_sem])
  have g2 : w1.cell? ⟨w.heap.size + 1, 2, none⟩ = some (.int .i64 0) := cell_later hb1 (by simp [go_sem])
  have gf2 : w1.frozen? ⟨w.heap.size + 1, 2, none⟩ = false := (hb1.frozen (p := ⟨w.heap.size + 1, 2, none⟩) (by simp)).trans (by simp [go_sem])
  have g3 : w1.cell? ⟨w.heap.size + 1, 3, none⟩ = some (.int .i64 0) := cell_later hb1 (by simp [go_sem])
  have gf3 : w1.frozen? ⟨w.heap.size + 1, 3, none⟩ = false := (hb1.frozen (p := ⟨w.heap.size + 1, 3, none⟩) (by simp)).trans (by simp [go_sem])
  have HO := hid (Own.up (base' := w.heap.size + 2) ho1 (by simp))
  have NB : ∀ o, Below w1.heap.size w1 (w1.alloc o) := fun o => (Below.refl _ _).alloc (Nat.le_refl _) o
  clear ho1
  have G0 : ∀ o, (w1.alloc o).cell? ⟨w.heap.size + 1, 0, none⟩ = some (.int .i64 0) := fun o => cell_later (NB o) g0
  have GF0 : ∀ o, (w1.alloc o).frozen? ⟨w.heap.size + 1, 0, none⟩ = false := fun o => ((NB o).frozen (p := ⟨w.heap.size + 1, 0, none⟩) (show w.heap.size + 1 < w1.heap.size by omega)).trans gf0
  have G1 : ∀ o, (w1.alloc o).cell? ⟨w.heap.size + 1, 1, none⟩ = some (.slice none 0 0) := fun o => cell_later (NB o) g1
  have GF1 : ∀ o, (w1.alloc o).frozen? ⟨w.heap.size + 1, 1, none⟩ = false := fun o => ((NB o).frozen (p := ⟨w.heap.size + 1, 1, none⟩) (show w.heap.size + 1 < w1.heap.size by omega)).trans gf1
  have G2 : ∀ o, (w1.alloc o).cell? ⟨w.heap.size + 1, 2, none⟩ = some (.int .i64 0) := fun o => cell_later (NB o) g2
  have GF2 : ∀ o, (w1.alloc o).frozen? ⟨w.heap.size + 1, 2, none⟩ = false := fun o => ((NB o).frozen (p := ⟨w.heap.size + 1, 2, none⟩) (show w.heap.size + 1 < w1.heap.size by omega)).trans gf2
  have G3 : ∀ o, (w1.alloc o).cell? ⟨w.heap.size + 1, 3, none⟩ = some (.int .i64 0) := fun o => cell_later (NB o) g3
  have GF3 : ∀ o, (w1.alloc o).frozen? ⟨w.heap.size + 1, 3, none⟩ = false := fun o => ((NB o).frozen (p := ⟨w.heap.size + 1, 3, none⟩) (show w.heap.size + 1 < w1.heap.size by omega)).trans gf3
  go_wp2
  refine bodyPost_ret (v := .agg #[.int .i64 E, .slice a1 n c1, .int .i64 L, .int .i64 Z]) (by simp [results, Try.results43, go_sem, G0, G1, G2, G3]) rfl ⟨_, rfl, ?_, ?_⟩
  · exact Own.up (Own.setBelow (Own.setBelow (Own.setBelow (Own.setBelow (Own.below HO.out (NB _)) (by simp) _) (by simp) _) (by simp) _) (by simp) _) (by omega)
  · exact (((((hb01.trans ((NB _).mono hb01.size))).setCell (by simp) _).setCell (by simp) _).setCell (by simp) _).setCell (by simp) _

end Go.Proofs.Ythdglflipeggpaa
