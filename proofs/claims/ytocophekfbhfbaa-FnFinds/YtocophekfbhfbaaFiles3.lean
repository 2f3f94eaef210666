/-
  Contracts of CutFile and ReadPart, the specification's and the program's.
-/
import Derived.Test.YtocophekfbhfbaaFiles2
namespace Go.Proofs.Ytocophekfbhfbaa
open Go.RowKit
set_option linter.unusedVariables false

/-- A cut of what is read. -/
theorem Rd.cut {k : IntKind} {w : World} {a : Option Addr} {n : Nat} {xs : List Int} (h : Rd k w a n xs) (i m : Nat) (hm : i + m ≤ n) (b : Option Addr) (hb : 0 < m → ∀ g off, a = some ⟨g, off, none⟩ → b = some ⟨g, off + i, none⟩) : Rd k w b m ((xs.drop i).take m) := by
  have hl := h.1
  refine ⟨by simp; omega, ?_⟩
  by_cases h0 : m = 0
  · exact .inl h0
  · rcases h.2 with h2 | ⟨g, off, ha, hc⟩
    · omega
    · refine .inr ⟨g, off + i, hb (by omega) g off ha, fun j hj => ?_⟩
      rw [Nat.add_assoc, hc (i + j) (by omega)]
      simp [List.getD_eq_getElem?_getD, hj]

theorem below_drewT (w w' : World) (q : Nat) (h : Below w.heap.size w w') : Below w.heap.size w (w'.drewN q) := below_drewN h q

set_option maxHeartbeats 1600000 in
theorem implCutFile_any (a : Option Addr) (n ca : Nat) (I : Int) (xs : List Int) (w : World) (ha : Rd .u8 w a n xs) (h1 : n ≤ 1073741824) (hca : n ≤ ca) (hcm : ca ≤ maxLen) :
    Calls Try.prog 20 #[.agg #[.slice a n ca], .int .i64 I] w fun e w' => ∃ v, e = .returned (.agg #[.int .i64 (cutCode xs I), v]) ∧ RowI .u8 5 w' w.heap.size w'.heap.size v (cutRes xs I).length (cutRes xs I) ∧ Below w.heap.size w w' := by
  have hlen := ha.1
  unfold maxLen at hcm
  have hbt := below_two w
  by_cases hf : 400 < n
  · have e0 : cutCode xs I = 2 := by unfold cutCode; rw [if_pos (by omega)]
    have e2 : cutRes xs I = [] := by unfold cutRes; rw [if_neg (by omega)]
    have e3 : fFault n = 2 := by unfold fFault; rw [if_pos hf]
    rw [e0, e2]
    clear e0 e2 hlen
    go_enter Try.func20, Try.ntmps20
    go_wp2_with fail
    refine (implFileFault_any a n ca _ h1).mono ?_
    rw [e3]
    rintro e w1 ⟨rfl, hb1⟩
    have d0 : w1.cell? ⟨w.heap.size + 1, 0, none⟩ = some (.int .i64 0) := cell_later hb1 (by simp [go_sem])
    have df0 : w1.frozen? ⟨w.heap.size + 1, 0, none⟩ = false := (hb1.frozen (p := ⟨w.heap.size + 1, 0, none⟩) (by simp)).trans (by simp [go_sem])
    have d1 : w1.cell? ⟨w.heap.size + 1, 1, none⟩ = some (.slice none 0 0) := cell_later hb1 (by simp [go_sem])
    have df1 : w1.frozen? ⟨w.heap.size + 1, 1, none⟩ = false := (hb1.frozen (p := ⟨w.heap.size + 1, 1, none⟩) (by simp)).trans (by simp [go_sem])
    have c0 : w1.cell? ⟨w.heap.size, 0, none⟩ = some (.slice a n ca) := cell_later hb1 (by simp [go_sem])
    have z1 : w.heap.size + 1 < w1.heap.size := by have := hb1.size; simp at this; omega
    have hb01 := (hbt _ _).trans (hb1.mono (by simp; omega))
    clear hb1 e3
    go_wp2
    exact bodyPost_ret (v := .agg #[.int .i64 2, .slice none 0 0]) (by simp [results, Try.results20, go_sem, d0, d1]) rfl ⟨_, rfl, RowI.nil _ _ _ _ _, (hb01.setCell (by simp) _).setCell (by simp) _⟩
  · have e3 : fFault n = 0 := by unfold fFault; rw [if_neg hf]
    by_cases hI : 0 ≤ I ∧ I ≤ (n : Int)
    · have e0 : cutCode xs I = 0 := by unfold cutCode; rw [if_neg (by omega), if_neg (by omega)]
      obtain ⟨i, rfl⟩ : ∃ i : Nat, I = (i : Int) := ⟨I.toNat, by omega⟩
      have hi : i ≤ n := by omega
      have e2 : cutRes xs i = xs.take i := by unfold cutRes; rw [if_pos e0]; simp
      have e4 : (xs.take i).length = i := by simp; omega
      have hi0 : ¬ (i : Int) < 0 := by omega
      have hin : ¬ (n : Int) < (i : Int) := by omega
      have hic : i ≤ ca := by omega
      have hr : ∀ w', Rd .u8 w' a n xs → Rd .u8 w' a i (xs.take i) := fun w' h => by simpa using h.cut 0 i (by omega) a (fun _ g off h => by simpa using h)
      rw [e0, e2, e4]
      have HR : Hid _ := hr
      clear e0 e2 e4 hlen hI hr
      go_enter Try.func20, Try.ntmps20
      go_wp2_with fail
      refine (implFileFault_any a n ca _ h1).mono ?_
      rw [e3]
      rintro e w1 ⟨rfl, hb1⟩
      have d0 : w1.cell? ⟨w.heap.size + 1, 0, none⟩ = some (.int .i64 0) := cell_later hb1 (by simp [go_sem])
      have df0 : w1.frozen? ⟨w.heap.size + 1, 0, none⟩ = false := (hb1.frozen (p := ⟨w.heap.size + 1, 0, none⟩) (by simp)).trans (by simp [go_sem])
      have d1 : w1.cell? ⟨w.heap.size + 1, 1, none⟩ = some (.slice none 0 0) := cell_later hb1 (by simp [go_sem])
      have df1 : w1.frozen? ⟨w.heap.size + 1, 1, none⟩ = false := (hb1.frozen (p := ⟨w.heap.size + 1, 1, none⟩) (by simp)).trans (by simp [go_sem])
      have c0 : w1.cell? ⟨w.heap.size, 0, none⟩ = some (.slice a n ca) := cell_later hb1 (by simp [go_sem])
      have z1 : w.heap.size + 1 < w1.heap.size := by have := hb1.size; simp at this; omega
      have hb01 := (hbt _ _).trans (hb1.mono (by simp; omega))
      clear hb1 e3
      go_wp2_with fail
      refine (copied_any a i ca (xs.take i) _ (HR.out _ (ha.below hb01)) (by omega)).mono ?_
      rintro e w2 ⟨v2, rfl, ho2, hb2⟩
      obtain ⟨av, cv, rfl, _⟩ := ho2.shape
      have g0 := cell_later hb2 d0
      have g1 := cell_later hb2 d1
      have k0 := (hb2.frozen (p := ⟨w.heap.size + 1, 0, none⟩) z1).trans df0
      have k1 := (hb2.frozen (p := ⟨w.heap.size + 1, 1, none⟩) z1).trans df1
      have hb02 := hb01.trans (hb2.mono hb01.size)
      clear d0 d1 df0 df1 c0 hb2
      go_wp2
      exact bodyPost_ret (v := .agg #[.int .i64 0, .slice av i cv]) (by simp [results, Try.results20, go_sem, g0, g1]) rfl ⟨_, rfl, RowI.mono (RowI.of ((ho2.1.setBelow (by simp; omega) _).setBelow (by simp; omega) _)) (by omega) (Nat.le_refl _), (hb02.setCell (by simp) _).setCell (by simp) _⟩
    · have e0 : cutCode xs I = 3 := by unfold cutCode; rw [if_neg (by omega), if_pos (by omega)]
      have e2 : cutRes xs I = [] := by unfold cutRes; rw [if_neg (by omega)]
      rw [e0, e2]
      clear e0 e2 hlen
      by_cases hI0 : I < 0
      · clear hI
        go_enter Try.func20, Try.ntmps20
        go_wp2_with fail
        refine (implFileFault_any a n ca _ h1).mono ?_
        rw [e3]
        rintro e w1 ⟨rfl, hb1⟩
        have d0 : w1.cell? ⟨w.heap.size + 1, 0, none⟩ = some (.int .i64 0) := cell_later hb1 (by simp [go_sem])
        have df0 : w1.frozen? ⟨w.heap.size + 1, 0, none⟩ = false := (hb1.frozen (p := ⟨w.heap.size + 1, 0, none⟩) (by simp)).trans (by simp [go_sem])
        have d1 : w1.cell? ⟨w.heap.size + 1, 1, none⟩ = some (.slice none 0 0) := cell_later hb1 (by simp [go_sem])
        have df1 : w1.frozen? ⟨w.heap.size + 1, 1, none⟩ = false := (hb1.frozen (p := ⟨w.heap.size + 1, 1, none⟩) (by simp)).trans (by simp [go_sem])
        have c0 : w1.cell? ⟨w.heap.size, 0, none⟩ = some (.slice a n ca) := cell_later hb1 (by simp [go_sem])
        have z1 : w.heap.size + 1 < w1.heap.size := by have := hb1.size; simp at this; omega
        have hb01 := (hbt _ _).trans (hb1.mono (by simp; omega))
        clear hb1 e3
        go_wp2
        exact bodyPost_ret (v := .agg #[.int .i64 3, .slice none 0 0]) (by simp [results, Try.results20, go_sem, d0, d1]) rfl ⟨_, rfl, RowI.nil _ _ _ _ _, (hb01.setCell (by simp) _).setCell (by simp) _⟩
      · have hI1 : (n : Int) < I := by omega
        clear hI
        go_enter Try.func20, Try.ntmps20
        go_wp2_with fail
        refine (implFileFault_any a n ca _ h1).mono ?_
        rw [e3]
        rintro e w1 ⟨rfl, hb1⟩
        have d0 : w1.cell? ⟨w.heap.size + 1, 0, none⟩ = some (.int .i64 0) := cell_later hb1 (by simp [go_sem])
        have df0 : w1.frozen? ⟨w.heap.size + 1, 0, none⟩ = false := (hb1.frozen (p := ⟨w.heap.size + 1, 0, none⟩) (by simp)).trans (by simp [go_sem])
        have d1 : w1.cell? ⟨w.heap.size + 1, 1, none⟩ = some (.slice none 0 0) := cell_later hb1 (by simp [go_sem])
        have df1 : w1.frozen? ⟨w.heap.size + 1, 1, none⟩ = false := (hb1.frozen (p := ⟨w.heap.size + 1, 1, none⟩) (by simp)).trans (by simp [go_sem])
        have c0 : w1.cell? ⟨w.heap.size, 0, none⟩ = some (.slice a n ca) := cell_later hb1 (by simp [go_sem])
        have z1 : w.heap.size + 1 < w1.heap.size := by have := hb1.size; simp at this; omega
        have hb01 := (hbt _ _).trans (hb1.mono (by simp; omega))
        clear hb1 e3
        go_wp2
        exact bodyPost_ret (v := .agg #[.int .i64 3, .slice none 0 0]) (by simp [results, Try.results20, go_sem, d0, d1]) rfl ⟨_, rfl, RowI.nil _ _ _ _ _, (hb01.setCell (by simp) _).setCell (by simp) _⟩
end Go.Proofs.Ytocophekfbhfbaa
