/-
  Chapter 7: the program's ProgFault and SetFault.
-/
import Derived.Test.YtocophekfbhfbaaProg1
namespace Go.Proofs.Ytocophekfbhfbaa
open Go.RowKit
set_option linter.unusedVariables false
set_option linter.unusedSimpArgs false

theorem one_rd {e : TypeId} (w : World) (k c : Int) (s : ByteArray) (l r : Int) : RdR ndE 5 (w.alloc (.cells #[.int .i64 k, .int .i64 c, .string s, .int .i64 l, .int .i64 r] e)) (some ⟨w.heap.size, 0, none⟩) 1 [⟨k, c, s, l, r⟩] := by
  refine ⟨rfl, .inr ⟨w.heap.size, 0, rfl, fun j x hx f v hv => ?_⟩⟩
  match j with
  | 0 =>
    simp at hx
    subst hx
    have hh := cells_new w #[.int .i64 k, .int .i64 c, .string s, .int .i64 l, .int .i64 r] e f v (by simpa [ndE] using hv)
    rw [Addr.add_lit] at hh
    simpa using hh
  | j + 1 => simp at hx

set_option maxHeartbeats 6400000 in
set_option maxRecDepth 20000 in
theorem faultAmong_any (i : In) (n : Int) (w : World) (hs : i.s.size ≤ 1048576) :
    Calls Try.prog 187 #[.agg #[.int .i64 i.o, .int .i64 i.k, .int .i64 i.c, .string i.s, .int .i64 i.l, .int .i64 i.r, .int .i64 i.x, .int .i64 i.y], .int .i64 n] w fun e w' => e = .returned (.int .i64 (instF n i)) ∧ Below w.heap.size w w' := by
  have B1 : ∀ o, Below w.heap.size w (w.alloc o) := fun o => (Below.refl _ _).alloc (Nat.le_refl _) o
  have CT := fun w' => hasTooMuchI_any i w'
  by_cases hh : HasI i
  case neg =>
    rw [instF_has hh]
    rw [decide_eq_false hh] at CT
    obtain ⟨o, k, c, s, l, r, x, y⟩ := i
    have HT : Hid _ := CT
    clear CT hh
    go_enter Try.func187, Try.ntmps187
    go_wp2_with fail
    refine (HT.out _).mono ?_
    rintro e w1 ⟨rfl, hb1⟩
    go_wp2
    go_ret
    exact ⟨rfl, (B1 _).trans (hb1.mono (B1 _).size)⟩
  rw [decide_eq_true hh] at CT
  by_cases ho : i.o = 1
  case neg =>
    rw [instF_else hh ho]
    obtain ⟨o, k, c, s, l, r, x, y⟩ := i
    simp only at ho ⊢
    have ho' : (o == 1) = false := by simpa using ho
    have HT : Hid _ := CT
    clear CT hh
    by_cases hx0 : x < 0
    · rw [if_pos (by omega)]
      go_enter Try.func187, Try.ntmps187
      go_wp2_with fail
      refine (HT.out _).mono ?_
      rintro e w1 ⟨rfl, hb1⟩
      have d0 : w1.cell? ⟨w.heap.size, 0, none⟩ = some (.int .i64 o) := cell_later hb1 (by simp [go_sem])
      have d1 : w1.cell? ⟨w.heap.size, 1, none⟩ = some (.int .i64 k) := cell_later hb1 (by simp [go_sem])
      have d2 : w1.cell? ⟨w.heap.size, 2, none⟩ = some (.int .i64 c) := cell_later hb1 (by simp [go_sem])
      have d3 : w1.cell? ⟨w.heap.size, 3, none⟩ = some (.string s) := cell_later hb1 (by simp [go_sem])
      have d4 : w1.cell? ⟨w.heap.size, 4, none⟩ = some (.int .i64 l) := cell_later hb1 (by simp [go_sem])
      have d5 : w1.cell? ⟨w.heap.size, 5, none⟩ = some (.int .i64 r) := cell_later hb1 (by simp [go_sem])
      have d6 : w1.cell? ⟨w.heap.size, 6, none⟩ = some (.int .i64 x) := cell_later hb1 (by simp [go_sem])
      have d7 : w1.cell? ⟨w.heap.size, 7, none⟩ = some (.int .i64 y) := cell_later hb1 (by simp [go_sem])
      have z1 : w.heap.size < w1.heap.size := by have := hb1.size; simp at this; omega
      have hb01 := (B1 _).trans (hb1.mono (B1 _).size)
      clear hb1
      go_wp2
      go_ret
      exact ⟨rfl, hb01⟩
    by_cases hxn : n ≤ x
    · rw [if_pos (by omega)]
      go_enter Try.func187, Try.ntmps187
      go_wp2_with fail
      refine (HT.out _).mono ?_
      rintro e w1 ⟨rfl, hb1⟩
      have d0 : w1.cell? ⟨w.heap.size, 0, none⟩ = some (.int .i64 o) := cell_later hb1 (by simp [go_sem])
      have d1 : w1.cell? ⟨w.heap.size, 1, none⟩ = some (.int .i64 k) := cell_later hb1 (by simp [go_sem])
      have d2 : w1.cell? ⟨w.heap.size, 2, none⟩ = some (.int .i64 c) := cell_later hb1 (by simp [go_sem])
      have d3 : w1.cell? ⟨w.heap.size, 3, none⟩ = some (.string s) := cell_later hb1 (by simp [go_sem])
      have d4 : w1.cell? ⟨w.heap.size, 4, none⟩ = some (.int .i64 l) := cell_later hb1 (by simp [go_sem])
      have d5 : w1.cell? ⟨w.heap.size, 5, none⟩ = some (.int .i64 r) := cell_later hb1 (by simp [go_sem])
      have d6 : w1.cell? ⟨w.heap.size, 6, none⟩ = some (.int .i64 x) := cell_later hb1 (by simp [go_sem])
      have d7 : w1.cell? ⟨w.heap.size, 7, none⟩ = some (.int .i64 y) := cell_later hb1 (by simp [go_sem])
      have z1 : w.heap.size < w1.heap.size := by have := hb1.size; simp at this; omega
      have hb01 := (B1 _).trans (hb1.mono (B1 _).size)
      clear hb1
      go_wp2
      go_ret
      exact ⟨rfl, hb01⟩
    by_cases hy0 : y < 0
    · rw [if_pos (by omega)]
      go_enter Try.func187, Try.ntmps187
      go_wp2_with fail
      refine (HT.out _).mono ?_
      rintro e w1 ⟨rfl, hb1⟩
      have d0 : w1.cell? ⟨w.heap.size, 0, none⟩ = some (.int .i64 o) := cell_later hb1 (by simp [go_sem])
      have d1 : w1.cell? ⟨w.heap.size, 1, none⟩ = some (.int .i64 k) := cell_later hb1 (by simp [go_sem])
      have d2 : w1.cell? ⟨w.heap.size, 2, none⟩ = some (.int .i64 c) := cell_later hb1 (by simp [go_sem])
      have d3 : w1.cell? ⟨w.heap.size, 3, none⟩ = some (.string s) := cell_later hb1 (by simp [go_sem])
      have d4 : w1.cell? ⟨w.heap.size, 4, none⟩ = some (.int .i64 l) := cell_later hb1 (by simp [go_sem])
      have d5 : w1.cell? ⟨w.heap.size, 5, none⟩ = some (.int .i64 r) := cell_later hb1 (by simp [go_sem])
      have d6 : w1.cell? ⟨w.heap.size, 6, none⟩ = some (.int .i64 x) := cell_later hb1 (by simp [go_sem])
      have d7 : w1.cell? ⟨w.heap.size, 7, none⟩ = some (.int .i64 y) := cell_later hb1 (by simp [go_sem])
      have z1 : w.heap.size < w1.heap.size := by have := hb1.size; simp at this; omega
      have hb01 := (B1 _).trans (hb1.mono (B1 _).size)
      clear hb1
      go_wp2
      go_ret
      exact ⟨rfl, hb01⟩
    by_cases hyn : n ≤ y
    · rw [if_pos (by omega)]
      go_enter Try.func187, Try.ntmps187
      go_wp2_with fail
      refine (HT.out _).mono ?_
      rintro e w1 ⟨rfl, hb1⟩
      have d0 : w1.cell? ⟨w.heap.size, 0, none⟩ = some (.int .i64 o) := cell_later hb1 (by simp [go_sem])
      have d1 : w1.cell? ⟨w.heap.size, 1, none⟩ = some (.int .i64 k) := cell_later hb1 (by simp [go_sem])
      have d2 : w1.cell? ⟨w.heap.size, 2, none⟩ = some (.int .i64 c) := cell_later hb1 (by simp [go_sem])
      have d3 : w1.cell? ⟨w.heap.size, 3, none⟩ = some (.string s) := cell_later hb1 (by simp [go_sem])
      have d4 : w1.cell? ⟨w.heap.size, 4, none⟩ = some (.int .i64 l) := cell_later hb1 (by simp [go_sem])
      have d5 : w1.cell? ⟨w.heap.size, 5, none⟩ = some (.int .i64 r) := cell_later hb1 (by simp [go_sem])
      have d6 : w1.cell? ⟨w.heap.size, 6, none⟩ = some (.int .i64 x) := cell_later hb1 (by simp [go_sem])
      have d7 : w1.cell? ⟨w.heap.size, 7, none⟩ = some (.int .i64 y) := cell_later hb1 (by simp [go_sem])
      have z1 : w.heap.size < w1.heap.size := by have := hb1.size; simp at this; omega
      have hb01 := (B1 _).trans (hb1.mono (B1 _).size)
      clear hb1
      go_wp2
      go_ret
      exact ⟨rfl, hb01⟩
    rw [if_neg (by omega)]
    go_enter Try.func187, Try.ntmps187
    go_wp2_with fail
    refine (HT.out _).mono ?_
    rintro e w1 ⟨rfl, hb1⟩
    have d0 : w1.cell? ⟨w.heap.size, 0, none⟩ = some (.int .i64 o) := cell_later hb1 (by simp [go_sem])
    have d1 : w1.cell? ⟨w.heap.size, 1, none⟩ = some (.int .i64 k) := cell_later hb1 (by simp [go_sem])
    have d2 : w1.cell? ⟨w.heap.size, 2, none⟩ = some (.int .i64 c) := cell_later hb1 (by simp [go_sem])
    have d3 : w1.cell? ⟨w.heap.size, 3, none⟩ = some (.string s) := cell_later hb1 (by simp [go_sem])
    have d4 : w1.cell? ⟨w.heap.size, 4, none⟩ = some (.int .i64 l) := cell_later hb1 (by simp [go_sem])
    have d5 : w1.cell? ⟨w.heap.size, 5, none⟩ = some (.int .i64 r) := cell_later hb1 (by simp [go_sem])
    have d6 : w1.cell? ⟨w.heap.size, 6, none⟩ = some (.int .i64 x) := cell_later hb1 (by simp [go_sem])
    have d7 : w1.cell? ⟨w.heap.size, 7, none⟩ = some (.int .i64 y) := cell_later hb1 (by simp [go_sem])
    have z1 : w.heap.size < w1.heap.size := by have := hb1.size; simp at this; omega
    have hb01 := (B1 _).trans (hb1.mono (B1 _).size)
    clear hb1
    go_wp2
    go_ret
    exact ⟨rfl, hb01⟩
  have CK := fun w' => standsForByte_any i.nd w'
  by_cases hk : 2 ≤ i.k ∧ i.k ≤ 5
  case neg =>
    rw [instF_kind ho hk]
    rw [decide_eq_false (show ¬ (2 ≤ i.nd.k ∧ i.nd.k ≤ 5) from hk)] at CK
    obtain ⟨o, k, c, s, l, r, x, y⟩ := i
    simp only at ho CK
    subst ho
    have HT : Hid _ := CT
    have HK : Hid _ := CK
    clear CT CK hh hk
    go_enter Try.func187, Try.ntmps187
    go_wp2_with fail
    refine (HT.out _).mono ?_
    rintro e w1 ⟨rfl, hb1⟩
    have d0 : w1.cell? ⟨w.heap.size, 0, none⟩ = some (.int .i64 1) := cell_later hb1 (by simp [go_sem])
    have d1 : w1.cell? ⟨w.heap.size, 1, none⟩ = some (.int .i64 k) := cell_later hb1 (by simp [go_sem])
    have d2 : w1.cell? ⟨w.heap.size, 2, none⟩ = some (.int .i64 c) := cell_later hb1 (by simp [go_sem])
    have d3 : w1.cell? ⟨w.heap.size, 3, none⟩ = some (.string s) := cell_later hb1 (by simp [go_sem])
    have d4 : w1.cell? ⟨w.heap.size, 4, none⟩ = some (.int .i64 l) := cell_later hb1 (by simp [go_sem])
    have d5 : w1.cell? ⟨w.heap.size, 5, none⟩ = some (.int .i64 r) := cell_later hb1 (by simp [go_sem])
    have d6 : w1.cell? ⟨w.heap.size, 6, none⟩ = some (.int .i64 x) := cell_later hb1 (by simp [go_sem])
    have d7 : w1.cell? ⟨w.heap.size, 7, none⟩ = some (.int .i64 y) := cell_later hb1 (by simp [go_sem])
    have z1 : w.heap.size < w1.heap.size := by have := hb1.size; simp at this; omega
    have hb01 := (B1 _).trans (hb1.mono (B1 _).size)
    clear hb1
    go_wp2_with fail
    refine (HK.out _).mono ?_
    rintro e w2 ⟨rfl, hb2⟩
    replace d0 := cell_later hb2 d0
    replace d1 := cell_later hb2 d1
    replace d2 := cell_later hb2 d2
    replace d3 := cell_later hb2 d3
    replace d4 := cell_later hb2 d4
    replace d5 := cell_later hb2 d5
    replace d6 := cell_later hb2 d6
    replace d7 := cell_later hb2 d7
    have hb02 := hb01.trans (hb2.mono hb01.size)
    have z2 : w.heap.size < w2.heap.size := by have := hb2.size; omega
    clear hb2
    go_wp2
    go_ret
    exact ⟨rfl, hb02⟩
  rw [decide_eq_true (show 2 ≤ i.nd.k ∧ i.nd.k ≤ 5 from hk)] at CK
  have CN := fun w' a ca h => implNodesFault_any a 1 ca [i.nd] w' h (by simpa [ndSum, In.nd] using hs) (by omega)
  rw [nodesFault_one (show 2 ≤ i.nd.k ∧ i.nd.k ≤ 5 from hk)] at CN
  by_cases hf : ¬ FormP i.nd
  · rw [instF_form ho hf]
    rw [if_pos hf] at CN
    obtain ⟨o, k, c, s, l, r, x, y⟩ := i
    simp only [In.nd] at ho CK CN
    subst ho
    have HT : Hid _ := CT
    have HK : Hid _ := CK
    have HN : Hid _ := CN
    clear CT CK CN hh hk hf
    go_enter Try.func187, Try.ntmps187
    go_wp2_with fail
    refine (HT.out _).mono ?_
    rintro e w1 ⟨rfl, hb1⟩
    have d0 : w1.cell? ⟨w.heap.size, 0, none⟩ = some (.int .i64 1) := cell_later hb1 (by simp [go_sem])
    have d1 : w1.cell? ⟨w.heap.size, 1, none⟩ = some (.int .i64 k) := cell_later hb1 (by simp [go_sem])
    have d2 : w1.cell? ⟨w.heap.size, 2, none⟩ = some (.int .i64 c) := cell_later hb1 (by simp [go_sem])
    have d3 : w1.cell? ⟨w.heap.size, 3, none⟩ = some (.string s) := cell_later hb1 (by simp [go_sem])
    have d4 : w1.cell? ⟨w.heap.size, 4, none⟩ = some (.int .i64 l) := cell_later hb1 (by simp [go_sem])
    have d5 : w1.cell? ⟨w.heap.size, 5, none⟩ = some (.int .i64 r) := cell_later hb1 (by simp [go_sem])
    have d6 : w1.cell? ⟨w.heap.size, 6, none⟩ = some (.int .i64 x) := cell_later hb1 (by simp [go_sem])
    have d7 : w1.cell? ⟨w.heap.size, 7, none⟩ = some (.int .i64 y) := cell_later hb1 (by simp [go_sem])
    have z1 : w.heap.size < w1.heap.size := by have := hb1.size; simp at this; omega
    have hb01 := (B1 _).trans (hb1.mono (B1 _).size)
    clear hb1
    go_wp2_with fail
    refine (HK.out _).mono ?_
    rintro e w2 ⟨rfl, hb2⟩
    replace d0 := cell_later hb2 d0
    replace d1 := cell_later hb2 d1
    replace d2 := cell_later hb2 d2
    replace d3 := cell_later hb2 d3
    replace d4 := cell_later hb2 d4
    replace d5 := cell_later hb2 d5
    replace d6 := cell_later hb2 d6
    replace d7 := cell_later hb2 d7
    have hb02 := hb01.trans (hb2.mono hb01.size)
    have z2 : w.heap.size < w2.heap.size := by have := hb2.size; omega
    clear hb2
    go_wp2_with fail
    refine (HN.out _ _ _ (one_rd _ _ _ _ _ _)).mono ?_
    rintro e w3 ⟨rfl, hb3⟩
    replace d0 : w3.cell? ⟨w.heap.size, 0, none⟩ = some (.int .i64 1) := cell_later hb3 (by simp [go_sem, d0, z2])
    replace d1 : w3.cell? ⟨w.heap.size, 1, none⟩ = some (.int .i64 k) := cell_later hb3 (by simp [go_sem, d1, z2])
    replace d2 : w3.cell? ⟨w.heap.size, 2, none⟩ = some (.int .i64 c) := cell_later hb3 (by simp [go_sem, d2, z2])
    replace d3 : w3.cell? ⟨w.heap.size, 3, none⟩ = some (.string s) := cell_later hb3 (by simp [go_sem, d3, z2])
    replace d4 : w3.cell? ⟨w.heap.size, 4, none⟩ = some (.int .i64 l) := cell_later hb3 (by simp [go_sem, d4, z2])
    replace d5 : w3.cell? ⟨w.heap.size, 5, none⟩ = some (.int .i64 r) := cell_later hb3 (by simp [go_sem, d5, z2])
    replace d6 : w3.cell? ⟨w.heap.size, 6, none⟩ = some (.int .i64 x) := cell_later hb3 (by simp [go_sem, d6, z2])
    replace d7 : w3.cell? ⟨w.heap.size, 7, none⟩ = some (.int .i64 y) := cell_later hb3 (by simp [go_sem, d7, z2])
    have hb03 := (hb02.alloc hb02.size _).trans (hb3.mono (hb02.alloc hb02.size _).size)
    clear hb3
    go_wp2
    go_ret
    exact ⟨rfl, hb03⟩
  rw [if_neg hf] at CN
  replace hf : FormP i.nd := Decidable.not_not.1 hf
  by_cases hr : rangeB i.nd = false
  · rw [instF_range hh ho hk hf hr]
    rw [if_pos hr] at CN
    obtain ⟨o, k, c, s, l, r, x, y⟩ := i
    simp only [In.nd] at ho CK CN
    subst ho
    have HT : Hid _ := CT
    have HK : Hid _ := CK
    have HN : Hid _ := CN
    clear CT CK CN hh hk hf hr
    go_enter Try.func187, Try.ntmps187
    go_wp2_with fail
    refine (HT.out _).mono ?_
    rintro e w1 ⟨rfl, hb1⟩
    have d0 : w1.cell? ⟨w.heap.size, 0, none⟩ = some (.int .i64 1) := cell_later hb1 (by simp [go_sem])
    have d1 : w1.cell? ⟨w.heap.size, 1, none⟩ = some (.int .i64 k) := cell_later hb1 (by simp [go_sem])
    have d2 : w1.cell? ⟨w.heap.size, 2, none⟩ = some (.int .i64 c) := cell_later hb1 (by simp [go_sem])
    have d3 : w1.cell? ⟨w.heap.size, 3, none⟩ = some (.string s) := cell_later hb1 (by simp [go_sem])
    have d4 : w1.cell? ⟨w.heap.size, 4, none⟩ = some (.int .i64 l) := cell_later hb1 (by simp [go_sem])
    have d5 : w1.cell? ⟨w.heap.size, 5, none⟩ = some (.int .i64 r) := cell_later hb1 (by simp [go_sem])
    have d6 : w1.cell? ⟨w.heap.size, 6, none⟩ = some (.int .i64 x) := cell_later hb1 (by simp [go_sem])
    have d7 : w1.cell? ⟨w.heap.size, 7, none⟩ = some (.int .i64 y) := cell_later hb1 (by simp [go_sem])
    have z1 : w.heap.size < w1.heap.size := by have := hb1.size; simp at this; omega
    have hb01 := (B1 _).trans (hb1.mono (B1 _).size)
    clear hb1
    go_wp2_with fail
    refine (HK.out _).mono ?_
    rintro e w2 ⟨rfl, hb2⟩
    replace d0 := cell_later hb2 d0
    replace d1 := cell_later hb2 d1
    replace d2 := cell_later hb2 d2
    replace d3 := cell_later hb2 d3
    replace d4 := cell_later hb2 d4
    replace d5 := cell_later hb2 d5
    replace d6 := cell_later hb2 d6
    replace d7 := cell_later hb2 d7
    have hb02 := hb01.trans (hb2.mono hb01.size)
    have z2 : w.heap.size < w2.heap.size := by have := hb2.size; omega
    clear hb2
    go_wp2_with fail
    refine (HN.out _ _ _ (one_rd _ _ _ _ _ _)).mono ?_
    rintro e w3 ⟨rfl, hb3⟩
    replace d0 : w3.cell? ⟨w.heap.size, 0, none⟩ = some (.int .i64 1) := cell_later hb3 (by simp [go_sem, d0, z2])
    replace d1 : w3.cell? ⟨w.heap.size, 1, none⟩ = some (.int .i64 k) := cell_later hb3 (by simp [go_sem, d1, z2])
    replace d2 : w3.cell? ⟨w.heap.size, 2, none⟩ = some (.int .i64 c) := cell_later hb3 (by simp [go_sem, d2, z2])
    replace d3 : w3.cell? ⟨w.heap.size, 3, none⟩ = some (.string s) := cell_later hb3 (by simp [go_sem, d3, z2])
    replace d4 : w3.cell? ⟨w.heap.size, 4, none⟩ = some (.int .i64 l) := cell_later hb3 (by simp [go_sem, d4, z2])
    replace d5 : w3.cell? ⟨w.heap.size, 5, none⟩ = some (.int .i64 r) := cell_later hb3 (by simp [go_sem, d5, z2])
    replace d6 : w3.cell? ⟨w.heap.size, 6, none⟩ = some (.int .i64 x) := cell_later hb3 (by simp [go_sem, d6, z2])
    replace d7 : w3.cell? ⟨w.heap.size, 7, none⟩ = some (.int .i64 y) := cell_later hb3 (by simp [go_sem, d7, z2])
    have hb03 := (hb02.alloc hb02.size _).trans (hb3.mono (hb02.alloc hb02.size _).size)
    clear hb3
    go_wp2
    go_ret
    exact ⟨rfl, hb03⟩
  rw [if_neg hr] at CN
  replace hr : rangeB i.nd = true := by simpa using hr
  rw [instF_byte hh ho hk hf hr]
  obtain ⟨o, k, c, s, l, r, x, y⟩ := i
  simp only [In.nd] at ho CK CN ⊢
  subst ho
  have HT : Hid _ := CT
  have HK : Hid _ := CK
  have HN : Hid _ := CN
  clear CT CK CN hh hk hf hr
  by_cases hx0 : x < 0
  · rw [if_pos (by omega)]
    go_enter Try.func187, Try.ntmps187
    go_wp2_with fail
    refine (HT.out _).mono ?_
    rintro e w1 ⟨rfl, hb1⟩
    have d0 : w1.cell? ⟨w.heap.size, 0, none⟩ = some (.int .i64 1) := cell_later hb1 (by simp [go_sem])
    have d1 : w1.cell? ⟨w.heap.size, 1, none⟩ = some (.int .i64 k) := cell_later hb1 (by simp [go_sem])
    have d2 : w1.cell? ⟨w.heap.size, 2, none⟩ = some (.int .i64 c) := cell_later hb1 (by simp [go_sem])
    have d3 : w1.cell? ⟨w.heap.size, 3, none⟩ = some (.string s) := cell_later hb1 (by simp [go_sem])
    have d4 : w1.cell? ⟨w.heap.size, 4, none⟩ = some (.int .i64 l) := cell_later hb1 (by simp [go_sem])
    have d5 : w1.cell? ⟨w.heap.size, 5, none⟩ = some (.int .i64 r) := cell_later hb1 (by simp [go_sem])
    have d6 : w1.cell? ⟨w.heap.size, 6, none⟩ = some (.int .i64 x) := cell_later hb1 (by simp [go_sem])
    have d7 : w1.cell? ⟨w.heap.size, 7, none⟩ = some (.int .i64 y) := cell_later hb1 (by simp [go_sem])
    have z1 : w.heap.size < w1.heap.size := by have := hb1.size; simp at this; omega
    have hb01 := (B1 _).trans (hb1.mono (B1 _).size)
    clear hb1
    go_wp2_with fail
    refine (HK.out _).mono ?_
    rintro e w2 ⟨rfl, hb2⟩
    replace d0 := cell_later hb2 d0
    replace d1 := cell_later hb2 d1
    replace d2 := cell_later hb2 d2
    replace d3 := cell_later hb2 d3
    replace d4 := cell_later hb2 d4
    replace d5 := cell_later hb2 d5
    replace d6 := cell_later hb2 d6
    replace d7 := cell_later hb2 d7
    have hb02 := hb01.trans (hb2.mono hb01.size)
    have z2 : w.heap.size < w2.heap.size := by have := hb2.size; omega
    clear hb2
    go_wp2_with fail
    refine (HN.out _ _ _ (one_rd _ _ _ _ _ _)).mono ?_
    rintro e w3 ⟨rfl, hb3⟩
    replace d0 : w3.cell? ⟨w.heap.size, 0, none⟩ = some (.int .i64 1) := cell_later hb3 (by simp [go_sem, d0, z2])
    replace d1 : w3.cell? ⟨w.heap.size, 1, none⟩ = some (.int .i64 k) := cell_later hb3 (by simp [go_sem, d1, z2])
    replace d2 : w3.cell? ⟨w.heap.size, 2, none⟩ = some (.int .i64 c) := cell_later hb3 (by simp [go_sem, d2, z2])
    replace d3 : w3.cell? ⟨w.heap.size, 3, none⟩ = some (.string s) := cell_later hb3 (by simp [go_sem, d3, z2])
    replace d4 : w3.cell? ⟨w.heap.size, 4, none⟩ = some (.int .i64 l) := cell_later hb3 (by simp [go_sem, d4, z2])
    replace d5 : w3.cell? ⟨w.heap.size, 5, none⟩ = some (.int .i64 r) := cell_later hb3 (by simp [go_sem, d5, z2])
    replace d6 : w3.cell? ⟨w.heap.size, 6, none⟩ = some (.int .i64 x) := cell_later hb3 (by simp [go_sem, d6, z2])
    replace d7 : w3.cell? ⟨w.heap.size, 7, none⟩ = some (.int .i64 y) := cell_later hb3 (by simp [go_sem, d7, z2])
    have hb03 := (hb02.alloc hb02.size _).trans (hb3.mono (hb02.alloc hb02.size _).size)
    clear hb3
    go_wp2
    go_ret
    exact ⟨rfl, hb03⟩
  by_cases hxn : n ≤ x
  · rw [if_pos (by omega)]
    go_enter Try.func187, Try.ntmps187
    go_wp2_with fail
    refine (HT.out _).mono ?_
    rintro e w1 ⟨rfl, hb1⟩
    have d0 : w1.cell? ⟨w.heap.size, 0, none⟩ = some (.int .i64 1) := cell_later hb1 (by simp [go_sem])
    have d1 : w1.cell? ⟨w.heap.size, 1, none⟩ = some (.int .i64 k) := cell_later hb1 (by simp [go_sem])
    have d2 : w1.cell? ⟨w.heap.size, 2, none⟩ = some (.int .i64 c) := cell_later hb1 (by simp [go_sem])
    have d3 : w1.cell? ⟨w.heap.size, 3, none⟩ = some (.string s) := cell_later hb1 (by simp [go_sem])
    have d4 : w1.cell? ⟨w.heap.size, 4, none⟩ = some (.int .i64 l) := cell_later hb1 (by simp [go_sem])
    have d5 : w1.cell? ⟨w.heap.size, 5, none⟩ = some (.int .i64 r) := cell_later hb1 (by simp [go_sem])
    have d6 : w1.cell? ⟨w.heap.size, 6, none⟩ = some (.int .i64 x) := cell_later hb1 (by simp [go_sem])
    have d7 : w1.cell? ⟨w.heap.size, 7, none⟩ = some (.int .i64 y) := cell_later hb1 (by simp [go_sem])
    have z1 : w.heap.size < w1.heap.size := by have := hb1.size; simp at this; omega
    have hb01 := (B1 _).trans (hb1.mono (B1 _).size)
    clear hb1
    go_wp2_with fail
    refine (HK.out _).mono ?_
    rintro e w2 ⟨rfl, hb2⟩
    replace d0 := cell_later hb2 d0
    replace d1 := cell_later hb2 d1
    replace d2 := cell_later hb2 d2
    replace d3 := cell_later hb2 d3
    replace d4 := cell_later hb2 d4
    replace d5 := cell_later hb2 d5
    replace d6 := cell_later hb2 d6
    replace d7 := cell_later hb2 d7
    have hb02 := hb01.trans (hb2.mono hb01.size)
    have z2 : w.heap.size < w2.heap.size := by have := hb2.size; omega
    clear hb2
    go_wp2_with fail
    refine (HN.out _ _ _ (one_rd _ _ _ _ _ _)).mono ?_
    rintro e w3 ⟨rfl, hb3⟩
    replace d0 : w3.cell? ⟨w.heap.size, 0, none⟩ = some (.int .i64 1) := cell_later hb3 (by simp [go_sem, d0, z2])
    replace d1 : w3.cell? ⟨w.heap.size, 1, none⟩ = some (.int .i64 k) := cell_later hb3 (by simp [go_sem, d1, z2])
    replace d2 : w3.cell? ⟨w.heap.size, 2, none⟩ = some (.int .i64 c) := cell_later hb3 (by simp [go_sem, d2, z2])
    replace d3 : w3.cell? ⟨w.heap.size, 3, none⟩ = some (.string s) := cell_later hb3 (by simp [go_sem, d3, z2])
    replace d4 : w3.cell? ⟨w.heap.size, 4, none⟩ = some (.int .i64 l) := cell_later hb3 (by simp [go_sem, d4, z2])
    replace d5 : w3.cell? ⟨w.heap.size, 5, none⟩ = some (.int .i64 r) := cell_later hb3 (by simp [go_sem, d5, z2])
    replace d6 : w3.cell? ⟨w.heap.size, 6, none⟩ = some (.int .i64 x) := cell_later hb3 (by simp [go_sem, d6, z2])
    replace d7 : w3.cell? ⟨w.heap.size, 7, none⟩ = some (.int .i64 y) := cell_later hb3 (by simp [go_sem, d7, z2])
    have hb03 := (hb02.alloc hb02.size _).trans (hb3.mono (hb02.alloc hb02.size _).size)
    clear hb3
    go_wp2
    go_ret
    exact ⟨rfl, hb03⟩
  by_cases hy0 : y < 0
  · rw [if_pos (by omega)]
    go_enter Try.func187, Try.ntmps187
    go_wp2_with fail
    refine (HT.out _).mono ?_
    rintro e w1 ⟨rfl, hb1⟩
    have d0 : w1.cell? ⟨w.heap.size, 0, none⟩ = some (.int .i64 1) := cell_later hb1 (by simp [go_sem])
    have d1 : w1.cell? ⟨w.heap.size, 1, none⟩ = some (.int .i64 k) := cell_later hb1 (by simp [go_sem])
    have d2 : w1.cell? ⟨w.heap.size, 2, none⟩ = some (.int .i64 c) := cell_later hb1 (by simp [go_sem])
    have d3 : w1.cell? ⟨w.heap.size, 3, none⟩ = some (.string s) := cell_later hb1 (by simp [go_sem])
    have d4 : w1.cell? ⟨w.heap.size, 4, none⟩ = some (.int .i64 l) := cell_later hb1 (by simp [go_sem])
    have d5 : w1.cell? ⟨w.heap.size, 5, none⟩ = some (.int .i64 r) := cell_later hb1 (by simp [go_sem])
    have d6 : w1.cell? ⟨w.heap.size, 6, none⟩ = some (.int .i64 x) := cell_later hb1 (by simp [go_sem])
    have d7 : w1.cell? ⟨w.heap.size, 7, none⟩ = some (.int .i64 y) := cell_later hb1 (by simp [go_sem])
    have z1 : w.heap.size < w1.heap.size := by have := hb1.size; simp at this; omega
    have hb01 := (B1 _).trans (hb1.mono (B1 _).size)
    clear hb1
    go_wp2_with fail
    refine (HK.out _).mono ?_
    rintro e w2 ⟨rfl, hb2⟩
    replace d0 := cell_later hb2 d0
    replace d1 := cell_later hb2 d1
    replace d2 := cell_later hb2 d2
    replace d3 := cell_later hb2 d3
    replace d4 := cell_later hb2 d4
    replace d5 := cell_later hb2 d5
    replace d6 := cell_later hb2 d6
    replace d7 := cell_later hb2 d7
    have hb02 := hb01.trans (hb2.mono hb01.size)
    have z2 : w.heap.size < w2.heap.size := by have := hb2.size; omega
    clear hb2
    go_wp2_with fail
    refine (HN.out _ _ _ (one_rd _ _ _ _ _ _)).mono ?_
    rintro e w3 ⟨rfl, hb3⟩
    replace d0 : w3.cell? ⟨w.heap.size, 0, none⟩ = some (.int .i64 1) := cell_later hb3 (by simp [go_sem, d0, z2])
    replace d1 : w3.cell? ⟨w.heap.size, 1, none⟩ = some (.int .i64 k) := cell_later hb3 (by simp [go_sem, d1, z2])
    replace d2 : w3.cell? ⟨w.heap.size, 2, none⟩ = some (.int .i64 c) := cell_later hb3 (by simp [go_sem, d2, z2])
    replace d3 : w3.cell? ⟨w.heap.size, 3, none⟩ = some (.string s) := cell_later hb3 (by simp [go_sem, d3, z2])
    replace d4 : w3.cell? ⟨w.heap.size, 4, none⟩ = some (.int .i64 l) := cell_later hb3 (by simp [go_sem, d4, z2])
    replace d5 : w3.cell? ⟨w.heap.size, 5, none⟩ = some (.int .i64 r) := cell_later hb3 (by simp [go_sem, d5, z2])
    replace d6 : w3.cell? ⟨w.heap.size, 6, none⟩ = some (.int .i64 x) := cell_later hb3 (by simp [go_sem, d6, z2])
    replace d7 : w3.cell? ⟨w.heap.size, 7, none⟩ = some (.int .i64 y) := cell_later hb3 (by simp [go_sem, d7, z2])
    have hb03 := (hb02.alloc hb02.size _).trans (hb3.mono (hb02.alloc hb02.size _).size)
    clear hb3
    go_wp2
    go_ret
    exact ⟨rfl, hb03⟩
  by_cases hyn : n ≤ y
  · rw [if_pos (by omega)]
    go_enter Try.func187, Try.ntmps187
    go_wp2_with fail
    refine (HT.out _).mono ?_
    rintro e w1 ⟨rfl, hb1⟩
    have d0 : w1.cell? ⟨w.heap.size, 0, none⟩ = some (.int .i64 1) := cell_later hb1 (by simp [go_sem])
    have d1 : w1.cell? ⟨w.heap.size, 1, none⟩ = some (.int .i64 k) := cell_later hb1 (by simp [go_sem])
    have d2 : w1.cell? ⟨w.heap.size, 2, none⟩ = some (.int .i64 c) := cell_later hb1 (by simp [go_sem])
    have d3 : w1.cell? ⟨w.heap.size, 3, none⟩ = some (.string s) := cell_later hb1 (by simp [go_sem])
    have d4 : w1.cell? ⟨w.heap.size, 4, none⟩ = some (.int .i64 l) := cell_later hb1 (by simp [go_sem])
    have d5 : w1.cell? ⟨w.heap.size, 5, none⟩ = some (.int .i64 r) := cell_later hb1 (by simp [go_sem])
    have d6 : w1.cell? ⟨w.heap.size, 6, none⟩ = some (.int .i64 x) := cell_later hb1 (by simp [go_sem])
    have d7 : w1.cell? ⟨w.heap.size, 7, none⟩ = some (.int .i64 y) := cell_later hb1 (by simp [go_sem])
    have z1 : w.heap.size < w1.heap.size := by have := hb1.size; simp at this; omega
    have hb01 := (B1 _).trans (hb1.mono (B1 _).size)
    clear hb1
    go_wp2_with fail
    refine (HK.out _).mono ?_
    rintro e w2 ⟨rfl, hb2⟩
    replace d0 := cell_later hb2 d0
    replace d1 := cell_later hb2 d1
    replace d2 := cell_later hb2 d2
    replace d3 := cell_later hb2 d3
    replace d4 := cell_later hb2 d4
    replace d5 := cell_later hb2 d5
    replace d6 := cell_later hb2 d6
    replace d7 := cell_later hb2 d7
    have hb02 := hb01.trans (hb2.mono hb01.size)
    have z2 : w.heap.size < w2.heap.size := by have := hb2.size; omega
    clear hb2
    go_wp2_with fail
    refine (HN.out _ _ _ (one_rd _ _ _ _ _ _)).mono ?_
    rintro e w3 ⟨rfl, hb3⟩
    replace d0 : w3.cell? ⟨w.heap.size, 0, none⟩ = some (.int .i64 1) := cell_later hb3 (by simp [go_sem, d0, z2])
    replace d1 : w3.cell? ⟨w.heap.size, 1, none⟩ = some (.int .i64 k) := cell_later hb3 (by simp [go_sem, d1, z2])
    replace d2 : w3.cell? ⟨w.heap.size, 2, none⟩ = some (.int .i64 c) := cell_later hb3 (by simp [go_sem, d2, z2])
    replace d3 : w3.cell? ⟨w.heap.size, 3, none⟩ = some (.string s) := cell_later hb3 (by simp [go_sem, d3, z2])
    replace d4 : w3.cell? ⟨w.heap.size, 4, none⟩ = some (.int .i64 l) := cell_later hb3 (by simp [go_sem, d4, z2])
    replace d5 : w3.cell? ⟨w.heap.size, 5, none⟩ = some (.int .i64 r) := cell_later hb3 (by simp [go_sem, d5, z2])
    replace d6 : w3.cell? ⟨w.heap.size, 6, none⟩ = some (.int .i64 x) := cell_later hb3 (by simp [go_sem, d6, z2])
    replace d7 : w3.cell? ⟨w.heap.size, 7, none⟩ = some (.int .i64 y) := cell_later hb3 (by simp [go_sem, d7, z2])
    have hb03 := (hb02.alloc hb02.size _).trans (hb3.mono (hb02.alloc hb02.size _).size)
    clear hb3
    go_wp2
    go_ret
    exact ⟨rfl, hb03⟩
  rw [if_neg (by omega)]
  go_enter Try.func187, Try.ntmps187
  go_wp2_with fail
  refine (HT.out _).mono ?_
  rintro e w1 ⟨rfl, hb1⟩
  have d0 : w1.cell? ⟨w.heap.size, 0, none⟩ = some (.int .i64 1) := cell_later hb1 (by simp [go_sem])
  have d1 : w1.cell? ⟨w.heap.size, 1, none⟩ = some (.int .i64 k) := cell_later hb1 (by simp [go_sem])
  have d2 : w1.cell? ⟨w.heap.size, 2, none⟩ = some (.int .i64 c) := cell_later hb1 (by simp [go_sem])
  have d3 : w1.cell? ⟨w.heap.size, 3, none⟩ = some (.string s) := cell_later hb1 (by simp [go_sem])
  have d4 : w1.cell? ⟨w.heap.size, 4, none⟩ = some (.int .i64 l) := cell_later hb1 (by simp [go_sem])
  have d5 : w1.cell? ⟨w.heap.size, 5, none⟩ = some (.int .i64 r) := cell_later hb1 (by simp [go_sem])
  have d6 : w1.cell? ⟨w.heap.size, 6, none⟩ = some (.int .i64 x) := cell_later hb1 (by simp [go_sem])
  have d7 : w1.cell? ⟨w.heap.size, 7, none⟩ = some (.int .i64 y) := cell_later hb1 (by simp [go_sem])
  have z1 : w.heap.size < w1.heap.size := by have := hb1.size; simp at this; omega
  have hb01 := (B1 _).trans (hb1.mono (B1 _).size)
  clear hb1
  go_wp2_with fail
  refine (HK.out _).mono ?_
  rintro e w2 ⟨rfl, hb2⟩
  replace d0 := cell_later hb2 d0
  replace d1 := cell_later hb2 d1
  replace d2 := cell_later hb2 d2
  replace d3 := cell_later hb2 d3
  replace d4 := cell_later hb2 d4
  replace d5 := cell_later hb2 d5
  replace d6 := cell_later hb2 d6
  replace d7 := cell_later hb2 d7
  have hb02 := hb01.trans (hb2.mono hb01.size)
  have z2 : w.heap.size < w2.heap.size := by have := hb2.size; omega
  clear hb2
  go_wp2_with fail
  refine (HN.out _ _ _ (one_rd _ _ _ _ _ _)).mono ?_
  rintro e w3 ⟨rfl, hb3⟩
  replace d0 : w3.cell? ⟨w.heap.size, 0, none⟩ = some (.int .i64 1) := cell_later hb3 (by simp [go_sem, d0, z2])
  replace d1 : w3.cell? ⟨w.heap.size, 1, none⟩ = some (.int .i64 k) := cell_later hb3 (by simp [go_sem, d1, z2])
  replace d2 : w3.cell? ⟨w.heap.size, 2, none⟩ = some (.int .i64 c) := cell_later hb3 (by simp [go_sem, d2, z2])
  replace d3 : w3.cell? ⟨w.heap.size, 3, none⟩ = some (.string s) := cell_later hb3 (by simp [go_sem, d3, z2])
  replace d4 : w3.cell? ⟨w.heap.size, 4, none⟩ = some (.int .i64 l) := cell_later hb3 (by simp [go_sem, d4, z2])
  replace d5 : w3.cell? ⟨w.heap.size, 5, none⟩ = some (.int .i64 r) := cell_later hb3 (by simp [go_sem, d5, z2])
  replace d6 : w3.cell? ⟨w.heap.size, 6, none⟩ = some (.int .i64 x) := cell_later hb3 (by simp [go_sem, d6, z2])
  replace d7 : w3.cell? ⟨w.heap.size, 7, none⟩ = some (.int .i64 y) := cell_later hb3 (by simp [go_sem, d7, z2])
  have hb03 := (hb02.alloc hb02.size _).trans (hb3.mono (hb02.alloc hb02.size _).size)
  clear hb3
  go_wp2
  go_ret
  exact ⟨rfl, hb03⟩

set_option maxHeartbeats 1600000 in
theorem implProgFault_any (a : Option Addr) (n ca : Nat) (cs : List In) (w : World) (ha : RdR inE 8 w a n cs) (hs : inSum cs ≤ 1048576) (h1 : n ≤ 1048576) :
    Calls Try.prog 109 #[.slice a n ca] w fun e w' => e = .returned (.int .i64 (progFault cs)) ∧ Below w.heap.size w w' := by
  have hlen := ha.1
  by_cases h0 : n < 1
  · have e : progFault cs = 2 := by unfold progFault; rw [if_pos (by omega)]
    rw [e]
    have h0' : (n : Int) < 1 := by omega
    go_enter Try.func109, Try.ntmps109
    go_wp2
    go_ret
    exact ⟨rfl, Below.refl _ _⟩
  have h0' : ¬ (n : Int) < 1 := by omega
  by_cases h80 : 80 < n
  · have e : progFault cs = 2 := by unfold progFault; rw [if_pos (by omega)]
    rw [e]
    have h80' : (80 : Int) < (n : Int) := by omega
    go_enter Try.func109, Try.ntmps109
    go_wp2
    go_ret
    exact ⟨rfl, Below.refl _ _⟩
  have h80' : ¬ (80 : Int) < (n : Int) := by omega
  obtain ⟨R, hR⟩ : ∃ R, R = progFault cs := ⟨_, rfl⟩
  rw [← hR]
  have HT0 : progGo n (cs.drop 0) = R := by rw [hR]; unfold progFault; rw [if_neg (by omega), hlen]; rfl
  have HT : Hid (progGo n (cs.drop 0) = R) := HT0
  clear HT0
  have HL : Hid _ := hlen
  have HS : Hid _ := hs
  clear hR hlen hs
  go_enter Try.func109, Try.ntmps109
  go_wp2
  go_loopw [16] (fun i wr => ∃ k : Nat, k ≤ n ∧ i = .int .i64 k ∧ Hid (progGo n (cs.drop k) = R) ∧ Below w.heap.size w wr) (fun i _ => n - (intOf i).toNat)
  case atStart => exact ⟨0, Nat.zero_le _, rfl, HT, Below.refl _ _⟩
  case round =>
    obtain ⟨k, hk, rfl, ht, hbw⟩ := hrel
    clear HT
    by_cases hlt : k < n
    · obtain ⟨b1, o1, i, rfl, hx, hc1⟩ := (ha.below hbw).at hlt
      obtain ⟨c0, c1, c2, c3, c4, c5, c6, c7⟩ := eight hc1
      have hsz := inSum_at (List.mem_of_getElem? hx)
      have hss := HS.out
      have CA : Hid _ := fun w' => faultAmong_any i n w' (by omega)
      have ht2 := ht.out
      rw [progGo_at hx] at ht2
      clear hx hc1 hsz hss ht
      have hB1 : ∀ o, Below w.heap.size w (wr.alloc o) := fun o => hbw.alloc hbw.size o
      have hlt' : (k : Int) < (n : Int) := by omega
      generalize instF n i = F at CA ht2
      obtain ⟨o, k', c, s, l, r, x, y⟩ := i
      simp only at c0 c1 c2 c3 c4 c5 c6 c7 CA
      by_cases hF : F = 0
      · subst hF
        rw [if_pos rfl] at ht2
        have HT2 : Hid _ := ht2
        clear ht2
        go_wp2_with fail
        refine (CA.out _).mono ?_
        rintro e w2 ⟨rfl, hb2⟩
        go_wp2
        go_roundw
        case rel => exact ⟨k + 1, by omega, by go_num, HT2, (hB1 _).trans (hb2.mono (hB1 _).size)⟩
        case measure => simp [intOf]; omega
      · rw [if_neg hF] at ht2
        subst ht2
        have hF' : (F == 0) = false := by simpa using hF
        go_wp2_with fail
        refine (CA.out _).mono ?_
        rintro e w2 ⟨rfl, hb2⟩
        go_wp2
        go_ret
        exact ⟨rfl, (hB1 _).trans (hb2.mono (hB1 _).size)⟩
    · have ht2 := ht.out
      rw [progGo_end (by rw [HL.out]; omega)] at ht2
      subst ht2
      go_wp2
      go_ret
      exact ⟨rfl, hbw⟩

set_option maxHeartbeats 1600000 in
theorem implSetFault_any (a : Option Addr) (n ca : Nat) (cs : List In) (b : Option Addr) (m cb : Nat) (xs : List Int) (w : World) (ha : RdR inE 8 w a n cs) (hb : Rd .i64 w b m xs) (hs : inSum cs ≤ 1048576) (h1 : n ≤ 1048576) (h2 : m ≤ 1048576) :
    Calls Try.prog 35 #[.slice a n ca, .slice b m cb] w fun e w' => e = .returned (.int .i64 (setFault cs xs)) ∧ Below w.heap.size w w' := by
  have CP := fun w' h' => implProgFault_any a n ca cs w' h' hs h1
  have hlen := ha.1
  have hlenx := hb.1
  by_cases hp : progFault cs = 0
  case neg =>
    have e : setFault cs xs = progFault cs := by unfold setFault; rw [if_pos hp]
    rw [e]
    generalize progFault cs = P at *
    have hp' : (P == 0) = false := by simpa using hp
    have HP : Hid _ := CP
    clear CP hlen hlenx
    go_enter Try.func35, Try.ntmps35
    go_wp2_with fail
    refine (HP.out _ ha).mono ?_
    rintro e w1 ⟨rfl, hb1⟩
    go_wp2
    go_ret
    exact ⟨rfl, hb1⟩
  have hn80 := (progFault_ok hp).2.1
  rw [hp] at CP
  by_cases hm80 : 80 < m
  · have e : setFault cs xs = 2 := by unfold setFault; rw [if_neg (by simp [hp]), if_pos (by omega)]
    rw [e]
    have HP : Hid _ := CP
    clear CP hlen hlenx hp
    have hm80' : (80 : Int) < (m : Int) := by omega
    go_enter Try.func35, Try.ntmps35
    go_wp2_with fail
    refine (HP.out _ ha).mono ?_
    rintro e w1 ⟨rfl, hb1⟩
    go_wp2
    go_ret
    exact ⟨rfl, hb1⟩
  have hm80' : ¬ (80 : Int) < (m : Int) := by omega
  obtain ⟨R, hR⟩ : ∃ R, R = setFault cs xs := ⟨_, rfl⟩
  rw [← hR]
  have HT0 : setGo n (-1) (xs.drop 0) = R := by rw [hR]; unfold setFault; rw [if_neg (by simp [hp]), if_neg (by omega), hlen]; rfl
  have HT : Hid (setGo n (-1) (xs.drop 0) = R) := HT0
  clear HT0
  have HP : Hid _ := CP
  have HL : Hid _ := hlen
  have HX : Hid _ := hlenx
  clear hR hlen hlenx hp CP
  go_enter Try.func35, Try.ntmps35
  go_wp2_with fail
  refine (HP.out _ ha).mono ?_
  rintro e w1 ⟨rfl, hb1⟩
  replace hb := hb.below hb1
  go_wp2
  go_loopw [6, 19] (fun p i wr => ∃ (k : Nat) (P : Int), k ≤ m ∧ i = .int .i64 k ∧ p = .int .i64 P ∧ Hid (setGo n P (xs.drop k) = R) ∧ Below w1.heap.size w1 wr) (fun _ i _ => m - (intOf i).toNat)
  case atStart => exact ⟨0, -1, Nat.zero_le _, rfl, rfl, HT, Below.refl _ _⟩
  case round =>
    obtain ⟨k, P, hk, rfl, rfl, ht, hbw⟩ := hrel
    clear HT
    by_cases hlt : k < m
    · obtain ⟨b1, o1, rfl, hc1⟩ := (hb.below hbw).at hlt
      have ck := hc1 k hlt
      have ht2 := ht.out
      rw [setGo_at (by rw [HX.out]; exact hlt)] at ht2
      clear hc1 ht
      have hlt' : (k : Int) < (m : Int) := by omega
      generalize xs.getD k 0 = X at ck ht2
      by_cases hle : X ≤ P
      · rw [if_pos (.inl hle)] at ht2
        subst ht2
        go_wp2
        go_ret
        exact ⟨rfl, hb1.trans (hbw.mono hb1.size)⟩
      · by_cases hge : (n : Int) ≤ X
        · rw [if_pos (.inr hge)] at ht2
          subst ht2
          go_wp2
          go_ret
          exact ⟨rfl, hb1.trans (hbw.mono hb1.size)⟩
        · rw [if_neg (by omega)] at ht2
          have HT2 : Hid _ := ht2
          clear ht2
          go_wp2
          go_roundw
          case rel => exact ⟨k + 1, X, by omega, by go_num, rfl, HT2, hbw⟩
          case measure => simp [intOf]; omega
    · have ht2 := ht.out
      rw [setGo_end (by rw [HX.out]; omega)] at ht2
      subst ht2
      go_wp2
      go_ret
      exact ⟨rfl, hb1.trans (hbw.mono hb1.size)⟩
end Go.Proofs.Ytocophekfbhfbaa
