/-
  Chapter 7: CloseSet and StepSet, both sides.
-/
import Derived.Test.YtocophekfbhfbaaSet8M
import Derived.Test.YtocophekfbhfbaaSetD
import Derived.Test.YtocophekfbhfbaaProg2
import Derived.Test.YtocophekfbhfbaaProgA
namespace Go.Proofs.Ytocophekfbhfbaa
open Go.RowKit
set_option linter.unusedVariables false
set_option linter.unusedSimpArgs false

set_option maxHeartbeats 1600000 in
set_option maxRecDepth 20000 in
theorem specCloseSet_any (a : Option Addr) (n ca : Nat) (is : List In) (x : Option Addr) (m cx : Nat) (xs : List Int) (b e : Bool) (w : World) (ha : RdR inE 8 w a n is) (hx : Rd .i64 w x m xs) (hs : inSum is ≤ 1048576) (h1 : n ≤ 1048576) (h2 : m ≤ 1048576) :
    Calls Try.prog 34 #[.slice a n ca, .slice x m cx, .bool b, .bool e] w fun r w' => ∃ v, r = .returned (.agg #[.int .i64 (setFault is xs), v]) ∧ RowI .i64 2 w' w.heap.size w'.heap.size v (clRes is xs b e).length (clRes is xs b e) ∧ Below w.heap.size w w' := by
  have CS := fun w' h' h'' => l7Set_any a n ca is x m cx xs w' h' h'' hs h1 h2
  have B1 : ∀ o, Below w.heap.size w (w.alloc o) := fun o => (Below.refl _ _).alloc (Nat.le_refl _) o
  by_cases hf : setFault is xs = 0
  case neg =>
    have e0 : clRes is xs b e = [] := by unfold clRes; rw [if_neg hf]
    rw [e0]
    generalize setFault is xs = P at *
    have hf' : (P == 0) = false := by simpa using hf
    have HS : Hid _ := CS
    clear CS e0
    go_enter Try.func34, Try.ntmps34
    go_wp2_with fail
    refine (HS.out _ (ha.below (B1 _)) (hx.below (B1 _))).mono ?_
    rintro r w1 ⟨rfl, hb1⟩
    have d0 : w1.cell? ⟨w.heap.size, 0, none⟩ = some (.int .i64 0) := cell_later hb1 (by simp [go_sem])
    have df0 : w1.frozen? ⟨w.heap.size, 0, none⟩ = false := (hb1.frozen (p := ⟨w.heap.size, 0, none⟩) (by simp)).trans (by simp [go_sem])
    have d1 : w1.cell? ⟨w.heap.size, 1, none⟩ = some (.slice none 0 0) := cell_later hb1 (by simp [go_sem])
    have df1 : w1.frozen? ⟨w.heap.size, 1, none⟩ = false := (hb1.frozen (p := ⟨w.heap.size, 1, none⟩) (by simp)).trans (by simp [go_sem])
    have hb01 := (B1 _).trans (hb1.mono (B1 _).size)
    have hz1 : w.heap.size < w1.heap.size := by have := hb1.size; simp at this; omega
    clear hb1
    go_wp2
    refine bodyPost_ret (v := .agg #[.int .i64 P, .slice none 0 0]) (by simp [results, Try.results34, go_sem, d0, d1]) rfl ⟨_, rfl, RowI.nil _ _ _ _ _, ?_⟩
    first | exact (hb01.setCell (Nat.le_refl _) _).setCell (Nat.le_refl _) _ | exact hb01.setCell (Nat.le_refl _) _
  obtain ⟨hpf, hm80, hxs⟩ := setFault_ok hf
  obtain ⟨hn1, hn80, -⟩ := progFault_ok hpf
  have hin := inside_of hpf
  have hlen := ha.1
  have hlx := hx.1
  have e0 : clRes is xs b e = placesOf (closeS is b e xs) := by unfold clRes; rw [if_pos hf]
  rw [e0]
  rw [hf] at CS ⊢
  have CC := fun w' h' h'' => l7Close_any a n ca is x m cx xs b e hin (by omega) (by omega) h2 (fun q hq => by have := hxs q hq; omega) w' h' h''
  generalize placesOf (closeS is b e xs) = L at CC ⊢
  have HS : Hid _ := CS
  have HC : Hid _ := CC
  clear CS CC e0 hf hpf hxs hin hlen hlx
  skip
  · go_enter Try.func34, Try.ntmps34
    go_wp2_with fail
    refine (HS.out _ (ha.below (B1 _)) (hx.below (B1 _))).mono ?_
    rintro r w1 ⟨rfl, hb1⟩
    have d0 : w1.cell? ⟨w.heap.size, 0, none⟩ = some (.int .i64 0) := cell_later hb1 (by simp [go_sem])
    have df0 : w1.frozen? ⟨w.heap.size, 0, none⟩ = false := (hb1.frozen (p := ⟨w.heap.size, 0, none⟩) (by simp)).trans (by simp [go_sem])
    have d1 : w1.cell? ⟨w.heap.size, 1, none⟩ = some (.slice none 0 0) := cell_later hb1 (by simp [go_sem])
    have df1 : w1.frozen? ⟨w.heap.size, 1, none⟩ = false := (hb1.frozen (p := ⟨w.heap.size, 1, none⟩) (by simp)).trans (by simp [go_sem])
    have hb01 := (B1 _).trans (hb1.mono (B1 _).size)
    have hz1 : w.heap.size < w1.heap.size := by have := hb1.size; simp at this; omega
    clear hb1
    go_wp2_with fail
    refine (HC.out _ (ha.below hb01) (hx.below hb01)).mono ?_
    rintro r w2 ⟨v, rfl, ho2, hb2⟩
    replace d0 := cell_later hb2 d0
    replace df0 : w2.frozen? ⟨w.heap.size, 0, none⟩ = false := (hb2.frozen (p := ⟨w.heap.size, 0, none⟩) (by exact hz1)).trans df0
    replace d1 := cell_later hb2 d1
    replace df1 : w2.frozen? ⟨w.heap.size, 1, none⟩ = false := (hb2.frozen (p := ⟨w.heap.size, 1, none⟩) (by exact hz1)).trans df1
    have hb02 := hb01.trans (hb2.mono hb01.size)
    have hz2 : w1.heap.size ≤ w2.heap.size := hb2.size
    obtain ⟨va, vc, hv, -⟩ := ho2.rd
    subst hv
    clear hb2
    go_wp2
    have S : ∀ (W : World) (i : Nat) (u : Value), RowI .i64 2 W w1.heap.size w2.heap.size (.slice va L.length vc) L.length L → RowI .i64 2 (W.setCell ⟨w.heap.size, i, none⟩ u) w1.heap.size w2.heap.size (.slice va L.length vc) L.length L := fun W i u h => h.chg (Chg.one (set_grown W w.heap.size i u)) (.inr (by omega))
    refine bodyPost_ret (v := .agg #[.int .i64 0, .slice va L.length vc]) (by simp [results, Try.results34, go_sem, d0, d1]) rfl ⟨_, rfl, ?_, ?_⟩
    · refine RowI.mono (S _ _ _ (S _ _ _ (RowI.of ho2))) (by omega) (by simp [World.setCell])
    · exact (hb02.setCell (Nat.le_refl _) _).setCell (Nat.le_refl _) _

set_option maxHeartbeats 1600000 in
set_option maxRecDepth 20000 in
theorem implCloseSet_any (a : Option Addr) (n ca : Nat) (is : List In) (x : Option Addr) (m cx : Nat) (xs : List Int) (b e : Bool) (w : World) (ha : RdR inE 8 w a n is) (hx : Rd .i64 w x m xs) (hs : inSum is ≤ 1048576) (h1 : n ≤ 1048576) (h2 : m ≤ 1048576) :
    Calls Try.prog 33 #[.slice a n ca, .slice x m cx, .bool b, .bool e] w fun r w' => ∃ v, r = .returned (.agg #[.int .i64 (setFault is xs), v]) ∧ RowI .i64 2 w' w.heap.size w'.heap.size v (clRes is xs b e).length (clRes is xs b e) ∧ Below w.heap.size w w' := by
  have CS := fun w' h' h'' => implSetFault_any a n ca is x m cx xs w' h' h'' hs h1 h2
  have B1 : ∀ o, Below w.heap.size w (w.alloc o) := fun o => (Below.refl _ _).alloc (Nat.le_refl _) o
  by_cases hf : setFault is xs = 0
  case neg =>
    have e0 : clRes is xs b e = [] := by unfold clRes; rw [if_neg hf]
    rw [e0]
    generalize setFault is xs = P at *
    have hf' : (P == 0) = false := by simpa using hf
    have HS : Hid _ := CS
    clear CS e0
    go_enter Try.func33, Try.ntmps33
    go_wp2_with fail
    refine (HS.out _ (ha.below (B1 _)) (hx.below (B1 _))).mono ?_
    rintro r w1 ⟨rfl, hb1⟩
    have d0 : w1.cell? ⟨w.heap.size, 0, none⟩ = some (.int .i64 0) := cell_later hb1 (by simp [go_sem])
    have df0 : w1.frozen? ⟨w.heap.size, 0, none⟩ = false := (hb1.frozen (p := ⟨w.heap.size, 0, none⟩) (by simp)).trans (by simp [go_sem])
    have d1 : w1.cell? ⟨w.heap.size, 1, none⟩ = some (.slice none 0 0) := cell_later hb1 (by simp [go_sem])
    have df1 : w1.frozen? ⟨w.heap.size, 1, none⟩ = false := (hb1.frozen (p := ⟨w.heap.size, 1, none⟩) (by simp)).trans (by simp [go_sem])
    have hb01 := (B1 _).trans (hb1.mono (B1 _).size)
    have hz1 : w.heap.size < w1.heap.size := by have := hb1.size; simp at this; omega
    clear hb1
    go_wp2
    refine bodyPost_ret (v := .agg #[.int .i64 P, .slice none 0 0]) (by simp [results, Try.results33, go_sem, d0, d1]) rfl ⟨_, rfl, RowI.nil _ _ _ _ _, ?_⟩
    first | exact (hb01.setCell (Nat.le_refl _) _).setCell (Nat.le_refl _) _ | exact hb01.setCell (Nat.le_refl _) _
  obtain ⟨hpf, hm80, hxs⟩ := setFault_ok hf
  obtain ⟨hn1, hn80, -⟩ := progFault_ok hpf
  have hin := inside_of hpf
  have hlen := ha.1
  have hlx := hx.1
  have e0 : clRes is xs b e = placesOf (closeS is b e xs) := by unfold clRes; rw [if_pos hf]
  rw [e0]
  rw [hf] at CS ⊢
  have hx80 : ∀ q ∈ xs, 0 ≤ q ∧ q < 80 := fun q hq => by have := hxs q hq; omega
  have hbn : BelowN (markB xs) n := below_markB (by omega) (fun q hq => by have := hxs q hq; omega)
  have CM := fun w' h' => setOfList_any x m cx xs w' h' hx80 (by omega)
  have CC := fun w' h' => closed_any a n ca is b e hin (by omega) (markB xs) w' (markB_len xs) hbn h'
  have hmem := fun p => markB_places hx80 (k := 80) (fun q hq => (hx80 q hq).2) p
  have epl : placesOf (markB xs) = placesTo (markB xs) 80 := by unfold placesOf; rw [markB_len]
  rw [← epl] at hmem
  have heq := close_eq hin (by omega) b e (ps := placesOf (markB xs)) (qs := xs) hmem (fun p hp => by have := hxs p ((hmem p).1 hp); omega)
  have hl80 := dfsAll_len (goes_of hin b e).1 80 (by omega) (Nat.le_refl _) (List.replicate 80 false) (by simp) (placesOf (markB xs)) (fun p hp => by have := hxs p ((hmem p).1 hp); omega)
  have CL := fun w' => list_any _ (closeI is b e (placesOf (markB xs))) rfl hl80 w'
  rw [heq] at CL
  generalize placesOf (closeS is b e xs) = L at CL ⊢
  generalize boolsA (closeI is b e (placesOf (markB xs))) = A2 at CC CL
  generalize boolsA (markB xs) = A1 at CM CC
  have HS : Hid _ := CS
  have HM : Hid _ := CM
  have HC : Hid _ := CC
  have HL : Hid _ := CL
  clear CS CM CC CL e0 hf hpf hxs hin hlen hlx hx80 hbn hmem heq epl hl80
  skip
  · go_enter Try.func33, Try.ntmps33
    go_wp2_with fail
    refine (HS.out _ (ha.below (B1 _)) (hx.below (B1 _))).mono ?_
    rintro r w1 ⟨rfl, hb1⟩
    have d0 : w1.cell? ⟨w.heap.size, 0, none⟩ = some (.int .i64 0) := cell_later hb1 (by simp [go_sem])
    have df0 : w1.frozen? ⟨w.heap.size, 0, none⟩ = false := (hb1.frozen (p := ⟨w.heap.size, 0, none⟩) (by simp)).trans (by simp [go_sem])
    have d1 : w1.cell? ⟨w.heap.size, 1, none⟩ = some (.slice none 0 0) := cell_later hb1 (by simp [go_sem])
    have df1 : w1.frozen? ⟨w.heap.size, 1, none⟩ = false := (hb1.frozen (p := ⟨w.heap.size, 1, none⟩) (by simp)).trans (by simp [go_sem])
    have hb01 := (B1 _).trans (hb1.mono (B1 _).size)
    have hz1 : w.heap.size < w1.heap.size := by have := hb1.size; simp at this; omega
    clear hb1
    go_wp2_with fail
    refine (HM.out _ (hx.below hb01)).mono ?_
    rintro r w2 ⟨rfl, hb2⟩
    replace d0 := cell_later hb2 d0
    replace df0 : w2.frozen? ⟨w.heap.size, 0, none⟩ = false := (hb2.frozen (p := ⟨w.heap.size, 0, none⟩) (by exact hz1)).trans df0
    replace d1 := cell_later hb2 d1
    replace df1 : w2.frozen? ⟨w.heap.size, 1, none⟩ = false := (hb2.frozen (p := ⟨w.heap.size, 1, none⟩) (by exact hz1)).trans df1
    have hb02 := hb01.trans (hb2.mono hb01.size)
    have hz2 : w.heap.size < w2.heap.size := Nat.lt_of_lt_of_le hz1 hb2.size
    clear hb2
    go_wp2_with fail
    refine (HC.out _ (ha.below hb02)).mono ?_
    rintro r w3 ⟨rfl, hb3⟩
    replace d0 := cell_later hb3 d0
    replace df0 : w3.frozen? ⟨w.heap.size, 0, none⟩ = false := (hb3.frozen (p := ⟨w.heap.size, 0, none⟩) (by exact hz2)).trans df0
    replace d1 := cell_later hb3 d1
    replace df1 : w3.frozen? ⟨w.heap.size, 1, none⟩ = false := (hb3.frozen (p := ⟨w.heap.size, 1, none⟩) (by exact hz2)).trans df1
    have hb03 := hb02.trans (hb3.mono hb02.size)
    have hz3 : w.heap.size < w3.heap.size := Nat.lt_of_lt_of_le hz2 hb3.size
    clear hb3
    go_wp2_with fail
    refine (HL.out _).mono ?_
    rintro r w4 ⟨v, rfl, ho4, hb4⟩
    replace d0 := cell_later hb4 d0
    replace df0 : w4.frozen? ⟨w.heap.size, 0, none⟩ = false := (hb4.frozen (p := ⟨w.heap.size, 0, none⟩) (by exact hz3)).trans df0
    replace d1 := cell_later hb4 d1
    replace df1 : w4.frozen? ⟨w.heap.size, 1, none⟩ = false := (hb4.frozen (p := ⟨w.heap.size, 1, none⟩) (by exact hz3)).trans df1
    have hb04 := hb03.trans (hb4.mono hb03.size)
    have hz4 : w3.heap.size ≤ w4.heap.size := hb4.size
    obtain ⟨va, vc, hv, -⟩ := ho4.rd
    subst hv
    clear hb4
    go_wp2
    have S : ∀ (W : World) (i : Nat) (u : Value), RowI .i64 2 W w3.heap.size w4.heap.size (.slice va L.length vc) L.length L → RowI .i64 2 (W.setCell ⟨w.heap.size, i, none⟩ u) w3.heap.size w4.heap.size (.slice va L.length vc) L.length L := fun W i u h => h.chg (Chg.one (set_grown W w.heap.size i u)) (.inr (by omega))
    refine bodyPost_ret (v := .agg #[.int .i64 0, .slice va L.length vc]) (by simp [results, Try.results33, go_sem, d0, d1]) rfl ⟨_, rfl, ?_, ?_⟩
    · refine RowI.mono (S _ _ _ (S _ _ _ (RowI.of ho4))) (by omega) (by simp [World.setCell])
    · exact (hb04.setCell (Nat.le_refl _) _).setCell (Nat.le_refl _) _

set_option maxHeartbeats 1600000 in
set_option maxRecDepth 20000 in
theorem specStepSet_any (a : Option Addr) (n ca : Nat) (is : List In) (x : Option Addr) (m cx : Nat) (xs : List Int) (d : Int) (hd0 : 0 ≤ d) (hd1 : d < 256) (w : World) (ha : RdR inE 8 w a n is) (hx : Rd .i64 w x m xs) (hs : inSum is ≤ 1048576) (h1 : n ≤ 1048576) (h2 : m ≤ 1048576) :
    Calls Try.prog 39 #[.slice a n ca, .slice x m cx, .int .u8 d] w fun r w' => ∃ v, r = .returned (.agg #[.int .i64 (setFault is xs), v]) ∧ RowI .i64 2 w' w.heap.size w'.heap.size v (stRes is xs d).length (stRes is xs d) ∧ Below w.heap.size w w' := by
  have CS := fun w' h' h'' => l7Set_any a n ca is x m cx xs w' h' h'' hs h1 h2
  have B1 : ∀ o, Below w.heap.size w (w.alloc o) := fun o => (Below.refl _ _).alloc (Nat.le_refl _) o
  by_cases hf : setFault is xs = 0
  case neg =>
    have e0 : stRes is xs d = [] := by unfold stRes; rw [if_neg hf]
    rw [e0]
    generalize setFault is xs = P at *
    have hf' : (P == 0) = false := by simpa using hf
    have HS : Hid _ := CS
    clear CS e0
    go_enter Try.func39, Try.ntmps39
    go_wp2_with fail
    refine (HS.out _ (ha.below (B1 _)) (hx.below (B1 _))).mono ?_
    rintro r w1 ⟨rfl, hb1⟩
    have d0 : w1.cell? ⟨w.heap.size, 0, none⟩ = some (.int .i64 0) := cell_later hb1 (by simp [go_sem])
    have df0 : w1.frozen? ⟨w.heap.size, 0, none⟩ = false := (hb1.frozen (p := ⟨w.heap.size, 0, none⟩) (by simp)).trans (by simp [go_sem])
    have d1 : w1.cell? ⟨w.heap.size, 1, none⟩ = some (.slice none 0 0) := cell_later hb1 (by simp [go_sem])
    have df1 : w1.frozen? ⟨w.heap.size, 1, none⟩ = false := (hb1.frozen (p := ⟨w.heap.size, 1, none⟩) (by simp)).trans (by simp [go_sem])
    have hb01 := (B1 _).trans (hb1.mono (B1 _).size)
    have hz1 : w.heap.size < w1.heap.size := by have := hb1.size; simp at this; omega
    clear hb1
    go_wp2
    refine bodyPost_ret (v := .agg #[.int .i64 P, .slice none 0 0]) (by simp [results, Try.results39, go_sem, d0, d1]) rfl ⟨_, rfl, RowI.nil _ _ _ _ _, ?_⟩
    first | exact (hb01.setCell (Nat.le_refl _) _).setCell (Nat.le_refl _) _ | exact hb01.setCell (Nat.le_refl _) _
  obtain ⟨hpf, hm80, hxs⟩ := setFault_ok hf
  obtain ⟨hn1, hn80, -⟩ := progFault_ok hpf
  have hin := inside_of hpf
  have hlen := ha.1
  have hlx := hx.1
  have e0 : stRes is xs d = placesOf (stepS is d xs) := by unfold stRes; rw [if_pos hf]
  rw [e0]
  rw [hf] at CS ⊢
  have CC := fun w' h' h'' => l7Step_any a n ca is x m cx xs d hd0 hd1 hin hs (by omega) (by omega) h2 (fun q hq => by have := hxs q hq; omega) w' h' h''
  generalize placesOf (stepS is d xs) = L at CC ⊢
  have HS : Hid _ := CS
  have HC : Hid _ := CC
  clear CS CC e0 hf hpf hxs hin hlen hlx
  skip
  · go_enter Try.func39, Try.ntmps39
    go_wp2_with fail
    refine (HS.out _ (ha.below (B1 _)) (hx.below (B1 _))).mono ?_
    rintro r w1 ⟨rfl, hb1⟩
    have d0 : w1.cell? ⟨w.heap.size, 0, none⟩ = some (.int .i64 0) := cell_later hb1 (by simp [go_sem])
    have df0 : w1.frozen? ⟨w.heap.size, 0, none⟩ = false := (hb1.frozen (p := ⟨w.heap.size, 0, none⟩) (by simp)).trans (by simp [go_sem])
    have d1 : w1.cell? ⟨w.heap.size, 1, none⟩ = some (.slice none 0 0) := cell_later hb1 (by simp [go_sem])
    have df1 : w1.frozen? ⟨w.heap.size, 1, none⟩ = false := (hb1.frozen (p := ⟨w.heap.size, 1, none⟩) (by simp)).trans (by simp [go_sem])
    have hb01 := (B1 _).trans (hb1.mono (B1 _).size)
    have hz1 : w.heap.size < w1.heap.size := by have := hb1.size; simp at this; omega
    clear hb1
    go_wp2_with fail
    refine (HC.out _ (ha.below hb01) (hx.below hb01)).mono ?_
    rintro r w2 ⟨v, rfl, ho2, hb2⟩
    replace d0 := cell_later hb2 d0
    replace df0 : w2.frozen? ⟨w.heap.size, 0, none⟩ = false := (hb2.frozen (p := ⟨w.heap.size, 0, none⟩) (by exact hz1)).trans df0
    replace d1 := cell_later hb2 d1
    replace df1 : w2.frozen? ⟨w.heap.size, 1, none⟩ = false := (hb2.frozen (p := ⟨w.heap.size, 1, none⟩) (by exact hz1)).trans df1
    have hb02 := hb01.trans (hb2.mono hb01.size)
    have hz2 : w1.heap.size ≤ w2.heap.size := hb2.size
    obtain ⟨va, vc, hv, -⟩ := ho2.rd
    subst hv
    clear hb2
    go_wp2
    have S : ∀ (W : World) (i : Nat) (u : Value), RowI .i64 2 W w1.heap.size w2.heap.size (.slice va L.length vc) L.length L → RowI .i64 2 (W.setCell ⟨w.heap.size, i, none⟩ u) w1.heap.size w2.heap.size (.slice va L.length vc) L.length L := fun W i u h => h.chg (Chg.one (set_grown W w.heap.size i u)) (.inr (by omega))
    refine bodyPost_ret (v := .agg #[.int .i64 0, .slice va L.length vc]) (by simp [results, Try.results39, go_sem, d0, d1]) rfl ⟨_, rfl, ?_, ?_⟩
    · refine RowI.mono (S _ _ _ (S _ _ _ (RowI.of ho2))) (by omega) (by simp [World.setCell])
    · exact (hb02.setCell (Nat.le_refl _) _).setCell (Nat.le_refl _) _

set_option maxHeartbeats 1600000 in
set_option maxRecDepth 20000 in
theorem implStepSet_any (a : Option Addr) (n ca : Nat) (is : List In) (x : Option Addr) (m cx : Nat) (xs : List Int) (d : Int) (hd0 : 0 ≤ d) (hd1 : d < 256) (w : World) (ha : RdR inE 8 w a n is) (hx : Rd .i64 w x m xs) (hs : inSum is ≤ 1048576) (h1 : n ≤ 1048576) (h2 : m ≤ 1048576) :
    Calls Try.prog 38 #[.slice a n ca, .slice x m cx, .int .u8 d] w fun r w' => ∃ v, r = .returned (.agg #[.int .i64 (setFault is xs), v]) ∧ RowI .i64 2 w' w.heap.size w'.heap.size v (stRes is xs d).length (stRes is xs d) ∧ Below w.heap.size w w' := by
  have CS := fun w' h' h'' => implSetFault_any a n ca is x m cx xs w' h' h'' hs h1 h2
  have B1 : ∀ o, Below w.heap.size w (w.alloc o) := fun o => (Below.refl _ _).alloc (Nat.le_refl _) o
  by_cases hf : setFault is xs = 0
  case neg =>
    have e0 : stRes is xs d = [] := by unfold stRes; rw [if_neg hf]
    rw [e0]
    generalize setFault is xs = P at *
    have hf' : (P == 0) = false := by simpa using hf
    have HS : Hid _ := CS
    clear CS e0
    go_enter Try.func38, Try.ntmps38
    go_wp2_with fail
    refine (HS.out _ (ha.below (B1 _)) (hx.below (B1 _))).mono ?_
    rintro r w1 ⟨rfl, hb1⟩
    have d0 : w1.cell? ⟨w.heap.size, 0, none⟩ = some (.int .i64 0) := cell_later hb1 (by simp [go_sem])
    have df0 : w1.frozen? ⟨w.heap.size, 0, none⟩ = false := (hb1.frozen (p := ⟨w.heap.size, 0, none⟩) (by simp)).trans (by simp [go_sem])
    have d1 : w1.cell? ⟨w.heap.size, 1, none⟩ = some (.slice none 0 0) := cell_later hb1 (by simp [go_sem])
    have df1 : w1.frozen? ⟨w.heap.size, 1, none⟩ = false := (hb1.frozen (p := ⟨w.heap.size, 1, none⟩) (by simp)).trans (by simp [go_sem])
    have hb01 := (B1 _).trans (hb1.mono (B1 _).size)
    have hz1 : w.heap.size < w1.heap.size := by have := hb1.size; simp at this; omega
    clear hb1
    go_wp2
    refine bodyPost_ret (v := .agg #[.int .i64 P, .slice none 0 0]) (by simp [results, Try.results38, go_sem, d0, d1]) rfl ⟨_, rfl, RowI.nil _ _ _ _ _, ?_⟩
    first | exact (hb01.setCell (Nat.le_refl _) _).setCell (Nat.le_refl _) _ | exact hb01.setCell (Nat.le_refl _) _
  obtain ⟨hpf, hm80, hxs⟩ := setFault_ok hf
  obtain ⟨hn1, hn80, -⟩ := progFault_ok hpf
  have hin := inside_of hpf
  have hlen := ha.1
  have hlx := hx.1
  have e0 : stRes is xs d = placesOf (stepS is d xs) := by unfold stRes; rw [if_pos hf]
  rw [e0]
  rw [hf] at CS ⊢
  have hx80 : ∀ q ∈ xs, 0 ≤ q ∧ q < 80 := fun q hq => by have := hxs q hq; omega
  have hbn : BelowN (markB xs) n := below_markB (by omega) (fun q hq => by have := hxs q hq; omega)
  have CM := fun w' h' => setOfList_any x m cx xs w' h' hx80 (by omega)
  have CC := fun w' h' => stepped_any a n ca is hin d hd0 hd1 (by omega) (markB xs) w' (markB_len xs) h'
  have hmem := fun p => markB_places hx80 (k := n) (fun q hq => by have := hxs q hq; omega) p
  have heq := step_eq hin (by omega) d (ps := placesTo (markB xs) n) (qs := xs) hmem
  have CL := fun w' => list_any _ (stepI is d (placesTo (markB xs) n)) rfl (stepI_len _ _ _) w'
  rw [heq] at CL
  generalize placesOf (stepS is d xs) = L at CL ⊢
  generalize boolsA (stepI is d (placesTo (markB xs) n)) = A2 at CC CL
  generalize boolsA (markB xs) = A1 at CM CC
  have HS : Hid _ := CS
  have HM : Hid _ := CM
  have HC : Hid _ := CC
  have HL : Hid _ := CL
  clear CS CM CC CL e0 hf hpf hxs hin hlen hlx hx80 hbn hmem heq 
  skip
  · go_enter Try.func38, Try.ntmps38
    go_wp2_with fail
    refine (HS.out _ (ha.below (B1 _)) (hx.below (B1 _))).mono ?_
    rintro r w1 ⟨rfl, hb1⟩
    have d0 : w1.cell? ⟨w.heap.size, 0, none⟩ = some (.int .i64 0) := cell_later hb1 (by simp [go_sem])
    have df0 : w1.frozen? ⟨w.heap.size, 0, none⟩ = false := (hb1.frozen (p := ⟨w.heap.size, 0, none⟩) (by simp)).trans (by simp [go_sem])
    have d1 : w1.cell? ⟨w.heap.size, 1, none⟩ = some (.slice none 0 0) := cell_later hb1 (by simp [go_sem])
    have df1 : w1.frozen? ⟨w.heap.size, 1, none⟩ = false := (hb1.frozen (p := ⟨w.heap.size, 1, none⟩) (by simp)).trans (by simp [go_sem])
    have hb01 := (B1 _).trans (hb1.mono (B1 _).size)
    have hz1 : w.heap.size < w1.heap.size := by have := hb1.size; simp at this; omega
    clear hb1
    go_wp2_with fail
    refine (HM.out _ (hx.below hb01)).mono ?_
    rintro r w2 ⟨rfl, hb2⟩
    replace d0 := cell_later hb2 d0
    replace df0 : w2.frozen? ⟨w.heap.size, 0, none⟩ = false := (hb2.frozen (p := ⟨w.heap.size, 0, none⟩) (by exact hz1)).trans df0
    replace d1 := cell_later hb2 d1
    replace df1 : w2.frozen? ⟨w.heap.size, 1, none⟩ = false := (hb2.frozen (p := ⟨w.heap.size, 1, none⟩) (by exact hz1)).trans df1
    have hb02 := hb01.trans (hb2.mono hb01.size)
    have hz2 : w.heap.size < w2.heap.size := Nat.lt_of_lt_of_le hz1 hb2.size
    clear hb2
    go_wp2_with fail
    refine (HC.out _ (ha.below hb02)).mono ?_
    rintro r w3 ⟨rfl, hb3⟩
    replace d0 := cell_later hb3 d0
    replace df0 : w3.frozen? ⟨w.heap.size, 0, none⟩ = false := (hb3.frozen (p := ⟨w.heap.size, 0, none⟩) (by exact hz2)).trans df0
    replace d1 := cell_later hb3 d1
    replace df1 : w3.frozen? ⟨w.heap.size, 1, none⟩ = false := (hb3.frozen (p := ⟨w.heap.size, 1, none⟩) (by exact hz2)).trans df1
    have hb03 := hb02.trans (hb3.mono hb02.size)
    have hz3 : w.heap.size < w3.heap.size := Nat.lt_of_lt_of_le hz2 hb3.size
    clear hb3
    go_wp2_with fail
    refine (HL.out _).mono ?_
    rintro r w4 ⟨v, rfl, ho4, hb4⟩
    replace d0 := cell_later hb4 d0
    replace df0 : w4.frozen? ⟨w.heap.size, 0, none⟩ = false := (hb4.frozen (p := ⟨w.heap.size, 0, none⟩) (by exact hz3)).trans df0
    replace d1 := cell_later hb4 d1
    replace df1 : w4.frozen? ⟨w.heap.size, 1, none⟩ = false := (hb4.frozen (p := ⟨w.heap.size, 1, none⟩) (by exact hz3)).trans df1
    have hb04 := hb03.trans (hb4.mono hb03.size)
    have hz4 : w3.heap.size ≤ w4.heap.size := hb4.size
    obtain ⟨va, vc, hv, -⟩ := ho4.rd
    subst hv
    clear hb4
    go_wp2
    have S : ∀ (W : World) (i : Nat) (u : Value), RowI .i64 2 W w3.heap.size w4.heap.size (.slice va L.length vc) L.length L → RowI .i64 2 (W.setCell ⟨w.heap.size, i, none⟩ u) w3.heap.size w4.heap.size (.slice va L.length vc) L.length L := fun W i u h => h.chg (Chg.one (set_grown W w.heap.size i u)) (.inr (by omega))
    refine bodyPost_ret (v := .agg #[.int .i64 0, .slice va L.length vc]) (by simp [results, Try.results38, go_sem, d0, d1]) rfl ⟨_, rfl, ?_, ?_⟩
    · refine RowI.mono (S _ _ _ (S _ _ _ (RowI.of ho4))) (by omega) (by simp [World.setCell])
    · exact (hb04.setCell (Nat.le_refl _) _).setCell (Nat.le_refl _) _
end Go.Proofs.Ytocophekfbhfbaa
