/-
  Spots as complex numbers: how they are made, found and told, of the program.
-/
import Derived.Test.YtjgmkcmlkffjlaaDoorFlt
import Derived.Test.YtjgmkcmlkffjlaaDoorRowM
import Derived.Test.YtjgmkcmlkffjlaaDoorAppR
import Derived.Test.YtjgmkcmlkffjlaaDoorRow1
import Derived.Laws.Cover3
namespace Go.Proofs.YtjgmkcmlkffjlaaDoor
open Go.RowKit
set_option linter.unusedVariables false
set_option linter.unusedSimpArgs false

/-- a spot as the program's number -/
def cx (s : Int × Int) : Value := .complex .f64 (FloatKind.f64.nearest s.1) (FloatKind.f64.nearest s.2)
def cxE (s : Int × Int) : List Value := [cx s]
theorem cxE_len (s : Int × Int) : (cxE s).length = 1 := rfl
theorem cxE_one (s : Int × Int) : ∀ u ∈ cxE s, u.oneCell' = true := by
  intro u hu
  simp [cxE] at hu
  subst hu; rfl
/-- a spot whose numbers a float tells exactly, and none below nought -/
def smallSp (s : Int × Int) : Prop := (0 ≤ s.1 ∧ s.1 < 2 ^ 52) ∧ 0 ≤ s.2 ∧ s.2 < 2 ^ 52
def i64Sp (s : Int × Int) : Prop := (-(2 ^ 63) ≤ s.1 ∧ s.1 < 2 ^ 63) ∧ -(2 ^ 63) ≤ s.2 ∧ s.2 < 2 ^ 63

theorem cx_is (x y : Int × Int) (hx : i64Sp x) (hy : smallSp y) : ((FloatKind.f64.format.order (FloatKind.f64.nearest x.1) (FloatKind.f64.nearest y.1) == some .eq) && (FloatKind.f64.format.order (FloatKind.f64.nearest x.2) (FloatKind.f64.nearest y.2) == some .eq)) = decide (x = y) := by
  rw [near_eq x.1 y.1 hx.1.1 hx.1.2 hy.1.1 hy.1.2, near_eq x.2 y.2 hx.2.1 hx.2.2 hy.2.1 hy.2.2, Bool.eq_iff_iff]
  simp [Prod.ext_iff]

set_option maxHeartbeats 800000 in
theorem numberOf_any (L R : Int) (w : World) :
    Calls Tryd.prog 27 #[.agg #[.int .i64 L, .int .i64 R]] w fun e w' => e = .returned (cx (L, R)) ∧ Below w.heap.size w w' := by
  go_enter Tryd.func27, Tryd.ntmps27
  go_wp2
  go_ret
  exact ⟨rfl, (Below.refl _ _).alloc (Nat.le_refl _) _⟩

set_option maxHeartbeats 800000 in
theorem spotOf_any (s : Int × Int) (hs : smallSp s) (w : World) :
    Calls Tryd.prog 35 #[cx s] w fun e w' => e = .returned (.agg #[.int .i64 s.1, .int .i64 s.2]) ∧ Below w.heap.size w w' := by
  have h1 := back_near s.1 hs.1.1 hs.1.2
  have h2 := back_near s.2 hs.2.1 hs.2.2
  unfold cx
  generalize FloatKind.f64.nearest s.1 = A at *
  generalize FloatKind.f64.nearest s.2 = B at *
  have q1 : ∀ w, (convert 91 2 (.float .f64 A)).run Tryd.prog w = .ok (.int .i64 s.1) w := fun w => run_convert_float_int w _ _ _ _ _ _ (by rw [Tryd.underlying91]; rfl) Tryd.underlying2 h1
  have q2 : ∀ w, (convert 91 2 (.float .f64 B)).run Tryd.prog w = .ok (.int .i64 s.2) w := fun w => run_convert_float_int w _ _ _ _ _ _ (by rw [Tryd.underlying91]; rfl) Tryd.underlying2 h2
  obtain ⟨s1, s2⟩ := s
  simp only at q1 q2 ⊢
  clear hs h1 h2
  go_enter Tryd.func35, Tryd.ntmps35
  go_wp2
  exact bodyPost_ret (v := .agg #[.int .i64 s1, .int .i64 s2]) (by simp [results, Tryd.results35, go_sem]) rfl ⟨rfl, (Below.refl _ _).alloc (Nat.le_refl _) _⟩

/-- none of the first k is it -/
def NotIn (x : Int × Int) (ys : List (Int × Int)) (k : Nat) : Prop := ∀ j, j < k → ys[j]? ≠ some x

set_option maxHeartbeats 1600000 in
theorem cIndex_any (x : Int × Int) (a : Option Addr) (n ca : Nat) (ys : List (Int × Int)) (w : World) (hr : RdR cxE 1 w a n ys) (hx : i64Sp x) (hy : ∀ y ∈ ys, smallSp y) (hn : n ≤ 1000000000) :
    Calls Tryd.prog 34 #[.slice a n ca, cx x] w fun e w' => ∃ r : Int, e = .returned (.int .i64 r) ∧ w' = w ∧ ((r = -1 ∧ x ∉ ys) ∨ ∃ k : Nat, r = k ∧ ys[k]? = some x) := by
  have hlen := hr.1
  have hcx := cx_is x
  unfold cx
  generalize FloatKind.f64.nearest x.1 = A at *
  generalize FloatKind.f64.nearest x.2 = B at *
  have HCX : Hid _ := hcx
  clear hcx
  go_enter Tryd.func34, Tryd.ntmps34
  go_wp2
  go_loop [8] (fun t => ∃ k : Nat, t = .int .i64 k ∧ k ≤ n ∧ Hid (NotIn x ys k)) (fun t => n - (intOf t).toNat)
  case atStart => exact ⟨0, rfl, Nat.zero_le _, fun j hj => absurd hj (by omega)⟩
  case round =>
    obtain ⟨k, rfl, hk, hnot⟩ := hrel
    by_cases hlt : k < n
    · obtain ⟨B0, o, y, rfl, hyk, hc⟩ := hr.at hlt
      have hc0 := hc 0 _ rfl
      simp only [Nat.mul_one, Nat.add_zero] at hc0
      have heq := HCX.out y hx (hy y (List.mem_of_getElem? hyk))
      unfold cx at hc0
      generalize FloatKind.f64.nearest y.1 = p at *
      generalize FloatKind.f64.nearest y.2 = q at *
      have hlt' : (k : Int) < (n : Int) := by omega
      by_cases hxy : x = y
      · subst hxy
        rw [decide_eq_true rfl] at heq
        clear hc
        go_wp2
        go_ret
        exact ⟨k, rfl, rfl, .inr ⟨k, rfl, hyk⟩⟩
      · rw [decide_eq_false hxy] at heq
        clear hc
        go_wp2
        go_round
        case rel => exact ⟨k + 1, by go_num, by omega, fun j hj => by
          by_cases hjk : j = k
          · subst hjk; rw [hyk]; simp; exact fun h => hxy h.symm
          · exact hnot.out j (by omega)⟩
        case measure => simp [intOf]; omega
    · have hlt' : ¬ (k : Int) < (n : Int) := by omega
      go_wp2
      go_ret
      refine ⟨-1, rfl, rfl, .inl ⟨rfl, fun hm => ?_⟩⟩
      obtain ⟨j, hj⟩ := List.getElem?_of_mem hm
      have := (List.getElem?_eq_some_iff.1 hj).1
      exact hnot.out j (by omega) hj

set_option maxHeartbeats 800000 in
theorem cContains_any (x : Int × Int) (a : Option Addr) (n ca : Nat) (ys : List (Int × Int)) (w : World) (hr : RdR cxE 1 w a n ys) (hx : i64Sp x) (hy : ∀ y ∈ ys, smallSp y) (hn : n ≤ 1000000000) :
    Calls Tryd.prog 25 #[.slice a n ca, cx x] w fun e w' => e = .returned (.bool (decide (x ∈ ys))) ∧ Below w.heap.size w w' := by
  have I := cIndex_any x a n ca ys w hr hx hy hn
  have hd : ∀ r : Int, (r = -1 ∧ x ∉ ys) ∨ (∃ k : Nat, r = k ∧ ys[k]? = some x) → decide (0 ≤ r) = decide (x ∈ ys) := by
    intro r h
    rw [Bool.eq_iff_iff]; simp
    rcases h with ⟨rfl, h⟩ | ⟨k, rfl, h⟩
    · exact ⟨fun h0 => by omega, fun h0 => absurd h0 h⟩
    · exact ⟨fun _ => List.mem_of_getElem? h, fun _ => by omega⟩
  have HI := hid I
  have HD := hid hd
  clear I hd hr hx hy
  unfold cx at HI ⊢
  go_enter Tryd.func25, Tryd.ntmps25
  go_wp2_with fail
  refine Calls.mono HI.out ?_
  rintro e w1 ⟨r, rfl, rfl, hr⟩
  have hd := HD.out r hr
  clear hr
  go_wp2
  go_ret
  exact ⟨rfl, Below.refl _ _⟩
end Go.Proofs.YtjgmkcmlkffjlaaDoor
