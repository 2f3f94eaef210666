/-
  For every list of cells, FnExactCellsText returns true: the program's CellsText answers as the model and writes into no argument; no condition.
-/
import Derived.Test.YtjnbegemdhkciaaHlpD
import Derived.Test.YtjnbegemdhkciaaText
import Derived.Test.YtjnbegemdhkciaaArgsC
namespace Go.Proofs.Ytjnbegemdhkciaa.fnExactCellsText
open Go.ChangeShapes Go.WideShapes Go.ChangeAt Go.RowKit
set_option linter.unusedVariables false

theorem own : ownKnob Try.prog.godebug = none := by kernel_rfl
theorem laidOut : laidOutB Try.prog = true := by kernel_rfl

theorem eqTextResult_yes (x : Int) (s : ByteArray) (w : World) :
    Calls Try.prog 41 #[.agg #[.int .i64 x, .string s], .agg #[.int .i64 x, .string s]] w fun e w' => e = .returned (.bool true) ∧ Below w.heap.size w w' := by
  go_enter Try.func41, Try.ntmps41
  go_wp2
  go_ret
  exact ⟨rfl, ((Below.refl _ _).alloc (Nat.le_refl _) _).alloc (by simp) _⟩

set_option maxHeartbeats 800000 in
theorem walk (a : Option Addr) (n ca : Nat) (cs : List C3) (w : World) (ha : RdR cellE 3 w a n cs) (hm : n ≤ maxLen) :
    Calls Try.prog 9 #[.slice a n ca] w fun e w' => e = .returned (.bool true) ∧ Below w.heap.size w w' := by
  have hsz := fun w' => szCellS_any a n ca 1048576 w' hm (by omega) (by omega)
  unfold maxLen at hm
  by_cases hn : n ≤ 1048576
  · rw [if_neg (by omega)] at hsz
    have HZ : Hid _ := hsz
    clear hsz
    go_enter Try.func9, Try.ntmps9
    go_wp2_with fail
    refine Calls.mono (HZ.out _) ?_
    rintro e w1 ⟨rfl, rfl⟩
    go_wp2_with fail
    refine (toCellS_any a n ca cs _ ha (by omega)).mono ?_
    rintro e w2 ⟨v2, rfl, ho2, hb2⟩
    obtain ⟨a2, cap2, hv2, hr2, _⟩ := ho2.rd cellE_len
    subst hv2
    go_wp2_with fail
    refine (specCellsText_any a2 n cap2 cs _ hr2 (by unfold maxLen; omega)).mono ?_
    rintro e w3 ⟨rfl, hb3⟩
    obtain ⟨x, s, hv⟩ : ∃ x s, textVal cs = .agg #[.int .i64 x, .string s] := ⟨_, _, rfl⟩
    rw [hv]
    have HV : Hid _ := hv
    have hb03 := hb2.trans (hb3.mono hb2.size)
    clear hb3 hb2 hr2 ho2 hv
    go_wp2_with fail
    have hb04 : ∀ o, Below w1.heap.size w1 (w3.alloc o) := fun o => hb03.alloc hb03.size o
    refine (toCellS_any a n ca cs _ (ha.below (hb04 _)) (by omega)).mono ?_
    rintro e w4 ⟨v4, rfl, ho4, hb4⟩
    obtain ⟨a4, cap4, hv4, hr4, _⟩ := ho4.rd cellE_len
    subst hv4
    have c0 : w4.cell? ⟨w3.heap.size, 0, none⟩ = some (.int .i64 x) := (hb4.cell (p := ⟨w3.heap.size, 0, none⟩) (by simp)).trans (by simp)
    have c1 : w4.cell? ⟨w3.heap.size, 1, none⟩ = some (.string s) := (hb4.cell (p := ⟨w3.heap.size, 1, none⟩) (by simp)).trans (by simp)
    have z4 : w3.heap.size < w4.heap.size := by have := hb4.size; simp at this; omega
    have hb05 := (hb04 _).trans (hb4.mono (hb04 _).size)
    clear hb4 hb04
    go_wp2_with fail
    refine (implCellsText_any a4 n cap4 cs _ hr4 (by unfold maxLen; omega)).mono ?_
    rw [HV.out]
    rintro e w5 ⟨rfl, hb5⟩
    have hb06 := hb05.trans (hb5.mono hb05.size)
    have ho5 := ho4.below hb5
    have d0 := cell_later hb5 c0
    have d1 := cell_later hb5 c1
    have z5 : w3.heap.size < w5.heap.size := by have := hb5.size; omega
    clear hb5 hb05 hr4 ho4 c0 c1
    go_wp2_with fail
    refine (eqTextResult_yes x s _).mono ?_
    rintro e w6 ⟨rfl, hb6⟩
    have hb56 := below_slot hb6
    have hb07 := hb06.trans (hb56.mono hb06.size)
    have ho6 := ho5.below hb56
    clear hb6 hb56 ho5 d0 d1
    go_wp2_with fail
    refine (toCellS_any a n ca cs _ (ha.below hb07) (by omega)).mono ?_
    rintro e w7 ⟨v7, rfl, ho7, hb7⟩
    obtain ⟨a7, cap7, hv7, hr7, _⟩ := ho7.rd cellE_len
    subst hv7
    obtain ⟨a8, cap8, hv8, hr8, _⟩ := (ho6.below hb7).rd cellE_len
    obtain ⟨rfl, rfl⟩ : a4 = a8 ∧ cap4 = cap8 := by simpa using hv8
    have hb08 := hb07.trans (hb7.mono hb07.size)
    clear hb7 hb07 ho6 ho7 hv8
    go_wp2_with fail
    refine (eqCellS_yes a4 a7 n cap4 cap7 cs _ hr8 hr7 (by omega)).mono ?_
    rintro e w9 ⟨rfl, hb9⟩
    have hb09 := hb08.trans (hb9.mono hb08.size)
    go_wp2
    go_ret
    exact ⟨rfl, hb09⟩
  · rw [if_pos (by omega)] at hsz
    have HZ : Hid _ := hsz
    clear hsz
    go_enter Try.func9, Try.ntmps9
    go_wp2_with fail
    refine Calls.mono (HZ.out _) ?_
    rintro e w1 ⟨rfl, rfl⟩
    go_wp2
    go_ret
    exact ⟨rfl, Below.refl _ _⟩

set_option maxRecDepth 100000 in
theorem lifted (os : Os) (started : os.Started) (H : Type) (enc : TypeId × Value → H) :
    ReturnsInHanded {} Try.checked os 9 .any (Rows.fnExactCellsTextSpec.pre6 enc Try.prog Try.f9 Rows.fnExactCellsTextRow.domain false) (Rows.fnExactCellsTextSpec.post enc Try.prog Try.f9 false true false false) := by
  refine returnsInHanded_of_change (C := Try.checked) own started (by kernel_rfl) Try.func9
    (ChangeSpec.witness6 (enc := enc) (C := Try.checked) false ⟨#[], #[.slice none 0 0], []⟩ 8 (by kernel_rfl) (by kernel_rfl) (by kernel_rfl) (by kernel_rfl)) ?_
  intro W base args ds gs before hval0 hW hcnd _
  have hval : ∀ (j : Nat) t v, Try.f9.params[j]? = some t → args[j]? = some v → Value.okWide Try.prog W .any base t v := hval0
  have hW' := hW
  obtain ⟨p, q, hA0, hV, rfl, hfz, hnd⟩ := hW
  have hA : DataW.TrodAll enc Try.prog W 0 (fun _ => true) true Try.f9.params.toList args.toList ds p := hA0
  rw [Try.params9] at hA hval
  obtain ⟨v0, d0, rfl, rfl, h0⟩ := trodAll_one hA
  obtain ⟨rfl, rfl⟩ := trodVars_none hV
  obtain ⟨a0, len0, cap0, rfl⟩ := okWide_slice Try.underlying58 (hval 0 58 v0 rfl rfl)
  have k0 := h0
  have lt0 : ∀ x ∈ p, x.block < W.heap.size := by obtain ⟨m, hm⟩ := k0; exact DataW.trod_lt m _ _ _ hm
  obtain ⟨x0, hr0, hl0, hm0⟩ := open_cells h0
  clear hA0 hval0
  refine (walk a0 len0 cap0 x0 W hr0 (by omega)).mono fun e W' ⟨he, bel⟩ => ?_
  subst he
  exact ⟨_, rfl, _, _, _, [], _, [], hW', trodAll_mk1 (shut_bool Try.underlying4 _), trodAll_mk1 (Below.trod laidOut (by kernel_rfl) (of_decide_eq_true (by kernel_rfl)) k0 bel lt0), rfl, bel.frame _, fun h => by cases h⟩

theorem proved : Rows.FnExactCellsTextSaid :=
  OpenClaim.holds_of_wide 9 Try.f9 rfl rfl rfl rfl rfl rfl rfl ⟨rfl, rfl, rfl, rfl, rfl⟩ rfl rfl rfl rfl rfl (by kernel_rfl) Try.func9 (by kernel_rfl)
    (of_decide_eq_true (by kernel_rfl)) (by unfold Func.isWrapper; first | (rw [if_pos (by decide +kernel)]; kernel_rfl) | (rw [if_neg (by decide +kernel)]; exact ⟨rfl, rfl⟩))
    (fun os started H enc _ => lifted os started H enc)
end Go.Proofs.Ytjnbegemdhkciaa.fnExactCellsText
namespace Go.Proofs.Ytjnbegemdhkciaa
theorem fnExactCellsText_proved : Rows.FnExactCellsTextSaid := fnExactCellsText.proved
end Go.Proofs.Ytjnbegemdhkciaa
