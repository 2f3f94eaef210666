/-
  For every line, FnExactWidthOf returns true: the program's WidthOf answers as the model and writes into no argument; no condition.
-/
import Derived.Test.YtjnbegemdhkciaaCells3
import Derived.Test.YtjnbegemdhkciaaHlp1
import Derived.Test.YtjnbegemdhkciaaArgs
namespace Go.Proofs.Ytjnbegemdhkciaa.fnExactWidthOf
open Go.ChangeShapes Go.WideShapes Go.ChangeAt Go.RowKit
set_option linter.unusedVariables false

theorem own : ownKnob Try.prog.godebug = none := by kernel_rfl
theorem laidOut : laidOutB Try.prog = true := by kernel_rfl

theorem eqIntResult_yes (x y : Int) (w : World) :
    Calls Try.prog 38 #[.agg #[.int .i64 x, .int .i64 y], .agg #[.int .i64 x, .int .i64 y]] w fun e w' => e = .returned (.bool true) ∧ Below w.heap.size w w' := by
  go_enter Try.func38, Try.ntmps38
  go_wp2
  go_ret
  exact ⟨rfl, ((Below.refl _ _).alloc (Nat.le_refl _) _).alloc (by simp) _⟩

set_option maxHeartbeats 800000 in
theorem walk (a : Option Addr) (n ca : Nat) (xs : List Int) (w : World) (ha : Rd .u8 w a n xs) (hB : Bytes xs) (hm : n ≤ maxLen) :
    Calls Try.prog 8 #[.slice a n ca] w fun e w' => e = .returned (.bool true) ∧ Below w.heap.size w w' := by
  unfold maxLen at hm
  by_cases hn : n ≤ 1048576
  · go_enter Try.func8, Try.ntmps8
    go_wp2_with fail
    refine (toByteS_any a n ca xs _ ha (by omega)).mono ?_
    rintro e w1 ⟨v1, rfl, ho1, hb1⟩
    obtain ⟨a1, cap1, hv1, hr1, hm1⟩ := ho1.rd
    subst hv1
    go_wp2_with fail
    refine (specWidthOf_any a1 n cap1 xs _ hr1 hB (by omega)).mono ?_
    rintro e w2 ⟨rfl, hb2⟩
    have hb02 : Below w.heap.size w w2 := hb1.trans (hb2.mono hb1.size)
    obtain ⟨x, y, hval⟩ : ∃ x y : Int, widthVal xs = .agg #[.int .i64 x, .int .i64 y] := ⟨_, _, rfl⟩
    rw [hval]
    have HV : Hid _ := hval
    clear hval hb2 hr1 ho1
    go_wp2_with fail
    have hb03 : ∀ o, Below w.heap.size w (w2.alloc o) := fun o => hb02.alloc hb02.size o
    refine (toByteS_any a n ca xs _ (ha.below (hb03 _)) (by omega)).mono ?_
    rintro e w3 ⟨v3, rfl, ho3, hb3⟩
    obtain ⟨a3, cap3, hv3, hr3, hc3, hm3⟩ := ho3.rdc
    subst hv3
    have c30 : w3.cell? ⟨w2.heap.size, 0, none⟩ = some (.int .i64 x) := (hb3.cell (p := ⟨w2.heap.size, 0, none⟩) (by simp)).trans (by simp)
    have c31 : w3.cell? ⟨w2.heap.size, 1, none⟩ = some (.int .i64 y) := (hb3.cell (p := ⟨w2.heap.size, 1, none⟩) (by simp)).trans (by simp)
    have hz3 : w2.heap.size < w3.heap.size := by have := hb3.size; simp at this; omega
    have hb04 : Below w.heap.size w w3 := (hb03 _).trans (hb3.mono (by have := hb02.size; simp; omega))
    clear hb3 hb03
    have C := implWidthOf_any a3 n cap3 xs _ hr3 hB (by omega) hc3 hm3
    rw [HV.out] at C
    have HC : Hid _ := C
    clear C hc3 hm3
    go_wp2_with fail
    refine Calls.mono HC.out ?_
    rintro e w4 ⟨rfl, hb4⟩
    have c40 := cell_later hb4 c30
    have c41 := cell_later hb4 c31
    have hz4 : w2.heap.size < w4.heap.size := by have := hb4.size; omega
    have hb05 : Below w.heap.size w w4 := hb04.trans (hb4.mono hb04.size)
    have ho4 := ho3.below hb4
    clear hb4 hr3 ho3 c30 c31
    go_wp2_with fail
    refine (eqIntResult_yes x y _).mono ?_
    rintro e w5 ⟨rfl, hb5⟩
    have hb45 : Below w4.heap.size w4 w5 := below_slot hb5
    have hb06 : Below w.heap.size w w5 := hb05.trans (hb45.mono hb05.size)
    have ho5 := ho4.below hb45
    clear hb5 hb45 ho4 c40 c41
    go_wp2_with fail
    refine (toByteS_any a n ca xs _ (ha.below hb06) (by omega)).mono ?_
    rintro e w6 ⟨v6, rfl, ho6, hb6⟩
    obtain ⟨a6, cap6, hv6, hr6, _⟩ := ho6.rd
    subst hv6
    have ho7 := ho5.below hb6
    obtain ⟨a7, cap7, hv7, hr7, _⟩ := ho7.rd
    obtain ⟨rfl, rfl⟩ : a3 = a7 ∧ cap3 = cap7 := by simpa using hv7
    have hb07 : Below w.heap.size w w6 := hb06.trans (hb6.mono hb06.size)
    clear hb6 ho7 ho5 hv7
    go_wp2_with fail
    refine (eqByteS_any a3 a6 n n cap3 cap6 xs xs _ hr7 hr6 (by unfold maxLen; omega) (by unfold maxLen; omega)).mono ?_
    have e1 : decide (xs = xs) = true := by simp
    rw [e1]
    clear e1
    rintro e w8 ⟨rfl, q, rfl⟩
    go_wp2
    go_ret
    exact ⟨rfl, below_drewN hb07 q⟩
  · go_enter Try.func8, Try.ntmps8
    go_wp2
    go_ret
    exact ⟨rfl, Below.refl _ _⟩

set_option maxRecDepth 100000 in
theorem lifted (os : Os) (started : os.Started) (H : Type) (enc : TypeId × Value → H) :
    ReturnsInHanded {} Try.checked os 8 .any (Rows.fnExactWidthOfSpec.pre6 enc Try.prog Try.f8 Rows.fnExactWidthOfRow.domain false) (Rows.fnExactWidthOfSpec.post enc Try.prog Try.f8 false true false false) := by
  refine returnsInHanded_of_change (C := Try.checked) own started (by kernel_rfl) Try.func8
    (ChangeSpec.witness6 (enc := enc) (C := Try.checked) false ⟨#[], #[.slice none 0 0], []⟩ 8 (by kernel_rfl) (by kernel_rfl) (by kernel_rfl) (by kernel_rfl)) ?_
  intro W base args ds gs before hval0 hW hcnd _
  have hval : ∀ (j : Nat) t v, Try.f8.params[j]? = some t → args[j]? = some v → Value.okWide Try.prog W .any base t v := hval0
  have hW' := hW
  obtain ⟨p, q, hA0, hV, rfl, hfz, hnd⟩ := hW
  have hA : DataW.TrodAll enc Try.prog W 0 (fun _ => true) true Try.f8.params.toList args.toList ds p := hA0
  rw [Try.params8] at hA hval
  obtain ⟨v0, d0, rfl, rfl, h0⟩ := trodAll_one hA
  obtain ⟨rfl, rfl⟩ := trodVars_none hV
  obtain ⟨a0, len0, cap0, rfl⟩ := okWide_slice Try.underlying22 (hval 0 22 v0 rfl rfl)
  have k0 := h0
  have lt0 : ∀ x ∈ p, x.block < W.heap.size := by obtain ⟨m, hm⟩ := k0; exact DataW.trod_lt m _ _ _ hm
  obtain ⟨x0, hr0, hB0, hm0⟩ := open_bytes Try.underlying22 Try.underlying5 (by kernel_rfl) h0
  clear hA0 hval0
  refine (walk a0 len0 cap0 x0 W hr0 hB0 hm0).mono fun e W' ⟨he, bel⟩ => ?_
  subst he
  exact ⟨_, rfl, _, _, _, [], _, [], hW', trodAll_mk1 (shut_bool Try.underlying4 _), trodAll_mk1 (Below.trod laidOut (by kernel_rfl) (of_decide_eq_true (by kernel_rfl)) k0 bel lt0), rfl, bel.frame _, fun h => by cases h⟩

theorem proved : Rows.FnExactWidthOfSaid :=
  OpenClaim.holds_of_wide 8 Try.f8 rfl rfl rfl rfl rfl rfl rfl ⟨rfl, rfl, rfl, rfl, rfl⟩ rfl rfl rfl rfl rfl (by kernel_rfl) Try.func8 (by kernel_rfl)
    (of_decide_eq_true (by kernel_rfl)) (by unfold Func.isWrapper; first | (rw [if_pos (by decide +kernel)]; kernel_rfl) | (rw [if_neg (by decide +kernel)]; exact ⟨rfl, rfl⟩))
    (fun os started H enc _ => lifted os started H enc)
end Go.Proofs.Ytjnbegemdhkciaa.fnExactWidthOf
namespace Go.Proofs.Ytjnbegemdhkciaa
theorem fnExactWidthOf_proved : Rows.FnExactWidthOfSaid := fnExactWidthOf.proved
end Go.Proofs.Ytjnbegemdhkciaa
