/-
  For every list of cells, FnExactCellsFault returns true: the program's CellsFault answers as the model and writes into no argument; no condition.
-/
import Derived.Test.YtjnbegemdhkciaaHlpD
import Derived.Test.YtjnbegemdhkciaaArgsR
namespace Go.Proofs.Ytjnbegemdhkciaa
open Go.ChangeShapes Go.WideShapes Go.ChangeAt Go.RowKit
set_option linter.unusedVariables false

/-- A slice of the laws' own cells, opened. -/
theorem open_cells {H : Type} {enc : TypeId × Value → H} {W : World} {a : Option Addr} {len cap : Nat} {d : DataW H} {p : List MemPlace} {base : Nat} {sp : Nat → Bool} {hd : Bool}
    (h : DataW.Trod enc Try.prog W base sp hd 58 (.slice a len cap) d p) : ∃ cs : List C3, RdR cellE 3 W a len cs ∧ len ≤ cap ∧ cap ≤ maxLen := by
  obtain ⟨cs, h1, _, h2⟩ := open_rows cellE 3 (fun _ => True) Try.underlying58 (by kernel_rfl) cellE_len (by omega) (fun n cs x hx => by
    obtain ⟨a, b, c, rfl⟩ := open_three (t := 2) Try.underlying85 Try.underlying2 (by kernel_rfl) (by kernel_rfl) rfl rfl rfl rfl rfl rfl hx
    exact ⟨(a, b, c), rfl, trivial⟩) h
  exact ⟨cs, h1, h2⟩
end Go.Proofs.Ytjnbegemdhkciaa
namespace Go.Proofs.Ytjnbegemdhkciaa.fnExactCellsFault
open Go.ChangeShapes Go.WideShapes Go.ChangeAt Go.RowKit
set_option linter.unusedVariables false

theorem own : ownKnob Try.prog.godebug = none := by kernel_rfl
theorem laidOut : laidOutB Try.prog = true := by kernel_rfl

set_option maxHeartbeats 800000 in
theorem walk (a : Option Addr) (n ca : Nat) (cs : List C3) (w : World) (ha : RdR cellE 3 w a n cs) (hm : n ≤ maxLen) :
    Calls Try.prog 10 #[.slice a n ca] w fun e w' => e = .returned (.bool true) ∧ Below w.heap.size w w' := by
  have hsz := fun w' => szCellS_any a n ca 1048576 w' hm (by omega) (by omega)
  unfold maxLen at hm
  by_cases hn : n ≤ 1048576
  · rw [if_neg (by omega)] at hsz
    have HZ : Hid _ := hsz
    clear hsz
    go_enter Try.func10, Try.ntmps10
    go_wp2_with fail
    refine Calls.mono (HZ.out _) ?_
    rintro e w1 ⟨rfl, rfl⟩
    go_wp2_with fail
    refine (toCellS_any a n ca cs _ ha (by omega)).mono ?_
    rintro e w2 ⟨v2, rfl, ho2, hb2⟩
    obtain ⟨a2, cap2, hv2, hr2, _⟩ := ho2.rd cellE_len
    subst hv2
    go_wp2_with fail
    refine (specCellsFault_any a2 n cap2 cs _ hr2 (by unfold maxLen; omega)).mono ?_
    rintro e w3 ⟨rfl, rfl⟩
    go_wp2_with fail
    refine (toCellS_any a n ca cs _ (ha.below hb2) (by omega)).mono ?_
    rintro e w4 ⟨v4, rfl, ho4, hb4⟩
    obtain ⟨a4, cap4, hv4, hr4, _⟩ := ho4.rd cellE_len
    subst hv4
    have hb04 := hb2.trans (hb4.mono hb2.size)
    clear hb4 hb2 hr2 ho2
    go_wp2_with fail
    refine (implCellsFault_any a4 n cap4 cs _ hr4 (by unfold maxLen; omega)).mono ?_
    rintro e w5 ⟨rfl, hb5⟩
    have hb05 := hb04.trans (hb5.mono hb04.size)
    have ho5 := ho4.below hb5
    clear hb5 hb04 hr4 ho4
    generalize cellsFault cs = q
    go_wp2_with fail
    refine (toCellS_any a n ca cs _ (ha.below hb05) (by omega)).mono ?_
    rintro e w6 ⟨v6, rfl, ho6, hb6⟩
    obtain ⟨a6, cap6, hv6, hr6, _⟩ := ho6.rd cellE_len
    subst hv6
    obtain ⟨a7, cap7, hv7, hr7, _⟩ := (ho5.below hb6).rd cellE_len
    obtain ⟨rfl, rfl⟩ : a4 = a7 ∧ cap4 = cap7 := by simpa using hv7
    have hb06 := hb05.trans (hb6.mono hb05.size)
    clear hb6 hb05 ho5 ho6 hv7
    go_wp2_with fail
    refine (eqCellS_yes a4 a6 n cap4 cap6 cs _ hr7 hr6 (by omega)).mono ?_
    rintro e w7 ⟨rfl, hb7⟩
    have hb07 := hb06.trans (hb7.mono hb06.size)
    go_wp2
    go_ret
    exact ⟨rfl, hb07⟩
  · rw [if_pos (by omega)] at hsz
    have HZ : Hid _ := hsz
    clear hsz
    go_enter Try.func10, Try.ntmps10
    go_wp2_with fail
    refine Calls.mono (HZ.out _) ?_
    rintro e w1 ⟨rfl, rfl⟩
    go_wp2
    go_ret
    exact ⟨rfl, Below.refl _ _⟩

set_option maxRecDepth 100000 in
theorem lifted (os : Os) (started : os.Started) (H : Type) (enc : TypeId × Value → H) :
    ReturnsInHanded {} Try.checked os 10 .any (Rows.fnExactCellsFaultSpec.pre6 enc Try.prog Try.f10 Rows.fnExactCellsFaultRow.domain false) (Rows.fnExactCellsFaultSpec.post enc Try.prog Try.f10 false true false false) := by
  refine returnsInHanded_of_change (C := Try.checked) own started (by kernel_rfl) Try.func10
    (ChangeSpec.witness6 (enc := enc) (C := Try.checked) false ⟨#[], #[.slice none 0 0], []⟩ 8 (by kernel_rfl) (by kernel_rfl) (by kernel_rfl) (by kernel_rfl)) ?_
  intro W base args ds gs before hval0 hW hcnd _
  have hval : ∀ (j : Nat) t v, Try.f10.params[j]? = some t → args[j]? = some v → Value.okWide Try.prog W .any base t v := hval0
  have hW' := hW
  obtain ⟨p, q, hA0, hV, rfl, hfz, hnd⟩ := hW
  have hA : DataW.TrodAll enc Try.prog W 0 (fun _ => true) true Try.f10.params.toList args.toList ds p := hA0
  rw [Try.params10] at hA hval
  obtain ⟨v0, d0, rfl, rfl, h0⟩ := trodAll_one hA
  obtain ⟨rfl, rfl⟩ := trodVars_none hV
  obtain ⟨a0, len0, cap0, rfl⟩ := okWide_slice Try.underlying58 (hval 0 58 v0 rfl rfl)
  have k0 := h0
  have lt0 : ∀ x ∈ p, x.block < W.heap.size := by obtain ⟨m, hm⟩ := k0; exact DataW.trod_lt m _ _ _ hm
  obtain ⟨cs, hr, hl, hm⟩ := open_cells h0
  clear hA0 hval0
  refine (walk a0 len0 cap0 cs W hr (by omega)).mono fun e W' ⟨he, bel⟩ => ?_
  subst he
  exact ⟨_, rfl, _, _, _, [], _, [], hW', trodAll_mk1 (shut_bool Try.underlying4 _), trodAll_mk1 (Below.trod laidOut (by kernel_rfl) (of_decide_eq_true (by kernel_rfl)) k0 bel lt0), rfl, bel.frame _, fun h => by cases h⟩

theorem proved : Rows.FnExactCellsFaultSaid :=
  OpenClaim.holds_of_wide 10 Try.f10 rfl rfl rfl rfl rfl rfl rfl ⟨rfl, rfl, rfl, rfl, rfl⟩ rfl rfl rfl rfl rfl (by kernel_rfl) Try.func10 (by kernel_rfl)
    (of_decide_eq_true (by kernel_rfl)) (by unfold Func.isWrapper; first | (rw [if_pos (by decide +kernel)]; kernel_rfl) | (rw [if_neg (by decide +kernel)]; exact ⟨rfl, rfl⟩))
    (fun os started H enc _ => lifted os started H enc)
end Go.Proofs.Ytjnbegemdhkciaa.fnExactCellsFault
namespace Go.Proofs.Ytjnbegemdhkciaa
theorem fnExactCellsFault_proved : Rows.FnExactCellsFaultSaid := fnExactCellsFault.proved
end Go.Proofs.Ytjnbegemdhkciaa
