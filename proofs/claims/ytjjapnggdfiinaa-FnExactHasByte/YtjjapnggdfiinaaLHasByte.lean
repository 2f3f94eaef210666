/-
  For every node and every byte, FnExactHasByte returns true: the program's HasByte answers as the model; no condition.
-/
import Derived.Test.YtjjapnggdfiinaaNode2
import Derived.Test.YtjjapnggdfiinaaNode3
import Derived.Test.YtjjapnggdfiinaaNodeA
namespace Go.Proofs.Ytjjapnggdfiinaa.fnExactHasByte
open Go.ChangeShapes Go.WideShapes Go.ChangeAt Go.RowKit
set_option linter.unusedVariables false

theorem own : ownKnob Try.prog.godebug = none := by kernel_rfl
theorem laidOut : laidOutB Try.prog = true := by kernel_rfl

set_option maxHeartbeats 800000 in
theorem walk (n : Nd) (c : Int) (w : World) (hs : n.s.size ≤ maxLen) (h0 : 0 ≤ c) (h1 : c < 256) :
    Calls Try.prog 8 #[.agg #[.int .i64 n.k, .int .i64 n.c, .string n.s, .int .i64 n.l, .int .i64 n.r], .int .u8 c] w fun e w' => e = .returned (.bool true) ∧ Below w.heap.size w w' := by
  have hsz := fun w' => szNode_any n 1048576 w' (by omega) (by omega) (by unfold maxLen at hs; omega)
  by_cases hn : n.s.size ≤ 1048576
  · rw [if_neg (by omega)] at hsz
    have HZ : Hid _ := hsz
    clear hsz hs
    have hto := fun w' => toNode_any n.k n.c n.s n.l n.r w'
    have hsp := fun w' => specHasByte_any n c w' (by omega) h0 h1
    have him := fun w' => implHasByte_any n c w' h0 h1
    generalize hasB n c = R at hsp him
    obtain ⟨k, d, s, l, r⟩ := n
    simp only at *
    have HT : Hid _ := hto
    have HP : Hid _ := hsp
    have HM : Hid _ := him
    clear hto hsp him
    have hA : ∀ (w1 : World) o, Below w1.heap.size w1 (w1.alloc o) := fun w1 o => (Below.refl _ _).alloc (Nat.le_refl _) o
    go_enter Try.func8, Try.ntmps8
    go_wp2_with fail
    refine Calls.mono (HZ.out _) ?_
    rintro e w1 ⟨rfl, hb1⟩
    have g0 : w1.cell? ⟨w.heap.size, 0, none⟩ = some (.int .i64 k) := (hb1.cell (p := ⟨w.heap.size, 0, none⟩) (by simp)).trans (by simp)
    have g1 : w1.cell? ⟨w.heap.size, 1, none⟩ = some (.int .i64 d) := (hb1.cell (p := ⟨w.heap.size, 1, none⟩) (by simp)).trans (by simp)
    have g2 : w1.cell? ⟨w.heap.size, 2, none⟩ = some (.string s) := (hb1.cell (p := ⟨w.heap.size, 2, none⟩) (by simp)).trans (by simp)
    have g3 : w1.cell? ⟨w.heap.size, 3, none⟩ = some (.int .i64 l) := (hb1.cell (p := ⟨w.heap.size, 3, none⟩) (by simp)).trans (by simp)
    have g4 : w1.cell? ⟨w.heap.size, 4, none⟩ = some (.int .i64 r) := (hb1.cell (p := ⟨w.heap.size, 4, none⟩) (by simp)).trans (by simp)
    have hb01 : Below w.heap.size w w1 := (hA w _).trans (hb1.mono (by simp))
    clear hb1
    go_wp2_with fail
    refine Calls.mono (HT.out _) ?_
    rintro e w2 ⟨rfl, hb2⟩
    have e0 := cell_later hb2 g0
    have e1 := cell_later hb2 g1
    have e2 := cell_later hb2 g2
    have e3 := cell_later hb2 g3
    have e4 := cell_later hb2 g4
    have hb02 : Below w.heap.size w w2 := hb01.trans (hb2.mono hb01.size)
    clear g0 g1 g2 g3 g4 hb2 hb01
    go_wp2_with fail
    refine Calls.mono (HP.out _) ?_
    rintro e w3 ⟨rfl, hb3⟩
    have g0 := cell_later hb3 e0
    have g1 := cell_later hb3 e1
    have g2 := cell_later hb3 e2
    have g3 := cell_later hb3 e3
    have g4 := cell_later hb3 e4
    have hb03 : Below w.heap.size w w3 := hb02.trans (hb3.mono hb02.size)
    clear e0 e1 e2 e3 e4 hb3 hb02
    go_wp2_with fail
    refine Calls.mono (HT.out _) ?_
    rintro e w4 ⟨rfl, hb4⟩
    have hb04 : Below w.heap.size w w4 := hb03.trans (hb4.mono hb03.size)
    clear hb4 hb03
    go_wp2_with fail
    refine Calls.mono (HM.out _) ?_
    rintro e w5 ⟨rfl, hb5⟩
    have hb05 : Below w.heap.size w w5 := hb04.trans (hb5.mono hb04.size)
    go_wp2
    go_ret
    exact ⟨rfl, hb05⟩
  · rw [if_pos (by omega)] at hsz
    have HZ : Hid _ := hsz
    clear hsz hs
    go_enter Try.func8, Try.ntmps8
    go_wp2_with fail
    refine Calls.mono (HZ.out _) ?_
    rintro e w1 ⟨rfl, hb1⟩
    go_wp2
    go_ret
    exact ⟨rfl, ((Below.refl _ _).alloc (Nat.le_refl _) _).trans (hb1.mono (by simp))⟩

set_option maxRecDepth 100000 in
theorem lifted (os : Os) (started : os.Started) (H : Type) (enc : TypeId × Value → H) :
    ReturnsInHanded {} Try.checked os 8 .any (Rows.fnExactHasByteSpec.pre6 enc Try.prog Try.f8 Rows.fnExactHasByteRow.domain false) (Rows.fnExactHasByteSpec.post enc Try.prog Try.f8 false true false false) := by
  refine returnsInHanded_of_change (C := Try.checked) own started (by kernel_rfl) Try.func8
    (ChangeSpec.witness6 (enc := enc) (C := Try.checked) false ⟨#[], #[.agg #[.int .i64 0, .int .i64 0, .string ⟨#[]⟩, .int .i64 0, .int .i64 0], .int .u8 0], []⟩ 8 (by kernel_rfl) (by kernel_rfl) (by kernel_rfl) (by kernel_rfl)) ?_
  intro W base args ds gs before hval0 hW hcnd _
  have hval : ∀ (j : Nat) t v, Try.f8.params[j]? = some t → args[j]? = some v → Value.okWide Try.prog W .any base t v := hval0
  have hW' := hW
  obtain ⟨p, q, hA0, hV, rfl, hfz, hnd⟩ := hW
  have hA : DataW.TrodAll enc Try.prog W 0 (fun _ => true) true Try.f8.params.toList args.toList ds p := hA0
  rw [Try.params8] at hA hval
  obtain ⟨v0, v1, d0, d1, p0, p1, rfl, rfl, rfl, h0, h1⟩ := trodAll_two hA
  obtain ⟨rfl, rfl⟩ := trodVars_none hV
  have k0 := h0
  have lt0 : ∀ x ∈ p0, x.block < W.heap.size := by obtain ⟨m, hm⟩ := k0; exact DataW.trod_lt m _ _ _ hm
  obtain ⟨n, rfl, hs⟩ := open_node (hval 0 45 v0 rfl rfl) h0
  obtain ⟨I, rfl, rfl, rfl, w1⟩ := open_int Try.underlying5 (hval 1 5 v1 rfl rfl) h1
  have hI : 0 ≤ I ∧ I < 256 := by
    have h := w1
    simp [Lit.wf, IntKind.min, IntKind.max, IntKind.signed, IntKind.bits] at h
    omega
  clear hA0 hval0
  refine (walk n I W hs hI.1 hI.2).mono fun e W' ⟨he, bel⟩ => ?_
  subst he
  exact ⟨_, rfl, _, _, _, [], _, [], hW', trodAll_mk1 (shut_bool Try.underlying4 _), trodAll_mk2 (Below.trod laidOut (by kernel_rfl) (of_decide_eq_true (by kernel_rfl)) k0 bel lt0) (shut_int Try.underlying5 w1), rfl, bel.frame _, fun h => by cases h⟩

theorem proved : Rows.FnExactHasByteSaid :=
  OpenClaim.holds_of_wide 8 Try.f8 rfl rfl rfl rfl rfl rfl rfl ⟨rfl, rfl, rfl, rfl, rfl⟩ rfl rfl rfl rfl rfl (by kernel_rfl) Try.func8 (by kernel_rfl)
    (of_decide_eq_true (by kernel_rfl)) (by unfold Func.isWrapper; first | (rw [if_pos (by decide +kernel)]; kernel_rfl) | (rw [if_neg (by decide +kernel)]; exact ⟨rfl, rfl⟩))
    (fun os started H enc _ => lifted os started H enc)
end Go.Proofs.Ytjjapnggdfiinaa.fnExactHasByte
namespace Go.Proofs.Ytjjapnggdfiinaa
theorem fnExactHasByte_proved : Rows.FnExactHasByteSaid := fnExactHasByte.proved
end Go.Proofs.Ytjjapnggdfiinaa
