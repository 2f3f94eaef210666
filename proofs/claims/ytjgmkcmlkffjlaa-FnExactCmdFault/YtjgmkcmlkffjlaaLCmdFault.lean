/-
  For every command, FnExactCmdFault returns true: the program's CmdFault answers as the model; no condition.
-/
import Derived.Test.YtjgmkcmlkffjlaaPag1
import Derived.Test.YtjgmkcmlkffjlaaArgsP
import Derived.Test.YtjgmkcmlkffjlaaHlpP
import Derived.ProofKit
import Derived.OpenShut
import Derived.ChangeOld
import Derived.Below
import Derived.Carry
namespace Go.Proofs.Ytjgmkcmlkffjlaa.fnExactCmdFault
open Go.ChangeShapes Go.WideShapes Go.ChangeAt Go.RowKit
set_option linter.unusedVariables false
set_option linter.unusedSimpArgs false

set_option maxRecDepth 10000 in
set_option maxHeartbeats 3200000 in
theorem walk (k c d : Int) (s : ByteArray) (w : World) (hs : s.size ≤ maxLen) :
    Calls Try.prog 7 #[.agg #[.int .i64 k, .int .i64 c, .int .i64 d, .string s]] w fun e w' => e = .returned (.bool true) ∧ Below w.heap.size w w' := by
  have SC := fun w' => specCmdFault_any k c d s w' hs
  have IC := fun w' => implCmdFault_any k c d s w' hs
  have SZ := fun w' => szCmd_any k c d s 1048576 w' hs (by omega) (by omega)
  generalize cmF k c d s.size = F at *
  have HSC : Hid _ := SC
  have HIC : Hid _ := IC
  clear SC IC
  by_cases hn : 1048576 < (s.size : Int)
  · rw [if_pos hn] at SZ
    have HZ : Hid _ := SZ
    clear SZ
    go_enter Try.func7, Try.ntmps7
    have hb : Below w.heap.size w w := Below.refl _ _
    go_wp2_with fail
    have bp : ∀ o0, Below w.heap.size w (w.alloc o0) := fun o0 => (Below.refl _ _).alloc (Nat.le_refl _) o0
    have hbt : ∀ o0, Below w.heap.size w (w.alloc o0) := fun o0 => hb.trans ((bp o0).mono hb.size)
    refine Calls.mono (HZ.out _) ?_
    rintro e w1 ⟨rfl, hc⟩
    have s1 : w.heap.size + 1 ≤ w1.heap.size := by have := hc.size; simp at this; omega
    have bq : Below w.heap.size w w1 := (bp _).trans (hc.mono (bp _).size)
    have ca0 : w1.cell? ⟨w.heap.size, 0, none⟩ = some (.int .i64 k) := cell_later hc (by simp [go_sem])
    have ca1 : w1.cell? ⟨w.heap.size, 1, none⟩ = some (.int .i64 c) := cell_later hc (by simp [go_sem])
    have ca2 : w1.cell? ⟨w.heap.size, 2, none⟩ = some (.int .i64 d) := cell_later hc (by simp [go_sem])
    have ca3 : w1.cell? ⟨w.heap.size, 3, none⟩ = some (.string s) := cell_later hc (by simp [go_sem])
    have za : w.heap.size < w1.heap.size := by omega
    replace hb := hb.trans (bq.mono hb.size)
    clear hc bq bp hbt
    go_wp2
    go_ret
    exact ⟨rfl, hb⟩
  rw [if_neg hn] at SZ
  obtain ⟨left, hleft⟩ : ∃ left, left = 1048576 - (s.size : Int) := ⟨_, rfl⟩
  have hl0 : 0 ≤ left := by omega
  rw [← hleft] at SZ
  have HZ : Hid _ := SZ
  clear SZ hleft
  go_enter Try.func7, Try.ntmps7
  have hb : Below w.heap.size w w := Below.refl _ _
  go_wp2_with fail
  have bp : ∀ o0, Below w.heap.size w (w.alloc o0) := fun o0 => (Below.refl _ _).alloc (Nat.le_refl _) o0
  have hbt : ∀ o0, Below w.heap.size w (w.alloc o0) := fun o0 => hb.trans ((bp o0).mono hb.size)
  refine Calls.mono (HZ.out _) ?_
  rintro e w1 ⟨rfl, hc⟩
  have s1 : w.heap.size + 1 ≤ w1.heap.size := by have := hc.size; simp at this; omega
  have bq : Below w.heap.size w w1 := (bp _).trans (hc.mono (bp _).size)
  have ca0 : w1.cell? ⟨w.heap.size, 0, none⟩ = some (.int .i64 k) := cell_later hc (by simp [go_sem])
  have ca1 : w1.cell? ⟨w.heap.size, 1, none⟩ = some (.int .i64 c) := cell_later hc (by simp [go_sem])
  have ca2 : w1.cell? ⟨w.heap.size, 2, none⟩ = some (.int .i64 d) := cell_later hc (by simp [go_sem])
  have ca3 : w1.cell? ⟨w.heap.size, 3, none⟩ = some (.string s) := cell_later hc (by simp [go_sem])
  have za : w.heap.size < w1.heap.size := by omega
  replace hb := hb.trans (bq.mono hb.size)
  clear hc bq bp hbt
  have hl : ¬ left < 0 := by omega
  go_wp2_with fail
  refine Calls.mono (toCmd_any k c d s _) ?_
  rintro e w2 ⟨rfl, hc⟩
  have s2 : w1.heap.size ≤ w2.heap.size := hc.size
  have bq := hc
  replace ca0 := cell_later bq ca0
  replace ca1 := cell_later bq ca1
  replace ca2 := cell_later bq ca2
  replace ca3 := cell_later bq ca3
  replace za := Nat.lt_of_lt_of_le za bq.size
  replace hb := hb.trans (bq.mono hb.size)
  clear hc bq
  go_wp2_with fail
  refine Calls.mono (HSC.out _) ?_
  rintro e w3 ⟨rfl, hc⟩
  have s3 : w2.heap.size ≤ w3.heap.size := hc.size
  have bq := hc
  replace ca0 := cell_later bq ca0
  replace ca1 := cell_later bq ca1
  replace ca2 := cell_later bq ca2
  replace ca3 := cell_later bq ca3
  replace za := Nat.lt_of_lt_of_le za bq.size
  replace hb := hb.trans (bq.mono hb.size)
  clear hc bq
  go_wp2_with fail
  refine Calls.mono (toCmd_any k c d s _) ?_
  rintro e w4 ⟨rfl, hc⟩
  have s4 : w3.heap.size ≤ w4.heap.size := hc.size
  have bq := hc
  replace ca0 := cell_later bq ca0
  replace ca1 := cell_later bq ca1
  replace ca2 := cell_later bq ca2
  replace ca3 := cell_later bq ca3
  replace za := Nat.lt_of_lt_of_le za bq.size
  replace hb := hb.trans (bq.mono hb.size)
  clear hc bq
  go_wp2_with fail
  refine Calls.mono (HIC.out _) ?_
  rintro e w5 ⟨rfl, hc⟩
  have s5 : w4.heap.size ≤ w5.heap.size := hc.size
  have bq := hc
  replace ca0 := cell_later bq ca0
  replace ca1 := cell_later bq ca1
  replace ca2 := cell_later bq ca2
  replace ca3 := cell_later bq ca3
  replace za := Nat.lt_of_lt_of_le za bq.size
  replace hb := hb.trans (bq.mono hb.size)
  clear hc bq
  go_wp2
  go_ret
  exact ⟨rfl, hb⟩

theorem own : ownKnob Try.prog.godebug = none := by kernel_rfl
theorem laidOut : laidOutB Try.prog = true := by kernel_rfl

set_option maxRecDepth 100000 in
theorem lifted (os : Os) (started : os.Started) (H : Type) (enc : TypeId × Value → H) :
    ReturnsInHanded {} Try.checked os 7 .any (Rows.fnExactCmdFaultSpec.pre6 enc Try.prog Try.f7 Rows.fnExactCmdFaultRow.domain false) (Rows.fnExactCmdFaultSpec.post enc Try.prog Try.f7 false true false false) := by
  refine returnsInHanded_of_change (C := Try.checked) own started (by kernel_rfl) Try.func7
    (ChangeSpec.witness6 (enc := enc) (C := Try.checked) false ⟨#[], #[.agg #[.int .i64 0, .int .i64 0, .int .i64 0, .string ⟨#[]⟩]], []⟩ 8 (by kernel_rfl) (by kernel_rfl) (by kernel_rfl) (by kernel_rfl)) ?_
  intro W base args ds gs before hval0 hW hcnd _
  have hval : ∀ (j : Nat) t v, Try.f7.params[j]? = some t → args[j]? = some v → Value.okWide Try.prog W .any base t v := hval0
  have hW' := hW
  obtain ⟨p, q, hA0, hV, rfl, hfz, hnd⟩ := hW
  have hA : DataW.TrodAll enc Try.prog W 0 (fun _ => true) true Try.f7.params.toList args.toList ds p := hA0
  rw [Try.params7] at hA hval
  obtain ⟨v0, e0, rfl, rfl, h0⟩ := trodAll_one hA
  obtain ⟨rfl, rfl⟩ := trodVars_none hV
  have k0 := h0
  have lt0 : ∀ x ∈ p, x.block < W.heap.size := by obtain ⟨m, hm⟩ := k0; exact DataW.trod_lt m _ _ _ hm
  obtain ⟨k0', c0, d0, s0, rfl, hI1, hI2, hI3, hsz⟩ := open_cmd (hval 0 50 v0 rfl rfl) h0
  clear hA0 hval0
  refine (walk k0' c0 d0 s0 W hsz).mono fun e W' ⟨he, bel⟩ => ?_
  subst he
  exact ⟨_, rfl, _, _, _, [], _, [], hW', trodAll_mk1 (shut_bool Try.underlying4 _), trodAll_mk1 (Below.trod laidOut (by kernel_rfl) (of_decide_eq_true (by kernel_rfl)) k0 bel lt0), rfl, bel.frame _, fun h => by cases h⟩

theorem proved : Rows.FnExactCmdFaultSaid :=
  OpenClaim.holds_of_wide 7 Try.f7 rfl rfl rfl rfl rfl rfl rfl ⟨rfl, rfl, rfl, rfl, rfl⟩ rfl rfl rfl rfl rfl (by kernel_rfl) Try.func7 (by kernel_rfl)
    (of_decide_eq_true (by kernel_rfl)) (by unfold Func.isWrapper; first | (rw [if_pos (by decide +kernel)]; kernel_rfl) | (rw [if_neg (by decide +kernel)]; exact ⟨rfl, rfl⟩))
    (fun os started H enc _ => lifted os started H enc)
end Go.Proofs.Ytjgmkcmlkffjlaa.fnExactCmdFault
namespace Go.Proofs.Ytjgmkcmlkffjlaa
theorem fnExactCmdFault_proved : Rows.FnExactCmdFaultSaid := fnExactCmdFault.proved
end Go.Proofs.Ytjgmkcmlkffjlaa
