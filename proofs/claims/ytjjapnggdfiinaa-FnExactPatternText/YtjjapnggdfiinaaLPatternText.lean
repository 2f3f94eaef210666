/-
  For every list of nodes, FnExactPatternText returns true: the program's PatternText answers as the model and writes into no argument; no condition.
-/
import Derived.Test.YtjjapnggdfiinaaNode2
import Derived.Test.YtjjapnggdfiinaaNode9
import Derived.Test.YtjjapnggdfiinaaNodeA
import Derived.ProofKit
import Derived.OpenShut
namespace Go.Proofs.Ytjjapnggdfiinaa.fnExactPatternText
open Go.ChangeShapes Go.WideShapes Go.ChangeAt Go.RowKit
set_option linter.unusedVariables false

theorem own : ownKnob Try.prog.godebug = none := by kernel_rfl
theorem laidOut : laidOutB Try.prog = true := by kernel_rfl

theorem eqTextResult_yes (x : Int) (s : ByteArray) (w : World) :
    Calls Try.prog 26 #[.agg #[.int .i64 x, .string s], .agg #[.int .i64 x, .string s]] w fun e w' => e = .returned (.bool true) ∧ Below w.heap.size w w' := by
  go_enter Try.func26, Try.ntmps26
  go_wp2
  go_ret
  exact ⟨rfl, ((Below.refl _ _).alloc (Nat.le_refl _) _).alloc (by simp) _⟩

set_option maxHeartbeats 1600000 in
theorem walk (a0 : Option Addr) (n0 ca0 : Nat) (cs0 : List Nd) (w : World) (ha0 : RdR ndE 5 w a0 n0 cs0) (hz0 : ∀ y ∈ cs0, y.s.size ≤ maxLen) (hm0 : n0 ≤ maxLen) :
    Calls Try.prog 6 #[.slice a0 n0 ca0] w fun e w' => e = .returned (.bool true) ∧ Below w.heap.size w w' := by
  have hsz0 := fun w' ha' => szNodeS_any a0 n0 ca0 cs0 1048576 w' ha' hz0 hm0 (by omega) (by omega)
  by_cases hn0 : 1048576 < (n0 : Int) + ndSum cs0
  · rw [if_pos hn0] at hsz0
    have HZ0 : Hid _ := hsz0
    clear hsz0
    go_enter Try.func6, Try.ntmps6
    go_wp2_with fail
    refine Calls.mono (HZ0.out _ ha0) ?_
    rintro e w1 ⟨rfl, hb1⟩
    go_wp2
    go_ret
    exact ⟨rfl, hb1⟩
  rw [if_neg hn0] at hsz0
  have HZ0 : Hid _ := hsz0
  clear hsz0
  have l0 : n0 ≤ 1048576 := by omega
  have m0 : ndSum cs0 ≤ 1048576 := by omega
  have HM0 : Hid (n0 ≤ maxLen) := hm0
  clear hm0
  obtain ⟨left, hleft⟩ : ∃ left, left = (1048576 - (n0 : Int) - ndSum cs0) := ⟨_, rfl⟩
  have hl0 : 0 ≤ left := by omega
  rw [← hleft] at HZ0
  clear hleft hn0
  have hsp := fun w' b0 c0 h0' => specPatternText_any b0 n0 c0 cs0 w' h0' m0 l0
  have him := fun w' b0 c0 h0' => implPatternText_any b0 n0 c0 cs0 w' h0' m0 l0
  generalize ptCode cs0 = x at hsp him
  generalize ptText cs0 = s at hsp him
  have HP : Hid _ := hsp
  have HI : Hid _ := him
  clear hsp him
  go_enter Try.func6, Try.ntmps6
  go_wp2_with fail
  refine Calls.mono (HZ0.out _ ha0) ?_
  rintro e u0 ⟨rfl, hb⟩
  have hw0 : Below w.heap.size w u0 := hb
  clear hb
  go_wp2_with fail
  refine (toNodeS_any a0 n0 ca0 cs0 _ (ha0.below hw0) (by omega)).mono ?_
  rintro e u1 ⟨vs0, rfl, hos0, hb⟩
  obtain ⟨ps0, qs0, hv, -, -, -⟩ := hos0.rd ndE_len
  subst hv
  have hw1 : Below w.heap.size w u1 := hw0.trans (hb.mono hw0.size)
  clear hb
  go_wp2_with fail
  refine Calls.mono (HP.out _ _ _ (hos0.read ndE_len)) ?_
  rintro e u2 ⟨rfl, hb⟩
  have hw2 : Below w.heap.size w u2 := hw1.trans (hb.mono hw1.size)
  clear hb hos0
  have hbo : ∀ o, Below w.heap.size w (u2.alloc o) := fun o => hw2.alloc hw2.size o
  go_wp2_with fail
  refine (toNodeS_any a0 n0 ca0 cs0 _ (ha0.below (hbo _)) (by omega)).mono ?_
  rintro e u3 ⟨vx0, rfl, hox0, hb⟩
  obtain ⟨px0, qx0, hv, -, -, -⟩ := hox0.rd ndE_len
  subst hv
  have b0 : u3.cell? ⟨u2.heap.size, 0, none⟩ = some (.int .i64 x) := (hb.cell (p := ⟨u2.heap.size, 0, none⟩) (by simp)).trans (by simp)
  have b1 : u3.cell? ⟨u2.heap.size, 1, none⟩ = some (.string s) := (hb.cell (p := ⟨u2.heap.size, 1, none⟩) (by simp)).trans (by simp)
  have z1 : u2.heap.size < u3.heap.size := by have := hb.size; simp at this; omega
  have hw3 : Below w.heap.size w u3 := (hbo _).trans (hb.mono (hbo _).size)
  clear hbo
  clear hb
  go_wp2_with fail
  refine Calls.mono (HI.out _ _ _ (hox0.read ndE_len)) ?_
  rintro e u4 ⟨rfl, hb⟩
  have hw4 : Below w.heap.size w u4 := hw3.trans (hb.mono hw3.size)
  replace hox0 := hox0.below hb
  replace b0 := cell_later hb b0
  replace b1 := cell_later hb b1
  have z2 : u2.heap.size < u4.heap.size := by have := hb.size; omega
  clear hb
  skip
  go_wp2_with fail
  refine (eqTextResult_yes x s _).mono ?_
  rintro e u5 ⟨rfl, hb⟩
  have hb' := below_slot hb
  clear hb b0 b1
  have hw5 : Below w.heap.size w u5 := hw4.trans (hb'.mono hw4.size)
  replace hox0 := hox0.below hb'
  clear hb'
  go_wp2_with fail
  refine (toNodeS_any a0 n0 ca0 cs0 _ (ha0.below hw5) (by omega)).mono ?_
  rintro e u6 ⟨vy0, rfl, hoy0, hb⟩
  obtain ⟨py0, qy0, hv, -, -, -⟩ := hoy0.rd ndE_len
  subst hv
  have hw6 : Below w.heap.size w u6 := hw5.trans (hb.mono hw5.size)
  replace hox0 := hox0.below hb
  clear hb
  go_wp2_with fail
  refine (eqNodeS_yes _ _ n0 _ _ cs0 _ (hox0.read ndE_len) (hoy0.read ndE_len) (by omega)).mono ?_
  rintro e u7 ⟨rfl, hb⟩
  have hw7 : Below w.heap.size w u7 := hw6.trans (hb.mono hw6.size)
  replace hox0 := hox0.below hb
  clear hb hoy0
  go_wp2
  go_ret
  exact ⟨rfl, hw7⟩

set_option maxRecDepth 100000 in
theorem lifted (os : Os) (started : os.Started) (H : Type) (enc : TypeId × Value → H) :
    ReturnsInHanded {} Try.checked os 6 .any (Rows.fnExactPatternTextSpec.pre6 enc Try.prog Try.f6 Rows.fnExactPatternTextRow.domain false) (Rows.fnExactPatternTextSpec.post enc Try.prog Try.f6 false true false false) := by
  refine returnsInHanded_of_change (C := Try.checked) own started (by kernel_rfl) Try.func6
    (ChangeSpec.witness6 (enc := enc) (C := Try.checked) false ⟨#[], #[.slice none 0 0], []⟩ 8 (by kernel_rfl) (by kernel_rfl) (by kernel_rfl) (by kernel_rfl)) ?_
  intro W base args ds gs before hval0 hW hcnd _
  have hval : ∀ (j : Nat) t v, Try.f6.params[j]? = some t → args[j]? = some v → Value.okWide Try.prog W .any base t v := hval0
  have hW' := hW
  obtain ⟨p, q, hA0, hV, rfl, hfz, hnd⟩ := hW
  have hA : DataW.TrodAll enc Try.prog W 0 (fun _ => true) true Try.f6.params.toList args.toList ds p := hA0
  rw [Try.params6] at hA hval
  obtain ⟨v0, d0, rfl, rfl, h0⟩ := trodAll_one hA
  obtain ⟨rfl, rfl⟩ := trodVars_none hV
  obtain ⟨a0, len0, cap0, rfl⟩ := okWide_slice Try.underlying35 (hval 0 35 v0 rfl rfl)
  have k0 := h0
  have lt0 : ∀ x ∈ p, x.block < W.heap.size := by obtain ⟨m, hm⟩ := k0; exact DataW.trod_lt m _ _ _ hm
  obtain ⟨x0, hr0, hs0, hl0, hm0⟩ := open_nodes h0
  clear hA0 hval0
  refine (walk a0 len0 cap0 x0 W hr0 hs0 (by omega)).mono fun e W' ⟨he, bel⟩ => ?_
  subst he
  exact ⟨_, rfl, _, _, _, [], _, [], hW', trodAll_mk1 (shut_bool Try.underlying4 _), trodAll_mk1 (Below.trod laidOut (by kernel_rfl) (of_decide_eq_true (by kernel_rfl)) k0 bel lt0), rfl, bel.frame _, fun h => by cases h⟩

theorem proved : Rows.FnExactPatternTextSaid :=
  OpenClaim.holds_of_wide 6 Try.f6 rfl rfl rfl rfl rfl rfl rfl ⟨rfl, rfl, rfl, rfl, rfl⟩ rfl rfl rfl rfl rfl (by kernel_rfl) Try.func6 (by kernel_rfl)
    (of_decide_eq_true (by kernel_rfl)) (by unfold Func.isWrapper; first | (rw [if_pos (by decide +kernel)]; kernel_rfl) | (rw [if_neg (by decide +kernel)]; exact ⟨rfl, rfl⟩))
    (fun os started H enc _ => lifted os started H enc)
end Go.Proofs.Ytjjapnggdfiinaa.fnExactPatternText
namespace Go.Proofs.Ytjjapnggdfiinaa
theorem fnExactPatternText_proved : Rows.FnExactPatternTextSaid := fnExactPatternText.proved
end Go.Proofs.Ytjjapnggdfiinaa
