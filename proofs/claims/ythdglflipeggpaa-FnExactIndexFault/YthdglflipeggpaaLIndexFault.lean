/-
  For every index, FnExactIndexFault returns true: the program's IndexFault answers as the model and writes into no argument; no condition.
-/
import Derived.Test.YthdglflipeggpaaIndex1s
import Derived.Test.YthdglflipeggpaaArgs
import Derived.Test.YthdglflipeggpaaArgsF
import Derived.Test.YthdglflipeggpaaArgsI
import Derived.Test.YthdglflipeggpaaHlpF
import Derived.Test.YthdglflipeggpaaHlpI
import Derived.ProofKit
import Derived.OpenShut
import Derived.ChangeOld
import Derived.Below
import Derived.Carry
import Derived.Deep.RegionWith
import Derived.Deep.RegionHeld3
namespace Go.Proofs.Ythdglflipeggpaa.fnExactIndexFault
open Go.ChangeShapes Go.WideShapes Go.ChangeAt Go.RowKit
set_option linter.unusedVariables false
set_option linter.unusedSimpArgs false

set_option maxRecDepth 10000 in
set_option maxHeartbeats 6400000 in
theorem walk (e0 : Int) (a0 : Option Addr) (n0 ca0 : Nat) (xs0 : List Int) (l0 : Int) (z0 : Int) (w : World) (hr0 : Rd .i64 w a0 n0 xs0) (hm0 : n0 ≤ maxLen) :
    Calls Try.prog 4 #[.agg #[.int .i64 e0, .slice a0 n0 ca0, .int .i64 l0, .int .i64 z0]] w fun e w' => e = .returned (.bool true) ∧ Below w.heap.size w w' := by
  by_cases hn0 : (n0 : Int) ≤ 1048576
  rotate_left
  · go_enter Try.func4, Try.ntmps4
    have hb : Below w.heap.size w w := Below.refl _ _
    go_wp2_with fail
    have bp : ∀ o0, Below w.heap.size w (w.alloc o0) := fun o0 => (Below.refl _ _).alloc (Nat.le_refl _) o0
    have hbt : ∀ o0, Below w.heap.size w (w.alloc o0) := fun o0 => hb.trans ((bp o0).mono hb.size)
    refine Calls.mono (szIndex_no e0 a0 n0 ca0 l0 z0 (1048576) _ (by omega) hm0 (by omega) (by omega)) ?_
    rintro e w1 ⟨rfl, hc⟩
    have s1 : w.heap.size + 1 ≤ w1.heap.size := by have := hc.size; simp at this; omega
    have bq : Below w.heap.size w w1 := (bp _).trans (hc.mono (bp _).size)
    have caX0 : w1.cell? ⟨w.heap.size, 0, none⟩ = some (.int .i64 e0) := cell_later hc (by simp [go_sem])
    have caX1 : w1.cell? ⟨w.heap.size, 1, none⟩ = some (.slice a0 n0 ca0) := cell_later hc (by simp [go_sem])
    have caX2 : w1.cell? ⟨w.heap.size, 2, none⟩ = some (.int .i64 l0) := cell_later hc (by simp [go_sem])
    have caX3 : w1.cell? ⟨w.heap.size, 3, none⟩ = some (.int .i64 z0) := cell_later hc (by simp [go_sem])
    have zaX : w.heap.size < w1.heap.size := by omega
    replace hb := hb.trans (bq.mono hb.size)
    clear hc bq bp hbt
    go_wp2
    go_ret
    exact ⟨rfl, hb⟩
  unfold maxLen at hm0
  have SC := fun (A0 : Option Addr) (C0 : Nat) (W' : World) (H0 : Rd .i64 W' A0 n0 xs0) (J0 : n0 ≤ C0) (M0 : C0 ≤ maxLen) => specIndexFault_any e0 A0 n0 C0 xs0 l0 z0 W' H0 (by omega)
  have IC := fun (A0 : Option Addr) (C0 : Nat) (W' : World) (H0 : Rd .i64 W' A0 n0 xs0) (J0 : n0 ≤ C0) (M0 : C0 ≤ maxLen) => implIndexFault_any e0 A0 n0 C0 xs0 l0 z0 W' H0 (by omega)
  generalize indexFault e0 xs0 l0 z0 = cd at *
  have HSC : Hid _ := SC
  have HIC : Hid _ := IC
  clear SC IC
  go_enter Try.func4, Try.ntmps4
  have hb : Below w.heap.size w w := Below.refl _ _
  go_wp2_with fail
  have bp : ∀ o0, Below w.heap.size w (w.alloc o0) := fun o0 => (Below.refl _ _).alloc (Nat.le_refl _) o0
  have hbt : ∀ o0, Below w.heap.size w (w.alloc o0) := fun o0 => hb.trans ((bp o0).mono hb.size)
  refine Calls.mono (szIndex_yes e0 a0 n0 ca0 l0 z0 (1048576) _ (by omega) (by omega)) ?_
  rintro e w1 ⟨rfl, hc⟩
  have s1 : w.heap.size + 1 ≤ w1.heap.size := by have := hc.size; simp at this; omega
  have bq : Below w.heap.size w w1 := (bp _).trans (hc.mono (bp _).size)
  have caX0 : w1.cell? ⟨w.heap.size, 0, none⟩ = some (.int .i64 e0) := cell_later hc (by simp [go_sem])
  have caX1 : w1.cell? ⟨w.heap.size, 1, none⟩ = some (.slice a0 n0 ca0) := cell_later hc (by simp [go_sem])
  have caX2 : w1.cell? ⟨w.heap.size, 2, none⟩ = some (.int .i64 l0) := cell_later hc (by simp [go_sem])
  have caX3 : w1.cell? ⟨w.heap.size, 3, none⟩ = some (.int .i64 z0) := cell_later hc (by simp [go_sem])
  have zaX : w.heap.size < w1.heap.size := by omega
  replace hb := hb.trans (bq.mono hb.size)
  clear hc bq bp hbt
  have hleft0 : ¬ (1048576 - (n0 : Int) < 0) := by omega
  go_wp2_with fail
  refine Calls.mono (toIndex_any e0 a0 n0 ca0 xs0 l0 z0 _ (hr0.below hb) (by omega)) ?_
  rintro e w2 ⟨vt2, rfl, rt2, hc⟩
  obtain ⟨at2, kt2, rfl, q1, q2⟩ := rt2.shape
  have Kt2 : Hid _ := And.intro q1 q2
  clear q1 q2
  have s2 : w1.heap.size ≤ w2.heap.size := hc.size
  have bq := hc
  replace caX0 := cell_later bq caX0
  replace caX1 := cell_later bq caX1
  replace caX2 := cell_later bq caX2
  replace caX3 := cell_later bq caX3
  replace zaX := Nat.lt_of_lt_of_le zaX bq.size
  replace hb := hb.trans (bq.mono hb.size)
  clear hc bq
  go_wp2_with fail
  refine Calls.mono (HSC.out at2 kt2 _ rt2.read Kt2.out.1 Kt2.out.2) ?_
  rintro e w3 ⟨rfl, hc⟩
  have s3 : w2.heap.size ≤ w3.heap.size := hc.size
  have bq := hc
  replace caX0 := cell_later bq caX0
  replace caX1 := cell_later bq caX1
  replace caX2 := cell_later bq caX2
  replace caX3 := cell_later bq caX3
  replace zaX := Nat.lt_of_lt_of_le zaX bq.size
  replace rt2 := rt2.below bq
  replace hb := hb.trans (bq.mono hb.size)
  clear hc bq
  clear rt2 Kt2
  go_wp2_with fail
  refine Calls.mono (toIndex_any e0 a0 n0 ca0 xs0 l0 z0 _ (hr0.below hb) (by omega)) ?_
  rintro e w4 ⟨vt4, rfl, rt4, hc⟩
  obtain ⟨at4, kt4, rfl, q1, q2⟩ := rt4.shape
  have Kt4 : Hid _ := And.intro q1 q2
  clear q1 q2
  have s4 : w3.heap.size ≤ w4.heap.size := hc.size
  have bq := hc
  replace caX0 := cell_later bq caX0
  replace caX1 := cell_later bq caX1
  replace caX2 := cell_later bq caX2
  replace caX3 := cell_later bq caX3
  replace zaX := Nat.lt_of_lt_of_le zaX bq.size
  replace hb := hb.trans (bq.mono hb.size)
  clear hc bq
  go_wp2_with fail
  have bp : ∀ o0, Below w4.heap.size w4 (w4.alloc o0) := fun o0 => (Below.refl _ _).alloc (Nat.le_refl _) o0
  have hbt : ∀ o0, Below w.heap.size w (w4.alloc o0) := fun o0 => hb.trans ((bp o0).mono hb.size)
  refine Calls.mono (HIC.out at4 kt4 _ (rt4.below (bp _)).read Kt4.out.1 Kt4.out.2) ?_
  rintro e w5 ⟨rfl, hc⟩
  have s5 : w4.heap.size + 1 ≤ w5.heap.size := by have := hc.size; simp at this; omega
  have bq : Below w4.heap.size w4 w5 := (bp _).trans (hc.mono (bp _).size)
  replace caX0 := cell_later bq caX0
  replace caX1 := cell_later bq caX1
  replace caX2 := cell_later bq caX2
  replace caX3 := cell_later bq caX3
  replace zaX := Nat.lt_of_lt_of_le zaX bq.size
  have cx00 : w5.cell? ⟨w4.heap.size, 0, none⟩ = some (.int .i64 e0) := cell_later hc (by simp [go_sem])
  have cx01 : w5.cell? ⟨w4.heap.size, 1, none⟩ = some (.slice at4 n0 kt4) := cell_later hc (by simp [go_sem])
  have cx02 : w5.cell? ⟨w4.heap.size, 2, none⟩ = some (.int .i64 l0) := cell_later hc (by simp [go_sem])
  have cx03 : w5.cell? ⟨w4.heap.size, 3, none⟩ = some (.int .i64 z0) := cell_later hc (by simp [go_sem])
  have zx0 : w4.heap.size < w5.heap.size := by omega
  replace rt4 := rt4.below bq
  replace hb := hb.trans (bq.mono hb.size)
  clear hc bq bp hbt
  go_wp2_with fail
  have bd : Below w5.heap.size w5 w5.drew := (Below.refl _ _).drew
  refine wp_region_held_drew (S := fun w' => w'.cell? ⟨w4.heap.size, 0, none⟩ = some (.int .i64 e0) ∧ w'.cell? ⟨w4.heap.size, 1, none⟩ = some (.slice at4 n0 kt4) ∧ w'.cell? ⟨w4.heap.size, 2, none⟩ = some (.int .i64 l0) ∧ w'.cell? ⟨w4.heap.size, 3, none⟩ = some (.int .i64 z0) ∧ w'.cell? ⟨w.heap.size, 0, none⟩ = some (.int .i64 e0) ∧ w'.cell? ⟨w.heap.size, 1, none⟩ = some (.slice a0 n0 ca0) ∧ w'.cell? ⟨w.heap.size, 2, none⟩ = some (.int .i64 l0) ∧ w'.cell? ⟨w.heap.size, 3, none⟩ = some (.int .i64 z0)) (by kernel_rfl) (by exact ⟨cx00, cx01, cx02, cx03, caX0, caX1, caX2, caX3⟩) (fun hS => ?_)
  refine wpAnyH_take (i := 0) (v := (.agg #[.int .i64 e0, .slice at4 n0 kt4, .int .i64 l0, .int .i64 z0])) rfl (by kernel_rfl) (by kernel_rfl) (by kernel_rfl) (fun _ _ _ h => h) (Or.inl ⟨by kernel_rfl, ?_⟩) hS ?_
  · intro w hSw; (try dsimp only at hSw); go_simp
  simp only [Act.put, List.getElem_toArray, List.getElem_cons_zero, List.getElem_cons_succ, List.setIfInBounds_toArray, List.set_cons_zero, List.set_cons_succ]
  refine wpAnyH_take (i := 1) (v := (.agg #[.int .i64 e0, .slice a0 n0 ca0, .int .i64 l0, .int .i64 z0])) rfl (by kernel_rfl) (by kernel_rfl) (by kernel_rfl) (fun _ _ _ h => h) (Or.inl ⟨by kernel_rfl, ?_⟩) hS ?_
  · intro w hSw; (try dsimp only at hSw); go_simp
  simp only [Act.put, List.getElem_toArray, List.getElem_cons_zero, List.getElem_cons_succ, List.setIfInBounds_toArray, List.set_cons_zero, List.set_cons_succ]
  refine wpAnyH_ready (rs := [2]) (by kernel_rfl) (by simp) ?_
  refine AllReadyH.cons rfl (fun K hK => ?_) AllReadyH.nil
  go_simp
  refine Calls.mono (toIndex_any e0 a0 n0 ca0 xs0 l0 z0 _ (hr0.below hb.drew) (by omega)) ?_
  rintro e w6 ⟨vt6, rfl, rt6, hc0⟩
  obtain ⟨at6, kt6, rfl, q1, q2⟩ := rt6.shape
  have Kt6 : Hid _ := And.intro q1 q2
  clear q1 q2
  replace rt6 := RowI.mono (lo' := w5.heap.size) rt6 (Nat.le_refl _) (Nat.le_refl _)
  refine hK.out _ _ ⟨cell_later hc0 hS.1, cell_later hc0 hS.2.1, cell_later hc0 hS.2.2.1, cell_later hc0 hS.2.2.2.1, cell_later hc0 hS.2.2.2.2.1, cell_later hc0 hS.2.2.2.2.2.1, cell_later hc0 hS.2.2.2.2.2.2.1, cell_later hc0 hS.2.2.2.2.2.2.2⟩ (fun hS => ?_)
  clear hK K
  have hc : Below w5.heap.size w5 w6 := bd.trans (hc0.mono (Nat.le_refl _))
  clear hc0 bd
  have s6 : w5.heap.size ≤ w6.heap.size := hc.size
  have bq := hc
  replace caX0 := cell_later bq caX0
  replace caX1 := cell_later bq caX1
  replace caX2 := cell_later bq caX2
  replace caX3 := cell_later bq caX3
  replace zaX := Nat.lt_of_lt_of_le zaX bq.size
  replace cx00 := cell_later bq cx00
  replace cx01 := cell_later bq cx01
  replace cx02 := cell_later bq cx02
  replace cx03 := cell_later bq cx03
  replace zx0 := Nat.lt_of_lt_of_le zx0 bq.size
  replace rt4 := rt4.below bq
  replace hb := hb.trans (bq.mono hb.size)
  clear hc bq
  refine wpAnyH_ready (rs := [3]) (by kernel_rfl) (by simp) ?_
  refine AllReadyH.cons rfl (fun K hK => ?_) AllReadyH.nil
  go_simp
  refine Calls.mono (eqIndex_yes e0 at4 at6 n0 kt4 kt6 xs0 l0 z0 _ rt4.read rt6.read (by first | omega | (unfold maxLen; omega))) ?_
  rintro e w7 ⟨rfl, hc0⟩
  refine hK.out _ _ ⟨cell_later hc0 hS.1, cell_later hc0 hS.2.1, cell_later hc0 hS.2.2.1, cell_later hc0 hS.2.2.2.1, cell_later hc0 hS.2.2.2.2.1, cell_later hc0 hS.2.2.2.2.2.1, cell_later hc0 hS.2.2.2.2.2.2.1, cell_later hc0 hS.2.2.2.2.2.2.2⟩ (fun hS => ?_)
  clear hK K
  have hc := hc0
  clear hc0
  have s7 : w6.heap.size ≤ w7.heap.size := hc.size
  have bq := hc
  replace caX0 := cell_later bq caX0
  replace caX1 := cell_later bq caX1
  replace caX2 := cell_later bq caX2
  replace caX3 := cell_later bq caX3
  replace zaX := Nat.lt_of_lt_of_le zaX bq.size
  replace cx00 := cell_later bq cx00
  replace cx01 := cell_later bq cx01
  replace cx02 := cell_later bq cx02
  replace cx03 := cell_later bq cx03
  replace zx0 := Nat.lt_of_lt_of_le zx0 bq.size
  replace rt4 := rt4.below bq
  replace rt6 := rt6.below bq
  replace hb := hb.trans (bq.mono hb.size)
  clear hc bq
  clear rt6 Kt6
  refine wpAnyH_take (i := 4) (v := (.bool false)) rfl (by kernel_rfl) (by kernel_rfl) (by kernel_rfl) (fun _ _ _ h => h) (Or.inl ⟨by kernel_rfl, ?_⟩) hS ?_
  · intro w hSw; (try dsimp only at hSw); go_simp
  simp only [Act.put, List.getElem_toArray, List.getElem_cons_zero, List.getElem_cons_succ, List.setIfInBounds_toArray, List.set_cons_zero, List.set_cons_succ]
  refine wpAnyH_done (by kernel_rfl) ?_ _
  clear hS
  go_wp2
  go_ret
  exact ⟨rfl, hb⟩

theorem own : ownKnob Try.prog.godebug = none := by kernel_rfl
theorem laidOut : laidOutB Try.prog = true := by kernel_rfl

set_option maxRecDepth 100000 in
theorem lifted (os : Os) (started : os.Started) (H : Type) (enc : TypeId × Value → H) :
    ReturnsInHanded {} Try.checked os 4 .any (Rows.fnExactIndexFaultSpec.pre6 enc Try.prog Try.f4 Rows.fnExactIndexFaultRow.domain false) (Rows.fnExactIndexFaultSpec.post enc Try.prog Try.f4 false true false false) := by
  refine returnsInHanded_of_change (C := Try.checked) own started (by kernel_rfl) Try.func4
    (ChangeSpec.witness6 (enc := enc) (C := Try.checked) false ⟨#[], #[.agg #[.int .i64 0, .slice none 0 0, .int .i64 0, .int .i64 0]], []⟩ 8 (by kernel_rfl) (by kernel_rfl) (by kernel_rfl) (by kernel_rfl)) ?_
  intro W base args ds gs before hval0 hW hcnd _
  have hval : ∀ (j : Nat) t v, Try.f4.params[j]? = some t → args[j]? = some v → Value.okWide Try.prog W .any base t v := hval0
  have hW' := hW
  obtain ⟨p, q, hA0, hV, rfl, hfz, hnd⟩ := hW
  have hA : DataW.TrodAll enc Try.prog W 0 (fun _ => true) true Try.f4.params.toList args.toList ds p := hA0
  rw [Try.params4] at hA hval
  obtain ⟨v0, d0, rfl, rfl, h0⟩ := trodAll_one hA
  obtain ⟨rfl, rfl⟩ := trodVars_none hV
  have k0 := h0
  have lt0 : ∀ x ∈ p, x.block < W.heap.size := by obtain ⟨m, hm⟩ := k0; exact DataW.trod_lt m _ _ _ hm
  obtain ⟨e0, a0, len0, cap0, x0, l0, z0, rfl, hr0, hm0⟩ := open_index (hval 0 44 v0 rfl rfl) h0
  clear hA0 hval0
  refine (walk e0 a0 len0 cap0 x0 l0 z0 W hr0 hm0).mono fun e W' ⟨he, bel⟩ => ?_
  subst he
  exact ⟨_, rfl, _, _, _, [], _, [], hW', trodAll_mk1 (shut_bool Try.underlying4 _), trodAll_mk1 (Below.trod laidOut (by kernel_rfl) (of_decide_eq_true (by kernel_rfl)) k0 bel lt0), rfl, bel.frame _, fun h => by cases h⟩

theorem proved : Rows.FnExactIndexFaultSaid :=
  OpenClaim.holds_of_wide 4 Try.f4 rfl rfl rfl rfl rfl rfl rfl ⟨rfl, rfl, rfl, rfl, rfl⟩ rfl rfl rfl rfl rfl (by kernel_rfl) Try.func4 (by kernel_rfl)
    (of_decide_eq_true (by kernel_rfl)) (by unfold Func.isWrapper; first | (rw [if_pos (by decide +kernel)]; kernel_rfl) | (rw [if_neg (by decide +kernel)]; exact ⟨rfl, rfl⟩))
    (fun os started H enc _ => lifted os started H enc)
end Go.Proofs.Ythdglflipeggpaa.fnExactIndexFault
namespace Go.Proofs.Ythdglflipeggpaa
theorem fnExactIndexFault_proved : Rows.FnExactIndexFaultSaid := fnExactIndexFault.proved
end Go.Proofs.Ythdglflipeggpaa
