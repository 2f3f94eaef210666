/-
  For every char, FnExactEncodeChar returns true: the program's EncodeChar answers as the model, its bytes are its own memory; no condition.
-/
import Derived.Test.YtjnbegemdhkciaaEnc
import Derived.Test.YtjnbegemdhkciaaHlp2
import Derived.ProofKit
import Derived.OpenShut
namespace Go.Proofs.Ytjnbegemdhkciaa.fnExactEncodeChar
open Go.ChangeShapes Go.WideShapes Go.ChangeAt Go.RowKit

theorem own : ownKnob Try.prog.godebug = none := by kernel_rfl

set_option maxHeartbeats 800000 in
theorem walk (c : Int) (w : World) :
    Calls Try.prog 6 #[.int .i64 c] w fun e w' => e = .returned (.bool true) ∧ Below w.heap.size w w' := by
  have hl := encBytes_len c
  go_enter Try.func6, Try.ntmps6
  go_wp2_with fail
  refine (specEncodeChar_any c _).mono ?_
  rintro e w1 ⟨v1, rfl, ho1, hb1⟩
  obtain ⟨a1, cap1, hv1, hr1, hm⟩ := ho1.rd
  subst hv1
  generalize hE : encBytes c = xs at *
  generalize hC : encCode c = cd at *
  have HE : Hid (encBytes c = xs) := hE
  have HC : Hid (encCode c = cd) := hC
  clear hE hC
  generalize hn : xs.length = n at *
  have HN : Hid (xs.length = n) := hn
  clear hn
  go_wp2_with fail
  refine (implEncodeChar_any c _).mono ?_
  rw [HE.out, HC.out, HN.out]
  rintro e w2 ⟨v2, rfl, ho2, hb2⟩
  obtain ⟨a2, cap2, hv2, hr2, _⟩ := ho2.rd
  subst hv2
  have hb12 : Below w1.heap.size w1 w2 := below_slot hb2
  have hz12 : w1.heap.size < w2.heap.size := by have := hb2.size; simp at this; omega
  have c20 : w2.cell? ⟨w1.heap.size, 0, none⟩ = some (.int .i64 cd) := (hb2.cell (p := ⟨w1.heap.size, 0, none⟩) (by simp)).trans (by simp)
  have c21 : w2.cell? ⟨w1.heap.size, 1, none⟩ = some (.slice a1 n cap1) := (hb2.cell (p := ⟨w1.heap.size, 1, none⟩) (by simp)).trans (by simp)
  clear hb2
  go_wp2_with fail
  have hb23 : Below w2.heap.size w2 (w2.alloc (Obj.cells #[Value.int IntKind.i64 cd, Value.slice a2 n cap2] 31)) := (Below.refl _ _).alloc (Nat.le_refl _) _
  refine (eqBytesResult_yes cd a2 a1 n cap2 cap1 xs _ (hr2.below hb23) ((hr1.below hb12).below hb23) hm).mono ?_
  rintro e w3 ⟨rfl, hb3⟩
  have hb03 : Below w2.heap.size w2 w3 := hb23.trans (hb3.mono (by simp))
  have hz23 : w2.heap.size < w3.heap.size := by have := hb3.size; simp at this; omega
  have g0 : w3.cell? ⟨w2.heap.size, 0, none⟩ = some (.int .i64 cd) := (hb3.cell (p := ⟨w2.heap.size, 0, none⟩) (by simp)).trans (by simp)
  have g1 : w3.cell? ⟨w2.heap.size, 1, none⟩ = some (.slice a2 n cap2) := (hb3.cell (p := ⟨w2.heap.size, 1, none⟩) (by simp)).trans (by simp)
  have c30 := cell_later hb03 c20
  have c31 := cell_later hb03 c21
  clear hb3 hb23 c20 c21
  have l2 := ho2.lt
  have l1 := ho1.lt
  have ho23 := ho2.below hb03
  have ho13 := (ho1.below hb12).below hb03
  clear ho2 hr2 hr1 ho1
  go_wp2_with fail
  refine (markBytesResult_own cd 1 _ n _ xs _ ho23 (by omega) (by omega) (by omega)).mono ?_
  rintro e w4 ⟨rfl, ho4, hg4⟩
  have hz34 := hg4.size
  have c40 := grown_cell hg4 c30 (fun j hj => by have := (l2 j hj).1; simp at this ⊢; omega)
  have c41 := grown_cell hg4 c31 (fun j hj => by have := (l2 j hj).1; simp at this ⊢; omega)
  have g40 := grown_cell hg4 g0 (fun j hj => by have := (l2 j hj).2; simp; omega)
  have g41 := grown_cell hg4 g1 (fun j hj => by have := (l2 j hj).2; simp; omega)
  have ho14 := ho13.kept hg4 (fun j hj hk => by have h1 := (l1 j hj).2; have h2 := (l2 j hk).1; simp at h2; omega)
  have hb04 : Below w.heap.size w w4 := ((hb1.trans (hb12.mono hb1.size)).trans (hb03.mono (by have := hb1.size; omega))).grown hg4 (by have := hb1.size; omega) (fun j hj => by have h2 := (l2 j hj).1; have := hb1.size; simp at h2; omega)
  clear c30 c31 g0 g1 hg4 ho13 ho23 hb03
  go_wp2_with fail
  obtain ⟨a4, cap4, hv4, hr4, _⟩ := ho4.rd
  obtain ⟨rfl, rfl⟩ : a2 = a4 ∧ cap2 = cap4 := by simpa using hv4
  clear hv4
  refine (heldBytesResult_yes cd 1 a2 n cap2 _ hr4 (by omega) (by omega) (by omega)).mono ?_
  rintro e w5 ⟨rfl, hb5⟩
  have c50 := cell_later hb5 c40
  have c51 := cell_later hb5 c41
  have g50 := cell_later hb5 g40
  have g51 := cell_later hb5 g41
  have ho15 := ho14.below hb5
  have ho25 := ho4.below hb5
  have hb05 : Below w.heap.size w w5 := hb04.trans (hb5.mono (by have := hb04.size; omega))
  have hz45 := hb5.size
  clear c40 c41 g40 g41 ho14 ho4 hb5 hb04 hr4
  go_wp2_with fail
  refine (implEncodeChar_any c _).mono ?_
  rw [HE.out, HC.out, HN.out]
  rintro e w6 ⟨v6, rfl, ho6, hb6⟩
  obtain ⟨a6, cap6, hv6, hr6, _⟩ := ho6.rd
  subst hv6
  have c60 := cell_later hb6 c50
  have c61 := cell_later hb6 c51
  have g60 := cell_later hb6 g50
  have g61 := cell_later hb6 g51
  have ho16 := ho15.below hb6
  have ho26 := ho25.below hb6
  have hz56 := hb6.size
  have hb06 : Below w.heap.size w w6 := hb05.trans (hb6.mono (by have := hb05.size; omega))
  clear c50 c51 g50 g51 ho15 ho25 hb6 hb05 ho6
  have z16 : w1.heap.size < w6.heap.size := by omega
  have z26 : w2.heap.size < w6.heap.size := by omega
  go_wp2_with fail
  have hb67 : Below w6.heap.size w6 (w6.alloc (Obj.cells #[Value.int IntKind.i64 cd, Value.slice a6 n cap6] 31)) := (Below.refl _ _).alloc (Nat.le_refl _) _
  obtain ⟨a7, cap7, hv7, hr7, _⟩ := ho16.rd
  obtain ⟨rfl, rfl⟩ : a1 = a7 ∧ cap1 = cap7 := by simpa using hv7
  clear hv7
  refine (eqBytesResult_yes cd a6 a1 n cap6 cap1 xs _ (hr6.below hb67) (hr7.below hb67) hm).mono ?_
  rintro e w7 ⟨rfl, hb7⟩
  have hb07 : Below w6.heap.size w6 w7 := hb67.trans (hb7.mono (by simp))
  have g70 := cell_later hb07 g60
  have g71 := cell_later hb07 g61
  have ho27 := ho26.below hb07
  have hb08 : Below w.heap.size w w7 := hb06.trans (hb07.mono (by have := hb06.size; omega))
  clear c60 c61 g60 g61 hb7 hb67 ho26 hr7 hr6 ho16 hb06
  go_wp2_with fail
  obtain ⟨a8, cap8, hv8, hr8, _⟩ := ho27.rd
  obtain ⟨rfl, rfl⟩ : a2 = a8 ∧ cap2 = cap8 := by simpa using hv8
  clear hv8
  refine (heldBytesResult_yes cd 1 a2 n cap2 _ hr8 (by omega) (by omega) (by omega)).mono ?_
  rintro e w9 ⟨rfl, hb9⟩
  go_wp2
  go_ret
  exact ⟨rfl, hb08.trans (hb9.mono (by have := hb08.size; omega))⟩

set_option maxRecDepth 100000 in
theorem lifted (os : Os) (started : os.Started) (H : Type) (enc : TypeId × Value → H) :
    ReturnsInHanded {} Try.checked os 6 .any (Rows.fnExactEncodeCharSpec.pre6 enc Try.prog Try.f6 Rows.fnExactEncodeCharRow.domain false) (Rows.fnExactEncodeCharSpec.post enc Try.prog Try.f6 false true false false) := by
  refine returnsInHanded_of_change (C := Try.checked) own started (by kernel_rfl) Try.func6
    (ChangeSpec.witness6 (enc := enc) (C := Try.checked) false ⟨#[], #[.int .i64 0], []⟩ 8 (by kernel_rfl) (by kernel_rfl) (by kernel_rfl) (by kernel_rfl)) ?_
  intro W base args ds gs before hval0 hW hcnd _
  have hval : ∀ (j : Nat) t v, Try.f6.params[j]? = some t → args[j]? = some v → Value.okWide Try.prog W .any base t v := hval0
  have hW' := hW
  obtain ⟨p, q, hA0, hV, rfl, hfz, hnd⟩ := hW
  have hA : DataW.TrodAll enc Try.prog W 0 (fun _ => true) true Try.f6.params.toList args.toList ds p := hA0
  rw [Try.params6] at hA hval
  obtain ⟨v0, d0, rfl, rfl, h0⟩ := trodAll_one hA
  obtain ⟨rfl, rfl⟩ := trodVars_none hV
  obtain ⟨x0, rfl, rfl, rfl, w0⟩ := open_int Try.underlying2 (hval 0 2 v0 rfl rfl) h0
  clear hA0 hval0
  simp only [List.append_nil] at hW'
  refine (walk x0 W).mono fun e W' ⟨he, hg⟩ => ?_
  subst he
  exact ⟨_, rfl, _, _, _, [], _, [], hW', trodAll_mk1 (shut_bool Try.underlying4 _), trodAll_mk1 (shut_int Try.underlying2 w0), rfl, hg.frame _, fun h => by cases h⟩

theorem proved : Rows.FnExactEncodeCharSaid :=
  OpenClaim.holds_of_wide 6 Try.f6 rfl rfl rfl rfl rfl rfl rfl ⟨rfl, rfl, rfl, rfl, rfl⟩ rfl rfl rfl rfl rfl (by kernel_rfl) Try.func6 (by kernel_rfl)
    (of_decide_eq_true (by kernel_rfl)) (by unfold Func.isWrapper; first | (rw [if_pos (by decide +kernel)]; kernel_rfl) | (rw [if_neg (by decide +kernel)]; exact ⟨rfl, rfl⟩))
    (fun os started H enc _ => lifted os started H enc)
end Go.Proofs.Ytjnbegemdhkciaa.fnExactEncodeChar
namespace Go.Proofs.Ytjnbegemdhkciaa
theorem fnExactEncodeChar_proved : Rows.FnExactEncodeCharSaid := fnExactEncodeChar.proved
end Go.Proofs.Ytjnbegemdhkciaa
