/-
  Draws of files: contracts.
-/
import Derived.Test.YtocophekfbhfbaaDraw4
import Derived.Test.YtocophekfbhfbaaChg
import Derived.Test.YtocophekfbhfbaaAppend
namespace Go.Proofs.Ytocophekfbhfbaa
open Go.RowKit
set_option linter.unusedVariables false

set_option maxRecDepth 4000 in
set_option maxHeartbeats 3200000 in
theorem l2Draw_any (B b T : Nat) (w : World) (hs : Src w B b T) (hT : T ≤ 5000) :
    Calls Try.prog 149 #[.pointer (some ⟨b, 0, none⟩)] w fun e w' => ∃ v ys, e = .returned (.agg #[v]) ∧ RowI .u8 5 w' w.heap.size w'.heap.size v ys.length ys ∧ ys.length ≤ 300 ∧ Bytes ys ∧ Src w' B b (T + 1000) ∧ w.grownBy w' (some b) := by
  obtain ⟨i0, hi, hz0, hz1, hz2⟩ := info_parts info8d
  have hlt := hs.lt
  have hBb := hs.1
  go_enter Try.func149, Try.ntmps149
  go_wp2_with fail
  refine (l1Next_any B b T 7 _ ((hs.alloc _).alloc _) (by omega) (by omega)).mono ?_
  rintro e w1 ⟨r, rfl, hr, hs1, hg1⟩
  obtain ⟨hr0, hr1⟩ := hr.2 (by omega)
  clear hr
  obtain ⟨r, rfl⟩ := Int.eq_ofNat_of_zero_le hr0
  have hC1 := Chg.one hg1
  have z1 : w.heap.size + 2 ≤ w1.heap.size := by have := hg1.size; simp at this; omega
  have hg01 : w.grownBy w1 (some b) := grownBy_alloc_trans (grownBy_alloc_trans hg1)
  have c0 : w1.cell? ⟨w.heap.size, 0, none⟩ = some (.slice none 0 0) := hC1.at (by simp [go_sem]) (by simp; omega) (by omega)
  have f0 : w1.frozen? ⟨w.heap.size, 0, none⟩ = false := hC1.fr (by simp [go_sem]) (by simp; omega) (by omega)
  have ho1 : RowI .u8 5 w1 (w.heap.size + 1) w1.heap.size (.slice (some ⟨w.heap.size + 1, 0, none⟩) 0 0) 0 [] := by
    have h0 := own_lit (k := .u8) (e := 5) (w.alloc (.cells #[.slice none 0 0] 28)) #[] 0 (w.heap.size + 1) [] rfl rfl (by simp) (by simp [maxLen])
    rw [World.size_alloc] at h0
    exact ((RowI.of h0).chg hC1 (by simp; omega)).mono (Nat.le_refl _) hg1.size
  clear hg1 hC1
  go_wp2_with fail
  go_loopw [3, 4] (fun v k wr => ∃ (kk : Nat) (ys : List Int), kk ≤ r ∧ k = .int .i64 kk ∧ RowI .u8 5 wr (w.heap.size + 1) wr.heap.size v ys.length ys ∧ ys.length ≤ 31 * (r - kk) ∧ Bytes ys ∧ Src wr B b (T + 1 + 31 * (r - kk)) ∧ w.grownBy wr (some b) ∧ w.heap.size + 2 ≤ wr.heap.size ∧ wr.cell? ⟨w.heap.size, 0, none⟩ = some (.slice none 0 0) ∧ wr.frozen? ⟨w.heap.size, 0, none⟩ = false) (fun _ k _ => (intOf k).toNat)
  case atStart => exact ⟨r, [], Nat.le_refl _, rfl, ho1, by simp, fun x hx => by simp at hx, hs1.more (by omega), hg01, z1, c0, f0⟩
  case round =>
    obtain ⟨kk, ys, hkr, rfl, ho, hyl, hyb, hsr, hgr, hzr, c0, f0⟩ := hrel
    obtain ⟨av, cap, rfl, _⟩ := ho.shape
    by_cases hk : 0 < kk
    · have hk' : (0 : Int) < (kk : Int) := by omega
      go_wp2_with fail
      refine (l1Line_any B b _ 10 _ hsr (by omega) (by omega) (by omega)).mono ?_
      rintro e w2 ⟨v2, zs, rfl, ho2, hl2, hzb, hs2, hg2⟩
      have hC2 := Chg.one hg2
      have hy2 := hg2.size
      have oA := ho.chg hC2 (by omega)
      have c2 := hC2.at c0 (by omega) (by omega)
      have f2 := hC2.fr f0 (by omega) (by omega)
      obtain ⟨a2, k2, hv2, hr2, _⟩ := ho2.rd
      subst hv2
      have hgr2 := grown_trans hgr hg2
      clear hC2 hg2 hgr ho ho2 c0 f0 hs1 hg01 ho1
      go_wp2_with (at_builtin; refine wpList_append_rd rfl _ _ 22 rfl .u8 (w.heap.size + 1) 5 i0 1 Try.underlying22 hi hz0 hz1 hz2 _ _ ys rfl oA.1 a2 zs.length k2 zs rfl hr2 (by unfold maxLen; omega) (by omega) (by omega) ?_)
      intro v3 w3 o3 hg3
      have lo3 := oA.1.lt
      have hs3 := hs2.kept hg3 (fun j hj => by have := (lo3 j hj).1; omega)
      have hC3 := Chg.of_grown (lo := w.heap.size + 1) (hi := wr.heap.size) hg3 (fun j hj => ⟨(lo3 j hj).1, oA.2 j hj⟩)
      have c3 := hC3.at c2 (by omega) (by omega)
      have f3 := hC3.fr f2 (by omega) (by omega)
      have hy3 := hg3.size
      have hgr3 := grown_mix hgr2 hg3 (fun j hj => by have := (lo3 j hj).1; omega)
      obtain ⟨a3, k3, hv3, _⟩ := o3.rd
      subst hv3
      clear hC3 hg3 oA lo3 c2 f2 hr2 hs2 hgr2
      go_wp2_with (at_builtin; refine wpList_append_rd rfl _ _ 22 rfl .u8 (w.heap.size + 1) 5 i0 1 Try.underlying22 hi hz0 hz1 hz2 _ _ (ys ++ zs) rfl (World.ownsRow.alloc o3 _) (some ⟨w3.heap.size, 0, none⟩) 1 1 [10] rfl (lit_rd w3 [10] 1 rfl (by simp [maxLen])) (by unfold maxLen; omega) (by omega) (by simp; omega) ?_)
      intro v4 w4 o4 hg4
      have lo4 := o3.lt
      have hg4' := grownBy_alloc_trans hg4
      have hs4 := hs3.kept hg4' (fun j hj => by have := (lo4 j hj).1; omega)
      have hC4 := Chg.of_grown (lo := w.heap.size + 1) (hi := w3.heap.size) hg4' (fun j hj => lo4 j hj)
      have c4 := hC4.at c3 (by omega) (by omega)
      have f4 := hC4.fr f3 (by omega) (by omega)
      have hgr4 := grown_mix hgr3 hg4' (fun j hj => by have := (lo4 j hj).1; omega)
      have hy4 := hg4'.size
      have o5 : RowI .u8 5 w4 (w.heap.size + 1) w4.heap.size v4 (ys ++ zs ++ [10]).length (ys ++ zs ++ [10]) := RowI.of (by
        have e : (ys ++ zs ++ [10]).length = ys.length + zs.length + 1 := by simp; omega
        rw [e, List.append_assoc]
        exact o4)
      clear hC4 hg4 hg4' lo4 o3 o4 c3 f3 hs3 hgr3
      go_wp2
      go_roundw
      case rel => exact ⟨kk - 1, ys ++ zs ++ [10], by omega, by go_num, o5, by simp; omega, (hyb.append hzb).append (fun x hx => by simp at hx; omega), hs4.more (by omega), hgr4, by omega, c4, f4⟩
      case measure => simp [intOf]; omega
    · go_wp2_with fail
      refine (l1Chance_any B b _ 2 _ hsr (by omega) (by omega)).mono ?_
      rintro e w2 ⟨q, rfl, hs2, hg2⟩
      have hC2 := Chg.one hg2
      have hy2 := hg2.size
      have oA := ho.chg hC2 (by omega)
      have c2 := hC2.at c0 (by omega) (by omega)
      have f2 := hC2.fr f0 (by omega) (by omega)
      have hgr2 := grown_trans hgr hg2
      clear hC2 hg2 hgr ho c0 f0 hs1 hg01 ho1
      cases q
      · go_wp2
        refine bodyPost_ret (v := .agg #[.slice av ys.length cap]) (by simp [results, Try.results149, go_sem, c2]) rfl ⟨_, ys, rfl, RowI.mono (RowI.of (oA.1.setBelow (by simp) _)) (by omega) (Nat.le_refl _), by omega, hyb, (hs2.kept (set_grown _ w.heap.size 0 _) (fun j hj => by simp at hj; omega)).more (by omega), grown_mix hgr2 (set_grown _ w.heap.size 0 _) (fun j hj => by simp at hj; omega)⟩
      · go_wp2_with fail
        refine (l1Line_any B b _ 6 _ hs2 (by omega) (by omega) (by omega)).mono ?_
        rintro e w3 ⟨v3, zs, rfl, ho3, hl3, hzb, hs3, hg3⟩
        have hC3 := Chg.one hg3
        have hy3 := hg3.size
        have oB := oA.chg hC3 (by omega)
        have c3 := hC3.at c2 (by omega) (by omega)
        have f3 := hC3.fr f2 (by omega) (by omega)
        have hgr3 := grown_trans hgr2 hg3
        obtain ⟨a3, k3, hv3, hr3, _⟩ := ho3.rd
        subst hv3
        clear hC3 hg3 hgr2 oA ho3 c2 f2 hs2
        go_wp2_with (at_builtin; refine wpList_append_rd rfl _ _ 22 rfl .u8 (w.heap.size + 1) 5 i0 1 Try.underlying22 hi hz0 hz1 hz2 _ _ ys rfl oB.1 a3 zs.length k3 zs rfl hr3 (by unfold maxLen; omega) (by omega) (by omega) ?_)
        intro v4 w4 o4 hg4
        have lo4 := oB.1.lt
        have hs4 := hs3.kept hg4 (fun j hj => by have := (lo4 j hj).1; omega)
        have hC4 := Chg.of_grown (lo := w.heap.size + 1) (hi := w3.heap.size) hg4 (fun j hj => lo4 j hj)
        have c4 := hC4.at c3 (by omega) (by omega)
        have f4 := hC4.fr f3 (by omega) (by omega)
        have hgr4 := grown_mix hgr3 hg4 (fun j hj => by have := (lo4 j hj).1; omega)
        have hy4 := hg4.size
        have o5 : Own .u8 5 w4 (w.heap.size + 1) v4 (ys ++ zs).length (ys ++ zs) := by rw [List.length_append]; exact o4
        obtain ⟨a4, k4, hv4, _⟩ := o5.rd
        subst hv4
        clear hC4 hg4 lo4 oB o4 c3 f3 hs3 hgr3
        go_wp2
        refine bodyPost_ret (v := .agg #[.slice a4 (ys ++ zs).length k4]) (by simp [results, Try.results149, go_sem, c4]) rfl ⟨_, ys ++ zs, rfl, RowI.mono (RowI.of (o5.setBelow (by simp) _)) (by omega) (Nat.le_refl _), by simp; omega, hyb.append hzb, (hs4.kept (set_grown _ w.heap.size 0 _) (fun j hj => by simp at hj; omega)).more (by omega), grown_mix hgr4 (set_grown _ w.heap.size 0 _) (fun j hj => by simp at hj; omega)⟩
end Go.Proofs.Ytocophekfbhfbaa
