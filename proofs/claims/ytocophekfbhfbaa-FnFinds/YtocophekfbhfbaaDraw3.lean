/-
  Draws of lines of bytes, of a place, of a character; lwBig, lwSame.
-/
import Derived.Test.YtocophekfbhfbaaDraw2
namespace Go.Proofs.Ytocophekfbhfbaa
open Go.RowKit
set_option linter.unusedVariables false

theorem info8d : (Try.prog.info? 5).map (fun i => (i.zero, i.size, i.bytes)) = some (some (.int .u8 0), 1, 1) := by kernel_rfl

/-- Writes into rows that are younger. -/
theorem grown_mix {w1 w2 w3 : World} {r1 row : Option Nat} (h : w1.grownBy w2 r1) (k : w2.grownBy w3 row) (hr : ∀ j, row = some j → w1.heap.size ≤ j) : w1.grownBy w3 r1 :=
  ⟨k.os.trans h.os, k.tape.trans h.tape, k.output.trans h.output, Nat.le_trans h.size k.size, fun i hi h1 => (k.block i (Nat.lt_of_lt_of_le hi h.size) (fun e => by have := hr i e.symm; omega)).trans (h.block i hi h1)⟩

theorem Bytes.append {xs ys : List Int} (h : Bytes xs) (k : Bytes ys) : Bytes (xs ++ ys) := fun x hx => (List.mem_append.1 hx).elim (h x) (k x)

set_option maxHeartbeats 1600000 in
theorem l1Line_any (B b T N : Nat) (w : World) (hs : Src w B b T) (hT : T ≤ 100000) (hN1 : 1 ≤ N) (hN : N ≤ 1000) :
    Calls Try.prog 212 #[.pointer (some ⟨b, 0, none⟩), .int .i64 N] w fun e w' => ∃ v ys, e = .returned v ∧ Own .u8 5 w' w.heap.size v ys.length ys ∧ ys.length ≤ 3 * N ∧ Bytes ys ∧ Src w' B b (T + 1 + 3 * N) ∧ w.grownBy w' (some b) := by
  obtain ⟨i0, hi, hz0, hz1, hz2⟩ := info_parts info8d
  have hlt := hs.lt
  have hBb := hs.1
  go_enter Try.func212, Try.ntmps212
  go_wp2_with fail
  refine (l1Next_any B b T N _ (hs.alloc _) (by omega) (by omega)).mono ?_
  rintro e w1 ⟨r, rfl, hr, hs1, hg1⟩
  obtain ⟨hr0, hr1⟩ := hr.2 (by omega)
  clear hr
  obtain ⟨r, rfl⟩ := Int.eq_ofNat_of_zero_le hr0
  have hz1' := hg1.size
  have hg01 : w.grownBy w1 (some b) := grownBy_alloc_trans hg1
  have ho1 : Own .u8 5 w1 w.heap.size (.slice (some ⟨w.heap.size, 0, none⟩) 0 0) 0 [] := by
    have h0 := own_lit (k := .u8) (e := 5) w #[] 0 w.heap.size [] rfl rfl (Nat.le_refl _) (by simp [maxLen])
    exact Own.kept h0 hg1 (fun j hj hk => by simp [Value.ownBlock] at hj hk; omega)
  clear hg1
  go_wp2_with fail
  go_loopw [5, 6] (fun v k wr => ∃ (kk : Nat) (ys : List Int), kk ≤ r ∧ k = .int .i64 kk ∧ Own .u8 5 wr w.heap.size v ys.length ys ∧ ys.length ≤ 3 * (r - kk) ∧ Bytes ys ∧ Src wr B b (T + 1 + 3 * (r - kk)) ∧ w.grownBy wr (some b)) (fun _ k _ => (intOf k).toNat)
  case atStart => exact ⟨r, [], Nat.le_refl _, rfl, ho1, by simp, fun x hx => by simp at hx, hs1.more (by omega), hg01⟩
  case round =>
    obtain ⟨kk, ys, hkr, rfl, ho, hyl, hyb, hsr, hgr⟩ := hrel
    have hzr := hgr.size
    by_cases hk : 0 < kk
    · have hk' : (0 : Int) < (kk : Int) := by omega
      obtain ⟨av, cap, hv, _, _⟩ := ho.rd
      subst hv
      go_wp2_with fail
      refine (l1Byte_any B b _ _ hsr (by omega)).mono ?_
      rintro e w2 ⟨v2, zs, rfl, ho2, hl1, hl2, hzb, hs2, hg2⟩
      obtain ⟨g, cap2, hv2, hcells⟩ := ho2.addr (by omega)
      subst hv2
      have lo := ho.lt
      have ho3 := ho.kept hg2 (fun j hj hk => by have := (lo j hj).1; simp at hk; omega)
      have hy2 := hg2.size
      have lo3 := ho3.lt
      have hgr2 := grown_trans hgr hg2
      clear hg2 hgr ho ho2
      go_wp2_with (at_builtin; refine wpList_append_own _ rfl _ _ 22 rfl w.heap.size 5 i0 (.int .u8 0) 1 1 Try.underlying22 hi hz0 hz1 hz2 rfl (by decide) _ _ _ rfl ho3 ⟨g, 0, none⟩ zs.length cap2 (zs.map (Value.int .u8)) rfl (by simp) hcells (ints_oneCell .u8 _) (by unfold maxLen; omega) (by omega) (by omega) ?_)
      intro v' w3 ho4 hg4 _
      have ho5 : Own .u8 5 w3 w.heap.size v' (ys ++ zs).length (ys ++ zs) := by
        unfold Own
        rw [List.map_append, List.length_append]
        exact ho4
      have hs3 := hs2.kept hg4 (fun j hj => by have := (lo3 j hj).1; omega)
      have hg03 := grown_mix hgr2 hg4 (fun j hj => (lo3 j hj).1)
      clear ho4 hg4 ho3 hs2 hgr2 hcells
      go_wp2
      go_roundw
      case rel => exact ⟨kk - 1, ys ++ zs, by omega, by go_num, ho5, by rw [List.length_append]; omega, hyb.append hzb, hs3.more (by omega), hg03⟩
      case measure => simp [intOf]; omega
    · go_wp2
      go_ret
      exact ⟨_, ys, rfl, ho, by omega, hyb, hsr.more (by omega), hgr⟩

theorem lwSame_yes (a b : Option Addr) (n ca cb : Nat) (xs : List Int) (w : World) (ha : Rd .u8 w a n xs) (hb : Rd .u8 w b n xs) :
    Calls Try.prog 19 #[.slice a n ca, .slice b n cb] w fun e w' => e = .returned (.bool true) ∧ w' = w := by
  have h1 := conv_str (P := Try.prog) (S := 22) (D := 9) (cap := ca) ha Try.underlying22 Try.underlying5 Try.underlying9
  have h2 := conv_str (P := Try.prog) (S := 22) (D := 9) (cap := cb) hb Try.underlying22 Try.underlying5 Try.underlying9
  generalize strOf xs = s at *
  go_enter Try.func19, Try.ntmps19
  go_wp2
  go_ret
  exact ⟨ret_bool (by simp), rfl⟩
end Go.Proofs.Ytocophekfbhfbaa
