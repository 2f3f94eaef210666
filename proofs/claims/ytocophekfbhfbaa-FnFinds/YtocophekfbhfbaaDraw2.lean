/-
  Draws of bytes: contracts of l1Byte, l1Line, and of the draws of chapter 1 for characters.
-/
import Derived.Test.YtocophekfbhfbaaDraw1
import Derived.Test.YtocophekfbhfbaaText0
namespace Go.Proofs.Ytocophekfbhfbaa
open Go.RowKit
set_option linter.unusedVariables false

theorem Src.alloc {w : World} {B b T : Nat} (h : Src w B b T) (o : Obj) : Src (w.alloc o) B b T := h.kept (World.grownBy_alloc w o none) (by simp)

/-- A literal of numbers reads as they are. -/
theorem lit_rd {k : IntKind} {e : TypeId} (w : World) (zs : List Int) (n : Nat) (hn : zs.length = n) (hm : n ≤ maxLen) : Rd k (w.alloc (.cells (zs.map (Value.int k)).toArray e)) (some ⟨w.heap.size, 0, none⟩) n zs := by
  have := own_lit (k := k) (e := e) w (zs.map (Value.int k)).toArray n w.heap.size zs (by simp) hn (Nat.le_refl _) hm
  obtain ⟨a, c, hv, hr, _⟩ := this.rd
  simp only [Value.slice.injEq] at hv
  rw [hv.1, ← hn]
  exact hr

theorem enc_bytes {c : Int} (h0 : 0 ≤ c) (h1 : c ≤ 65535) : Bytes (enc c) := by
  intro x hx
  unfold enc at hx
  split at hx
  · simp at hx; omega
  · split at hx
    · simp at hx; omega
    · simp at hx; omega

/-- What a draw of a few bytes leaves. -/
def ByteEnd (w : World) (B b T : Nat) (e : Ending) (w' : World) : Prop :=
  ∃ v ys, e = .returned v ∧ Own .u8 5 w' w.heap.size v ys.length ys ∧ 1 ≤ ys.length ∧ ys.length ≤ 3 ∧ Bytes ys ∧ Src w' B b (T + 3) ∧ w.grownBy w' (some b)

set_option maxHeartbeats 1600000 in
theorem l1Byte_any (B b T : Nat) (w : World) (hs : Src w B b T) (hT : T ≤ 1000000) :
    Calls Try.prog 237 #[.pointer (some ⟨b, 0, none⟩)] w fun e w' => ByteEnd w B b T e w' := by
  have hlt := hs.lt
  have one : ∀ (w1 : World) (x : Int), 0 ≤ x → x ≤ 255 → Src w1 B b (T + 3) → w.grownBy w1 (some b) → ByteEnd w B b T (.returned (.slice (some ⟨w1.heap.size, 0, none⟩) 1 1)) (w1.alloc (.cells #[.int .u8 x] 5)) := by
    intro w1 x h0 h1 hs1 hg1
    exact ⟨_, [x], rfl, own_lit (k := .u8) (e := 5) w1 #[.int .u8 x] 1 w.heap.size [x] rfl rfl hg1.size (by simp [maxLen]), by simp, by simp, fun y hy => by simp at hy; omega, hs1.alloc _, grown_trans hg1 (World.grownBy_alloc _ _ _)⟩
  have HO : Hid _ := one
  clear one
  go_enter Try.func237, Try.ntmps237
  go_wp2_with fail
  refine (l1Next_any B b T 12 _ hs (by omega) (by omega)).mono ?_
  rintro e w1 ⟨r, rfl, hr, hs1, hg1⟩
  have hr' := hr.2 (by omega)
  clear hr
  have hz1 := hg1.size
  by_cases r0 : r = 0
  · subst r0
    go_wp2
    go_ret
    exact HO.out w1 9 (by omega) (by omega) (hs1.more (by omega)) hg1
  have r0' : (r == 0) = false := by simpa using r0
  by_cases r1 : r = 1
  · subst r1
    go_wp2_with fail
    refine (l1Pick_any B b (T + 1) w1.heap.size 4 [1, 27, 127, 13] _ (hs1.alloc _) (by omega) rfl (by omega) (by omega) (by omega) (lit_rd w1 [1, 27, 127, 13] 4 rfl (by simp [maxLen]))).mono ?_
    rintro e w2 ⟨x, rfl, hx, hs2, hg2⟩
    have hxb : 0 ≤ x ∧ x ≤ 255 := by simp at hx; omega
    obtain ⟨x1, x2⟩ := hxb
    have hg02 := grown_trans hg1 (grownBy_alloc_trans hg2)
    clear hx hg2 hg1
    go_wp2
    go_ret
    exact HO.out w2 x x1 x2 (hs2.more (by omega)) hg02
  have r1' : (r == 1) = false := by simpa using r1
  by_cases r2 : r = 2
  · subst r2
    go_wp2_with fail
    refine (l1Next_any B b (T + 1) 128 _ hs1 (by omega) (by omega)).mono ?_
    rintro e w2 ⟨x, rfl, hx, hs2, hg2⟩
    obtain ⟨x1, x2⟩ := hx.2 (by omega)
    have hg02 := grown_trans hg1 hg2
    clear hx hg2 hg1
    go_wp2
    go_ret
    exact HO.out w2 (128 + x) (by omega) (by omega) (hs2.more (by omega)) hg02
  have r2' : (r == 2) = false := by simpa using r2
  by_cases r3 : r = 3
  · subst r3
    go_wp2_with fail
    refine (l1Pick_any B b (T + 1) w1.heap.size 5 [228, 8364, 2047, 2048, 65535] _ (hs1.alloc _) (by omega) rfl (by omega) (by omega) (by omega) (lit_rd w1 [228, 8364, 2047, 2048, 65535] 5 rfl (by simp [maxLen]))).mono ?_
    rintro e w2 ⟨x, rfl, hx, hs2, hg2⟩
    have hxb : 0 ≤ x ∧ x ≤ 65535 := by simp at hx; omega
    obtain ⟨x1, x2⟩ := hxb
    have hg02 := grown_trans hg1 (grownBy_alloc_trans hg2)
    clear hx hg2 hg1
    go_wp2_with fail
    refine (l1Encode_any x _ x1 x2).mono ?_
    rintro e w3 ⟨v3, rfl, ho3, hb3⟩
    go_wp2
    go_ret
    have el := enc_len x
    exact ⟨_, enc x, rfl, by simpa using ho3.up hg02.size, el.1, el.2, enc_bytes x1 x2, (hs2.kept (grownBy_of_below hb3) (by simp)).more (by omega), grown_trans hg02 (grown_none (grownBy_of_below hb3))⟩
  have r3' : (r == 3) = false := by simpa using r3
  go_wp2_with fail
  refine (l1Next_any B b (T + 1) 4 _ hs1 (by omega) (by omega)).mono ?_
  rintro e w2 ⟨y, rfl, hy, hs2, hg2⟩
  obtain ⟨y1, y2⟩ := hy.2 (by omega)
  have hz2 := hg2.size
  have hg12 := grown_trans hg1 hg2
  clear hy hg2 hg1
  go_wp2_with fail
  refine (l1Pick_any B b (T + 1 + 1) w2.heap.size 5 [97, 98, 99, 32, 97 + y] _ (hs2.alloc _) (by omega) rfl (by omega) (by omega) (by omega) (lit_rd w2 [97, 98, 99, 32, 97 + y] 5 rfl (by simp [maxLen]))).mono ?_
  rintro e w3 ⟨x, rfl, hx, hs3, hg3⟩
  have hxb : 0 ≤ x ∧ x ≤ 255 := by simp at hx; omega
  obtain ⟨x1, x2⟩ := hxb
  have hg03 := grown_trans hg12 (grownBy_alloc_trans hg3)
  clear hx hg3 hg12
  go_wp2
  go_ret
  exact HO.out w3 x x1 x2 (hs3.more (by omega)) hg03
end Go.Proofs.Ytocophekfbhfbaa
