/-
  Chars, Draw1, Draw2, Draw3, Dec1, MathC, MathE, MathD, Shown1, HlpC, Cells1, HlpD, Draw4, Draw5, Draw6 in one text.
-/
import Derived.Deep.RegionWith
import Derived.Test.YtckkkhabjfbngaaRows
import Derived.Test.YtckkkhabjfbngaaBase
import Derived.Test.YtckkkhabjfbngaaMath1
import Derived.Test.YtckkkhabjfbngaaHlp1
import Derived.Test.YtckkkhabjfbngaaMath2
import Derived.Test.YtckkkhabjfbngaaRows2
import Derived.Test.YtckkkhabjfbngaaText0
import Derived.Test.YtckkkhabjfbngaaChg
import Derived.Test.YtckkkhabjfbngaaAppend
namespace Go.Proofs.Ytckkkhabjfbngaa
open Go.RowKit

theorem l1Encode_any (c : Int) (w : World) (h0 : 0 ≤ c) (h1 : c ≤ 65535) :
    Calls Try.prog 110 #[.int .i64 c] w fun e w' => ∃ v, e = .returned v ∧ Own .u8 5 w' w.heap.size v (enc c).length (enc c) ∧ Below w.heap.size w w' := by
  go_enter Try.func110, Try.ntmps110
  go_wp2
  all_goals go_ret
  · refine ⟨_, rfl, own_lit w _ 1 _ _ ?_ ?_ (Nat.le_refl _) (by simp [maxLen]), (Below.refl _ _).alloc (Nat.le_refl _) _⟩
    · rw [enc, if_pos (by assumption)]
      rfl
    · rw [enc, if_pos (by assumption)]; rfl
  · refine ⟨_, rfl, own_lit w _ 2 _ _ ?_ ?_ (Nat.le_refl _) (by simp [maxLen]), (Below.refl _ _).alloc (Nat.le_refl _) _⟩
    · rw [enc, if_neg (by omega), if_pos (by assumption)]
      rfl
    · rw [enc, if_neg (by omega), if_pos (by assumption)]; rfl
  · refine ⟨_, rfl, own_lit w _ 3 _ _ ?_ ?_ (Nat.le_refl _) (by simp [maxLen]), (Below.refl _ _).alloc (Nat.le_refl _) _⟩
    · rw [enc, if_neg (by omega), if_neg (by omega)]
      rfl
    · rw [enc, if_neg (by omega), if_neg (by omega)]; rfl

theorem info8c : (Try.prog.info? 5).map (fun i => (i.zero, i.size, i.bytes)) = some (some (.int .u8 0), 1, 1) := by kernel_rfl

end Go.Proofs.Ytckkkhabjfbngaa

namespace Go.Proofs.Ytckkkhabjfbngaa
open Go.RowKit
set_option linter.unusedVariables false

/-- A source lies in the block b, from B on; what it draws from lies below B; it has drawn at most T times. -/
def Src (w : World) (B b T : Nat) : Prop :=
  B ≤ b ∧ ∃ a n ca xs t, w.cell? ⟨b, 0, none⟩ = some (.slice a n ca) ∧ w.cell? ⟨b, 1, none⟩ = some (.int .i64 t) ∧ w.frozen? ⟨b, 1, none⟩ = false ∧ Rd .u8 w a n xs ∧ Bytes xs ∧ n ≤ 1048576 ∧ 0 ≤ t ∧ t ≤ T ∧
    (n = 0 ∨ ∃ b' off, a = some ⟨b', off, none⟩ ∧ b' < B)

theorem Src.lt {w : World} {B b T : Nat} (h : Src w B b T) : b < w.heap.size := by
  obtain ⟨_, a, n, ca, xs, t, h0, _⟩ := h
  exact World.block_lt_of_cell? _ _ h0

theorem Src.more {w : World} {B b T T' : Nat} (h : Src w B b T) (ht : T ≤ T') : Src w B b T' := by
  obtain ⟨hB, a, n, ca, xs, t, h0, h1, h2, h3, h4, h5, h6, h7, h8⟩ := h
  exact ⟨hB, a, n, ca, xs, t, h0, h1, h2, h3, h4, h5, h6, by omega, h8⟩

theorem Src.kept {w w' : World} {B b T : Nat} {row : Option Nat} (h : Src w B b T) (hg : w.grownBy w' row) (hr : ∀ j, row = some j → B ≤ j ∧ j ≠ b) : Src w' B b T := by
  have hlt := h.lt
  obtain ⟨hB, a, n, ca, xs, t, h0, h1, h2, h3, h4, h5, h6, h7, h8⟩ := h
  have hb : w'.heap[b]? = w.heap[b]? := hg.block b hlt (fun e => (hr b e.symm).2 rfl)
  refine ⟨hB, a, n, ca, xs, t, (World.cell?_of_block (w := w) hb).trans h0, (World.cell?_of_block (w := w) hb).trans h1, (World.frozen?_of_block (w := w) hb).trans h2, ?_, h4, h5, h6, h7, h8⟩
  refine ⟨h3.1, ?_⟩
  rcases h8 with h8 | ⟨b', off, ha, hb'⟩
  · exact .inl h8
  · rcases h3.2 with h0 | ⟨b1, o1, ha1, hc⟩
    · exact .inl h0
    · rw [ha] at ha1
      simp only [Option.some.injEq, Addr.mk.injEq, and_true] at ha1
      obtain ⟨rfl, rfl⟩ := ha1
      refine .inr ⟨b', off, ha, fun j hj => grown_cell hg (hc j hj) (fun k hk => ?_)⟩
      have := (hr k hk).1
      simp
      omega

/-- What the draw leaves. -/
theorem Src.drawn {w : World} {B b T : Nat} (h : Src w B b T) (t' : Int) (h0 : 0 ≤ t') (h1 : t' ≤ (T + 1 : Nat)) (q : Nat) :
    Src ((w.setCell ⟨b, 1, none⟩ (.int .i64 t')).drewN q) B b (T + 1) ∧ w.grownBy ((w.setCell ⟨b, 1, none⟩ (.int .i64 t')).drewN q) (some b) := by
  have hlt := h.lt
  have hg : w.grownBy ((w.setCell ⟨b, 1, none⟩ (.int .i64 t')).drewN q) (some b) := ⟨rfl, rfl, rfl, by simp [World.setCell], fun k hk hr => Below.heap_setCell _ _ _ _ (fun e => hr (by rw [e]))⟩
  obtain ⟨hB, a, n, ca, xs, t, c0, c1, f1, h3, h4, h5, h6, h7, h8⟩ := h
  refine ⟨⟨hB, a, n, ca, xs, t', ?_, ?_, ?_, ?_, h4, h5, h0, h1, h8⟩, hg⟩
  · simp [go_sem, c0]
  · simp [go_sem, c1]
  · simp [go_sem, f1]
  · refine ⟨h3.1, ?_⟩
    rcases h8 with h8 | ⟨b', off, ha, hb'⟩
    · exact .inl h8
    · rcases h3.2 with h0 | ⟨b1, o1, ha1, hc⟩
      · exact .inl h0
      · rw [ha] at ha1
        simp only [Option.some.injEq, Addr.mk.injEq, and_true] at ha1
        obtain ⟨rfl, rfl⟩ := ha1
        refine .inr ⟨b', off, ha, fun j hj => grown_cell hg (hc j hj) (fun k hk => ?_)⟩
        simp at hk
        simp
        omega

/-- A number that was drawn below N. -/
def InR (N r : Int) : Prop := (N < 1 → r = 0) ∧ (1 ≤ N → 0 ≤ r ∧ r < N)
theorem InR.mod (N x : Int) (h : 1 ≤ N) : InR N (x % N) := ⟨fun h' => absurd h' (by omega), fun _ => ⟨Int.emod_nonneg _ (by omega), Int.emod_lt_of_pos _ (by omega)⟩⟩

set_option maxHeartbeats 800000 in
theorem l1Next_any (B b T : Nat) (N : Int) (w : World) (hs : Src w B b T) (hT : T ≤ 1073741824) (hN : N ≤ 1073741824) :
    Calls Try.prog 46 #[.pointer (some ⟨b, 0, none⟩), .int .i64 N] w fun e w' => ∃ r : Int, e = .returned (.int .i64 r) ∧ InR N r ∧ Src w' B b (T + 1) ∧ w.grownBy w' (some b) := by
  have hs' := hs
  obtain ⟨hB, a, n, ca, xs, t, c0, c1, f1, hrd, hby, hn, t0, t1, hab⟩ := hs'
  have hD := fun q => hs.drawn (t + 1) (by omega) (by omega) q
  have HD : Hid _ := hD
  clear hD hs
  by_cases hN1 : N < 1
  · go_enter Try.func46, Try.ntmps46
    go_wp2
    go_ret
    exact ⟨0, rfl, ⟨fun _ => rfl, fun h => absurd h (by omega)⟩, (HD.out 0).1, (HD.out 0).2⟩
  · by_cases hn0 : n = 0
    · subst hn0
      go_enter Try.func46, Try.ntmps46
      go_wp2
      go_ret
      exact ⟨t * 7 % N, rfl, InR.mod _ _ (by omega), (HD.out 0).1, (HD.out 0).2⟩
    · obtain ⟨b', off, hc, hb'⟩ : ∃ b' off, (a = some ⟨b', off, none⟩ ∧ ∀ j, j < n → w.cell? ⟨b', off + j, none⟩ = some (.int .u8 (xs.getD j 0))) ∧ b' < B := by
        rcases hab with h8 | ⟨b', off, ha, hb'⟩
        · exact absurd h8 hn0
        · rcases hrd.2 with h0 | ⟨b1, o1, ha1, hc⟩
          · exact absurd h0 hn0
          · rw [ha] at ha1
            simp only [Option.some.injEq, Addr.mk.injEq, and_true] at ha1
            obtain ⟨rfl, rfl⟩ := ha1
            exact ⟨b', off, ⟨ha, hc⟩, hb'⟩
      obtain ⟨rfl, hc⟩ := hc
      have hn1 : (0 : Int) < (n : Int) := by omega
      have i1 : 0 ≤ t % (n : Int) ∧ t % (n : Int) < (n : Int) := ⟨Int.emod_nonneg _ (by omega), Int.emod_lt_of_pos _ hn1⟩
      have i2 : 0 ≤ (t + 1) % (n : Int) ∧ (t + 1) % (n : Int) < (n : Int) := ⟨Int.emod_nonneg _ (by omega), Int.emod_lt_of_pos _ hn1⟩
      have k1 : w.cell? ⟨b', off + (t % (n : Int)).toNat, none⟩ = some (.int .u8 (xs.getD (t % (n : Int)).toNat 0)) := hc _ (by omega)
      have k2 : w.cell? ⟨b', off + ((t + 1) % (n : Int)).toNat, none⟩ = some (.int .u8 (xs.getD ((t + 1) % (n : Int)).toNat 0)) := hc _ (by omega)
      have y1 := hby.at (t % (n : Int)).toNat
      have y2 := hby.at ((t + 1) % (n : Int)).toNat
      have dv : 0 ≤ t / (n : Int) ∧ t / (n : Int) ≤ 1073741824 := ⟨Int.ediv_nonneg t0 (by omega), Int.le_trans (Int.ediv_le_self _ t0) (by omega)⟩
      clear hc hrd hby hab
      generalize xs.getD (t % (n : Int)).toNat 0 = x1 at *
      generalize xs.getD ((t + 1) % (n : Int)).toNat 0 = x2 at *
      have hbne : ¬ b' = b := by omega
      have hnz : ((n : Int) == 0) = false := by simp; omega
      obtain ⟨i11, i12⟩ := i1
      obtain ⟨i21, i22⟩ := i2
      obtain ⟨y11, y12⟩ := y1
      obtain ⟨y21, y22⟩ := y2
      obtain ⟨d1, d2⟩ := dv
      by_cases hN2 : 200 < N
      · go_enter Try.func46, Try.ntmps46
        go_wp2
        go_quiet (fail)
        go_wp2
        go_quiet (fail)
        go_wp2
        go_ret
        exact ⟨_, rfl, InR.mod _ _ (by omega), (HD.out _).1, (HD.out _).2⟩
      · go_enter Try.func46, Try.ntmps46
        go_wp2
        go_quiet (fail)
        go_wp2
        go_ret
        exact ⟨_, rfl, InR.mod _ _ (by omega), (HD.out _).1, (HD.out _).2⟩

set_option maxHeartbeats 400000 in
theorem l1Source_any (a : Option Addr) (n ca : Nat) (xs : List Int) (B : Nat) (w : World) (ha : Rd .u8 w a n xs) (hB : Bytes xs) (hn : n ≤ 1048576) (hb : n = 0 ∨ ∃ b' off, a = some ⟨b', off, none⟩ ∧ b' < B) (hBw : B ≤ w.heap.size) :
    Calls Try.prog 79 #[.slice a n ca] w fun e w' => e = .returned (.pointer (some ⟨w.heap.size, 0, none⟩)) ∧ Src w' B w.heap.size 0 ∧ Below w.heap.size w w' := by
  go_enter Try.func79, Try.ntmps79
  go_wp2
  go_ret
  have hbw : Below w.heap.size w (w.alloc (.cells #[.slice a n ca, .int .i64 0] 117)) := (Below.refl _ _).alloc (Nat.le_refl _) _
  exact ⟨rfl, ⟨hBw, a, n, ca, xs, 0, by simp, by simp, by simp, ha.below hbw, hB, hn, by omega, by omega, hb⟩, hbw⟩

/-- A row of its own, that a function fills with numbers and hands over. -/
theorem grown_alloc' (w : World) (o : Obj) (row : Option Nat) {w' : World} (h : (w.alloc o).grownBy w' row) : w.grownBy w' row := grownBy_alloc_trans h

set_option maxHeartbeats 400000 in
theorem l1Pick_any (B b T g m : Nat) (zs : List Int) (w : World) (hs : Src w B b T) (hT : T ≤ 1073741824) (hm : zs.length = m) (hm1 : 1 ≤ m) (hm2 : m ≤ 100) (hg : g ≠ b) (hrd : Rd .i64 w (some ⟨g, 0, none⟩) m zs) :
    Calls Try.prog 45 #[.pointer (some ⟨b, 0, none⟩), .slice (some ⟨g, 0, none⟩) m m] w fun e w' => ∃ r : Int, e = .returned (.int .i64 r) ∧ r ∈ zs ∧ Src w' B b (T + 1) ∧ w.grownBy w' (some b) := by
  go_enter Try.func45, Try.ntmps45
  go_wp2_with fail
  refine (l1Next_any B b T m _ hs hT (by omega)).mono ?_
  rintro e w1 ⟨r, rfl, hr, hs1, hg1⟩
  have hr' := hr.2 (by omega)
  clear hr
  obtain ⟨k, rfl⟩ := Int.eq_ofNat_of_zero_le hr'.1
  have hk : k < m := by omega
  have hk' : (k : Int) < (m : Int) := by omega
  obtain ⟨g', o', hgo, hc⟩ := hrd.at hk
  simp only [Option.some.injEq, Addr.mk.injEq, and_true] at hgo
  obtain ⟨rfl, rfl⟩ := hgo
  have hck := grown_cell hg1 (hc k hk) (fun j hj => by simp at hj; simp; omega)
  have hmem : zs.getD k 0 ∈ zs := by
    rw [List.getD_eq_getElem?_getD, List.getElem?_eq_getElem (by omega), Option.getD_some]
    exact List.getElem_mem _
  rw [Nat.zero_add] at hck
  have HM : Hid _ := hmem
  clear hmem hc hrd
  generalize zs.getD k 0 = x at *
  go_wp2
  go_ret
  exact ⟨x, rfl, HM.out, hs1, hg1⟩
end Go.Proofs.Ytckkkhabjfbngaa

namespace Go.Proofs.Ytckkkhabjfbngaa
open Go.RowKit
set_option linter.unusedVariables false

theorem Src.alloc {w : World} {B b T : Nat} (h : Src w B b T) (o : Obj) : Src (w.alloc o) B b T := h.kept (World.grownBy_alloc w o none) (by simp)

/-- A literal of numbers reads as they are. -/
theorem lit_rd {k : IntKind} {e : TypeId} (w : World) (zs : List Int) (n : Nat) (hn : zs.length = n) (hm : n ≤ maxLen) : Rd k (w.alloc (.cells (zs.map (Value.int k)).toArray e)) (some ⟨w.heap.size, 0, none⟩) n zs := by
  have := own_lit (k := k) (e := e) w (zs.map (Value.int k)).toArray n w.heap.size zs (by simp) hn (Nat.le_refl _) hm
  obtain ⟨a, c, hv, hr, _⟩ := this.rd
  simp only [Value.slice.injEq] at hv
  rw [hv.1, ← hn]
  exact hr

theorem enc_bytes {c : Int} (h0 : 0 ≤ c) (h1 : c ≤ 65535) : Bytes (enc c) := by
  intro x hx
  unfold enc at hx
  split at hx
  · simp at hx; omega
  · split at hx
    · simp at hx; omega
    · simp at hx; omega

/-- What a draw of a few bytes leaves. -/
def ByteEnd (w : World) (B b T : Nat) (e : Ending) (w' : World) : Prop :=
  ∃ v ys, e = .returned v ∧ Own .u8 5 w' w.heap.size v ys.length ys ∧ 1 ≤ ys.length ∧ ys.length ≤ 3 ∧ Bytes ys ∧ Src w' B b (T + 3) ∧ w.grownBy w' (some b)

set_option maxHeartbeats 1600000 in
theorem l1Byte_any (B b T : Nat) (w : World) (hs : Src w B b T) (hT : T ≤ 1000000) :
    Calls Try.prog 106 #[.pointer (some ⟨b, 0, none⟩)] w fun e w' => ByteEnd w B b T e w' := by
  have hlt := hs.lt
  have one : ∀ (w1 : World) (x : Int), 0 ≤ x → x ≤ 255 → Src w1 B b (T + 3) → w.grownBy w1 (some b) → ByteEnd w B b T (.returned (.slice (some ⟨w1.heap.size, 0, none⟩) 1 1)) (w1.alloc (.cells #[.int .u8 x] 5)) := by
    intro w1 x h0 h1 hs1 hg1
    exact ⟨_, [x], rfl, own_lit (k := .u8) (e := 5) w1 #[.int .u8 x] 1 w.heap.size [x] rfl rfl hg1.size (by simp [maxLen]), by simp, by simp, fun y hy => by simp at hy; omega, hs1.alloc _, grown_trans hg1 (World.grownBy_alloc _ _ _)⟩
  have HO : Hid _ := one
  clear one
  go_enter Try.func106, Try.ntmps106
  go_wp2_with fail
  refine (l1Next_any B b T 12 _ hs (by omega) (by omega)).mono ?_
  rintro e w1 ⟨r, rfl, hr, hs1, hg1⟩
  have hr' := hr.2 (by omega)
  clear hr
  have hz1 := hg1.size
  by_cases r0 : r = 0
  · subst r0
    go_wp2
    go_ret
    exact HO.out w1 9 (by omega) (by omega) (hs1.more (by omega)) hg1
  have r0' : (r == 0) = false := by simpa using r0
  by_cases r1 : r = 1
  · subst r1
    go_wp2_with fail
    refine (l1Pick_any B b (T + 1) w1.heap.size 4 [1, 27, 127, 13] _ (hs1.alloc _) (by omega) rfl (by omega) (by omega) (by omega) (lit_rd w1 [1, 27, 127, 13] 4 rfl (by simp [maxLen]))).mono ?_
    rintro e w2 ⟨x, rfl, hx, hs2, hg2⟩
    have hxb : 0 ≤ x ∧ x ≤ 255 := by simp at hx; omega
    obtain ⟨x1, x2⟩ := hxb
    have hg02 := grown_trans hg1 (grownBy_alloc_trans hg2)
    clear hx hg2 hg1
    go_wp2
    go_ret
    exact HO.out w2 x x1 x2 (hs2.more (by omega)) hg02
  have r1' : (r == 1) = false := by simpa using r1
  by_cases r2 : r = 2
  · subst r2
    go_wp2_with fail
    refine (l1Next_any B b (T + 1) 128 _ hs1 (by omega) (by omega)).mono ?_
    rintro e w2 ⟨x, rfl, hx, hs2, hg2⟩
    obtain ⟨x1, x2⟩ := hx.2 (by omega)
    have hg02 := grown_trans hg1 hg2
    clear hx hg2 hg1
    go_wp2
    go_ret
    exact HO.out w2 (128 + x) (by omega) (by omega) (hs2.more (by omega)) hg02
  have r2' : (r == 2) = false := by simpa using r2
  by_cases r3 : r = 3
  · subst r3
    go_wp2_with fail
    refine (l1Pick_any B b (T + 1) w1.heap.size 5 [228, 8364, 2047, 2048, 65535] _ (hs1.alloc _) (by omega) rfl (by omega) (by omega) (by omega) (lit_rd w1 [228, 8364, 2047, 2048, 65535] 5 rfl (by simp [maxLen]))).mono ?_
    rintro e w2 ⟨x, rfl, hx, hs2, hg2⟩
    have hxb : 0 ≤ x ∧ x ≤ 65535 := by simp at hx; omega
    obtain ⟨x1, x2⟩ := hxb
    have hg02 := grown_trans hg1 (grownBy_alloc_trans hg2)
    clear hx hg2 hg1
    go_wp2_with fail
    refine (l1Encode_any x _ x1 x2).mono ?_
    rintro e w3 ⟨v3, rfl, ho3, hb3⟩
    go_wp2
    go_ret
    have el := enc_len x
    exact ⟨_, enc x, rfl, by simpa using ho3.up hg02.size, el.1, el.2, enc_bytes x1 x2, (hs2.kept (grownBy_of_below hb3) (by simp)).more (by omega), grown_trans hg02 (grown_none (grownBy_of_below hb3))⟩
  have r3' : (r == 3) = false := by simpa using r3
  go_wp2_with fail
  refine (l1Next_any B b (T + 1) 4 _ hs1 (by omega) (by omega)).mono ?_
  rintro e w2 ⟨y, rfl, hy, hs2, hg2⟩
  obtain ⟨y1, y2⟩ := hy.2 (by omega)
  have hz2 := hg2.size
  have hg12 := grown_trans hg1 hg2
  clear hy hg2 hg1
  go_wp2_with fail
  refine (l1Pick_any B b (T + 1 + 1) w2.heap.size 5 [97, 98, 99, 32, 97 + y] _ (hs2.alloc _) (by omega) rfl (by omega) (by omega) (by omega) (lit_rd w2 [97, 98, 99, 32, 97 + y] 5 rfl (by simp [maxLen]))).mono ?_
  rintro e w3 ⟨x, rfl, hx, hs3, hg3⟩
  have hxb : 0 ≤ x ∧ x ≤ 255 := by simp at hx; omega
  obtain ⟨x1, x2⟩ := hxb
  have hg03 := grown_trans hg12 (grownBy_alloc_trans hg3)
  clear hx hg3 hg12
  go_wp2
  go_ret
  exact HO.out w3 x x1 x2 (hs3.more (by omega)) hg03
end Go.Proofs.Ytckkkhabjfbngaa

namespace Go.Proofs.Ytckkkhabjfbngaa
open Go.RowKit
set_option linter.unusedVariables false

theorem info8d : (Try.prog.info? 5).map (fun i => (i.zero, i.size, i.bytes)) = some (some (.int .u8 0), 1, 1) := by kernel_rfl

/-- Writes into rows that are younger. -/
theorem grown_mix {w1 w2 w3 : World} {r1 row : Option Nat} (h : w1.grownBy w2 r1) (k : w2.grownBy w3 row) (hr : ∀ j, row = some j → w1.heap.size ≤ j) : w1.grownBy w3 r1 :=
  ⟨k.os.trans h.os, k.tape.trans h.tape, k.output.trans h.output, Nat.le_trans h.size k.size, fun i hi h1 => (k.block i (Nat.lt_of_lt_of_le hi h.size) (fun e => by have := hr i e.symm; omega)).trans (h.block i hi h1)⟩

theorem Bytes.append {xs ys : List Int} (h : Bytes xs) (k : Bytes ys) : Bytes (xs ++ ys) := fun x hx => (List.mem_append.1 hx).elim (h x) (k x)

set_option maxHeartbeats 1600000 in
theorem l1Line_any (B b T N : Nat) (w : World) (hs : Src w B b T) (hT : T ≤ 100000) (hN1 : 1 ≤ N) (hN : N ≤ 1000) :
    Calls Try.prog 101 #[.pointer (some ⟨b, 0, none⟩), .int .i64 N] w fun e w' => ∃ v ys, e = .returned v ∧ Own .u8 5 w' w.heap.size v ys.length ys ∧ ys.length ≤ 3 * N ∧ Bytes ys ∧ Src w' B b (T + 1 + 3 * N) ∧ w.grownBy w' (some b) := by
  obtain ⟨i0, hi, hz0, hz1, hz2⟩ := info_parts info8d
  have hlt := hs.lt
  have hBb := hs.1
  go_enter Try.func101, Try.ntmps101
  go_wp2_with fail
  refine (l1Next_any B b T N _ (hs.alloc _) (by omega) (by omega)).mono ?_
  rintro e w1 ⟨r, rfl, hr, hs1, hg1⟩
  obtain ⟨hr0, hr1⟩ := hr.2 (by omega)
  clear hr
  obtain ⟨r, rfl⟩ := Int.eq_ofNat_of_zero_le hr0
  have hz1' := hg1.size
  have hg01 : w.grownBy w1 (some b) := grownBy_alloc_trans hg1
  have ho1 : Own .u8 5 w1 w.heap.size (.slice (some ⟨w.heap.size, 0, none⟩) 0 0) 0 [] := by
    have h0 := own_lit (k := .u8) (e := 5) w #[] 0 w.heap.size [] rfl rfl (Nat.le_refl _) (by simp [maxLen])
    exact Own.kept h0 hg1 (fun j hj hk => by simp [Value.ownBlock] at hj hk; omega)
  clear hg1
  go_wp2_with fail
  go_loopw [5, 6] (fun v k wr => ∃ (kk : Nat) (ys : List Int), kk ≤ r ∧ k = .int .i64 kk ∧ Own .u8 5 wr w.heap.size v ys.length ys ∧ ys.length ≤ 3 * (r - kk) ∧ Bytes ys ∧ Src wr B b (T + 1 + 3 * (r - kk)) ∧ w.grownBy wr (some b)) (fun _ k _ => (intOf k).toNat)
  case atStart => exact ⟨r, [], Nat.le_refl _, rfl, ho1, by simp, fun x hx => by simp at hx, hs1.more (by omega), hg01⟩
  case round =>
    obtain ⟨kk, ys, hkr, rfl, ho, hyl, hyb, hsr, hgr⟩ := hrel
    have hzr := hgr.size
    by_cases hk : 0 < kk
    · have hk' : (0 : Int) < (kk : Int) := by omega
      obtain ⟨av, cap, hv, _, _⟩ := ho.rd
      subst hv
      go_wp2_with fail
      refine (l1Byte_any B b _ _ hsr (by omega)).mono ?_
      rintro e w2 ⟨v2, zs, rfl, ho2, hl1, hl2, hzb, hs2, hg2⟩
      obtain ⟨g, cap2, hv2, hcells⟩ := ho2.addr (by omega)
      subst hv2
      have lo := ho.lt
      have ho3 := ho.kept hg2 (fun j hj hk => by have := (lo j hj).1; simp at hk; omega)
      have hy2 := hg2.size
      have lo3 := ho3.lt
      have hgr2 := grown_trans hgr hg2
      clear hg2 hgr ho ho2
      go_wp2_with (at_builtin; refine wpList_append_own _ rfl _ _ 22 rfl w.heap.size 5 i0 (.int .u8 0) 1 1 Try.underlying22 hi hz0 hz1 hz2 rfl (by decide) _ _ _ rfl ho3 ⟨g, 0, none⟩ zs.length cap2 (zs.map (Value.int .u8)) rfl (by simp) hcells (ints_oneCell .u8 _) (by unfold maxLen; omega) (by omega) (by omega) ?_)
      intro v' w3 ho4 hg4 _
      have ho5 : Own .u8 5 w3 w.heap.size v' (ys ++ zs).length (ys ++ zs) := by
        unfold Own
        rw [List.map_append, List.length_append]
        exact ho4
      have hs3 := hs2.kept hg4 (fun j hj => by have := (lo3 j hj).1; omega)
      have hg03 := grown_mix hgr2 hg4 (fun j hj => (lo3 j hj).1)
      clear ho4 hg4 ho3 hs2 hgr2 hcells
      go_wp2
      go_roundw
      case rel => exact ⟨kk - 1, ys ++ zs, by omega, by go_num, ho5, by rw [List.length_append]; omega, hyb.append hzb, hs3.more (by omega), hg03⟩
      case measure => simp [intOf]; omega
    · go_wp2
      go_ret
      exact ⟨_, ys, rfl, ho, by omega, hyb, hsr.more (by omega), hgr⟩

theorem lwSame_yes (a b : Option Addr) (n ca cb : Nat) (xs : List Int) (w : World) (ha : Rd .u8 w a n xs) (hb : Rd .u8 w b n xs) :
    Calls Try.prog 17 #[.slice a n ca, .slice b n cb] w fun e w' => e = .returned (.bool true) ∧ w' = w := by
  have h1 := conv_str (P := Try.prog) (S := 22) (D := 9) (cap := ca) ha Try.underlying22 Try.underlying5 Try.underlying9
  have h2 := conv_str (P := Try.prog) (S := 22) (D := 9) (cap := cb) hb Try.underlying22 Try.underlying5 Try.underlying9
  generalize strOf xs = s at *
  go_enter Try.func17, Try.ntmps17
  go_wp2
  go_ret
  exact ⟨ret_bool (by simp), rfl⟩
end Go.Proofs.Ytckkkhabjfbngaa

namespace Go.Proofs.Ytckkkhabjfbngaa
open Go.RowKit
set_option linter.unusedVariables false

end Go.Proofs.Ytckkkhabjfbngaa

namespace Go.Proofs.Ytckkkhabjfbngaa

/-- A cell: Char, From, Size. -/
abbrev C3 := Int × Int × Int
def cellE (c : C3) : List Value := [.int .i64 c.1, .int .i64 c.2.1, .int .i64 c.2.2]
theorem cellE_len (c : C3) : (cellE c).length = 3 := rfl

/-- A cell that has no fault. -/
def cellOk (c : C3) : Bool := shown c.1 && decide (0 ≤ c.2.1) && decide (c.2.1 ≤ 400) && decide (1 ≤ c.2.2) && decide (c.2.2 ≤ 3)
theorem cellOk_yes {x y z : Int} (h : cellOk (x, y, z) = true) : isCh x = true ∧ 32 ≤ x ∧ ¬ x = 127 ∧ 0 ≤ y ∧ y ≤ 400 ∧ 1 ≤ z ∧ z ≤ 3 := by
  simp [cellOk, shown] at h
  exact ⟨h.1.1.1.1.1.1, by omega, by omega, by omega, by omega, by omega, by omega⟩
theorem cellOk_no {x y z : Int} (h : ¬ cellOk (x, y, z) = true) : isCh x = false ∨ (isCh x = true ∧ (x < 32 ∨ x = 127 ∨ y < 0 ∨ 400 < y ∨ z < 1 ∨ 3 < z)) := by
  cases hq : isCh x
  · exact .inl rfl
  · refine .inr ⟨rfl, ?_⟩
    simp [cellOk, shown, hq] at h; omega
theorem cellOk_no' {x y z : Int} (h : ¬ cellOk (x, y, z) = true) (hs : shown x = true) : y < 0 ∨ 400 < y ∨ z < 1 ∨ 3 < z := by
  simp [cellOk, hs] at h; omega
def cellsFault (cs : List C3) : Int := if 2000 < cs.length then 2 else if cs.all cellOk then 0 else 3

/-- Cells that count on from k. -/
def mkC (k : Int) (n : Nat) : List C3 := (List.range n).map fun (i : Nat) => (k + 3 * (i : Int), k + 3 * (i : Int) + 1, k + 3 * (i : Int) + 1 + 1)
theorem mkC_len (k : Int) (n : Nat) : (mkC k n).length = n := by simp [mkC]
theorem mkC_at (k : Int) (n j : Nat) (h : j < n) : (mkC k n)[j]? = some (k + 3 * (j : Int), k + 3 * (j : Int) + 1, k + 3 * (j : Int) + 1 + 1) := by
  simp [mkC, h]
theorem mkC_succ (k : Int) (n : Nat) : mkC k (n + 1) = mkC k n ++ [(k + 3 * (n : Int), k + 3 * (n : Int) + 1, k + 3 * (n : Int) + 1 + 1)] := by
  simp [mkC, List.range_succ]

theorem all_take_succ {cs : List C3} {k : Nat} {c : C3} (h : cs[k]? = some c) (h1 : (cs.take k).all cellOk = true) (h2 : cellOk c = true) : (cs.take (k + 1)).all cellOk = true := by
  have hk := (List.getElem?_eq_some_iff.1 h)
  rw [List.take_add_one, List.all_append, h1, h]
  simp [h2]
theorem fault_bad {cs : List C3} {k : Nat} {c : C3} (hn : cs.length ≤ 2000) (h : cs[k]? = some c) (h2 : cellOk c = false) : cellsFault cs = 3 := by
  unfold cellsFault
  rw [if_neg (by omega), if_neg]
  intro hall
  have := List.all_eq_true.1 hall c (List.mem_of_getElem? h)
  rw [h2] at this
  cases this
theorem fault_ok {cs : List C3} {n : Nat} (hl : cs.length ≤ n) (hn : cs.length ≤ 2000) (h : (cs.take n).all cellOk = true) : cellsFault cs = 0 := by
  unfold cellsFault
  rw [List.take_of_length_le hl] at h
  rw [if_neg (by omega), if_pos h]
theorem fault_many {cs : List C3} (hn : 2000 < cs.length) : cellsFault cs = 2 := by
  unfold cellsFault
  rw [if_pos hn]
end Go.Proofs.Ytckkkhabjfbngaa

namespace Go.Proofs.Ytckkkhabjfbngaa

theorem more_in {xs : List Int} {i : Nat} (h : 0 ≤ more xs i) : i < xs.length := by
  unfold more at h
  split at h
  · rename_i h1; exact h1.1
  · omega
theorem dec_in {xs : List Int} {i : Nat} (hi : i < xs.length) : (i : Int) + (dec xs i).2 ≤ xs.length := by
  unfold dec dec3
  split
  · simp; omega
  · split
    · rename_i h1 h2
      have := more_in h2.2.2
      simp; omega
    · split
      · rename_i h1 h2 h3
        have := more_in h3.2.2.2.1
        simp; omega
      · simp; omega
theorem dec_isCh {xs : List Int} {i : Nat} (hB : Bytes xs) (h : ¬ (dec xs i).2 = 0) : isCh (dec xs i).1 = true := by
  have hb := hB.at i
  have m1 := more_bd (xs := xs) (i + 1)
  unfold dec at h ⊢
  generalize xs.getD i 0 = z at *
  split at h
  · rename_i h1; rw [if_pos h1]; simp [isCh]; omega
  · rename_i h1
    rw [if_neg h1]
    split at h
    · rename_i h2; rw [if_pos h2]; simp [isCh]; omega
    · rename_i h2
      rw [if_neg h2]
      unfold dec3 at h ⊢
      split at h
      · rename_i h3; rw [if_pos h3]; exact h3.2.2.2.2.2
      · simp at h

theorem getD_append_left (xs ys : List Int) (i : Nat) (h : i < xs.length) : (xs ++ ys).getD i 0 = xs.getD i 0 := by
  simp [List.getD_eq_getElem?_getD, List.getElem?_append_left h]

theorem more_val {xs : List Int} {i : Nat} (h : i < xs.length) (h1 : 128 ≤ xs.getD i 0) (h2 : xs.getD i 0 ≤ 191) : more xs i = xs.getD i 0 - 128 := by
  unfold more; rw [if_pos ⟨h, h1, h2⟩]

/-- What was written is read. -/
theorem dec_enc (c : Int) (h : isCh c = true) (ys : List Int) : dec (enc c ++ ys) 0 = (c, ((enc c).length : Int)) := by
  have hc := isCh_yes h
  by_cases h1 : c < 128
  · have e : enc c = [c] := by unfold enc; rw [if_pos h1]
    rw [e]
    unfold dec
    simp [h1]
  · by_cases h2 : c < 2048
    · have e : enc c = [192 + c / 64, 128 + c % 64] := by unfold enc; rw [if_neg h1, if_pos h2]
      rw [e]
      have m1 : more ([192 + c / 64, 128 + c % 64] ++ ys) 1 = c % 64 := by
        rw [more_val (by simp) (by simp; omega) (by simp; omega)]
        simp; omega
      unfold dec
      rw [show (0 + 1 : Nat) = 1 from rfl, m1]
      simp only [List.cons_append, List.nil_append, List.getD_cons_zero]
      rw [if_neg (by omega), if_pos (by omega)]
      simp; omega
    · have e : enc c = [224 + c / 4096, 128 + c / 64 % 64, 128 + c % 64] := by unfold enc; rw [if_neg h1, if_neg h2]
      rw [e]
      have m1 : more ([224 + c / 4096, 128 + c / 64 % 64, 128 + c % 64] ++ ys) 1 = c / 64 % 64 := by
        rw [more_val (by simp) (by simp; omega) (by simp; omega)]
        simp; omega
      have m2 : more ([224 + c / 4096, 128 + c / 64 % 64, 128 + c % 64] ++ ys) 2 = c % 64 := by
        rw [more_val (by simp) (by simp; omega) (by simp; omega)]
        simp; omega
      unfold dec
      rw [show (0 + 1 : Nat) = 1 from rfl, show (0 + 2 : Nat) = 2 from rfl, m1, m2]
      simp only [List.cons_append, List.nil_append, List.getD_cons_zero]
      rw [if_neg (by omega), if_neg (by omega)]
      have ev : (224 + c / 4096 - 224) * 4096 + c / 64 % 64 * 64 + c % 64 = c := by omega
      unfold dec3
      rw [ev, if_pos ⟨by omega, by omega, by omega, by omega, by omega, h⟩]
      simp

/-- What was read is written. -/
theorem enc_dec {xs : List Int} (hB : Bytes xs) {i : Nat} (hi : i < xs.length) (h : ¬ (dec xs i).2 = 0) : enc (dec xs i).1 = (xs.drop i).take (dec xs i).2.toNat := by
  have hb := hB.at i
  have g : ∀ j, i + j < xs.length → (xs.drop i)[j]? = some (xs.getD (i + j) 0) := fun j hj => by simp [List.getD_eq_getElem?_getD, hj]
  have g0 := g 0 (by omega)
  rw [Nat.add_zero] at g0
  have mm : ∀ j, 0 ≤ more xs j → j < xs.length ∧ xs.getD j 0 = 128 + more xs j ∧ more xs j ≤ 63 := by
    intro j hj
    unfold more at hj ⊢
    split at hj
    · rename_i h1; rw [if_pos h1]; omega
    · omega
  have hd : dec xs i = if xs.getD i 0 < 128 then (xs.getD i 0, 1) else if 194 ≤ xs.getD i 0 ∧ xs.getD i 0 < 224 ∧ 0 ≤ more xs (i + 1) then ((xs.getD i 0 - 192) * 64 + more xs (i + 1), 2) else dec3 (xs.getD i 0) (more xs (i + 1)) (more xs (i + 2)) := rfl
  by_cases h1 : xs.getD i 0 < 128
  · rw [if_pos h1] at hd
    rw [hd]
    have e : enc (xs.getD i 0) = [xs.getD i 0] := by unfold enc; rw [if_pos h1]
    rw [e]
    apply List.ext_getElem?
    intro j
    by_cases hj : j = 0
    · subst hj; simp only [List.getElem?_take]; rw [if_pos (by simp), g0]; simp
    · rw [List.getElem?_eq_none (by simp; omega), List.getElem?_eq_none (by simp; omega)]
  · rw [if_neg h1] at hd
    by_cases h2 : 194 ≤ xs.getD i 0 ∧ xs.getD i 0 < 224 ∧ 0 ≤ more xs (i + 1)
    · rw [if_pos h2] at hd
      obtain ⟨n1, v1, b1⟩ := mm _ h2.2.2
      have g1 := g 1 n1
      rw [v1] at g1
      rw [hd]
      generalize xs.getD i 0 = z at *
      generalize more xs (i + 1) = x at *
      have e : enc ((z - 192) * 64 + x) = [z, 128 + x] := by
        unfold enc; rw [if_neg (by omega), if_pos (by omega)]
        simp; omega
      rw [e]
      apply List.ext_getElem?
      intro j
      have hj : j = 0 ∨ j = 1 ∨ 2 ≤ j := by omega
      rcases hj with rfl | rfl | hj
      · simp only [List.getElem?_take]; rw [if_pos (by simp), g0]; simp
      · simp only [List.getElem?_take]; rw [if_pos (by simp), g1]; simp
      · rw [List.getElem?_eq_none (by simp; omega), List.getElem?_eq_none (by simp; omega)]
    · rw [if_neg h2] at hd
      by_cases h3 : 224 ≤ xs.getD i 0 ∧ xs.getD i 0 < 240 ∧ 0 ≤ more xs (i + 1) ∧ 0 ≤ more xs (i + 2) ∧ 2048 ≤ (xs.getD i 0 - 224) * 4096 + more xs (i + 1) * 64 + more xs (i + 2) ∧ isCh ((xs.getD i 0 - 224) * 4096 + more xs (i + 1) * 64 + more xs (i + 2)) = true
      · unfold dec3 at hd
        rw [if_pos h3] at hd
        obtain ⟨n1, v1, b1⟩ := mm _ h3.2.2.1
        obtain ⟨n2, v2, b2⟩ := mm _ h3.2.2.2.1
        have g1 := g 1 n1
        have g2 := g 2 n2
        rw [v1] at g1
        rw [v2] at g2
        rw [hd]
        generalize xs.getD i 0 = z at *
        generalize more xs (i + 1) = x at *
        generalize more xs (i + 2) = y at *
        have e : enc ((z - 224) * 4096 + x * 64 + y) = [z, 128 + x, 128 + y] := by
          unfold enc; rw [if_neg (by omega), if_neg (by omega)]
          simp; omega
        rw [e]
        apply List.ext_getElem?
        intro j
        have hj : j = 0 ∨ j = 1 ∨ j = 2 ∨ 3 ≤ j := by omega
        rcases hj with rfl | rfl | rfl | hj
        · simp only [List.getElem?_take]; rw [if_pos (by simp), g0]; simp
        · simp only [List.getElem?_take]; rw [if_pos (by simp), g1]; simp
        · simp only [List.getElem?_take]; rw [if_pos (by simp), g2]; simp
        · rw [List.getElem?_eq_none (by simp; omega), List.getElem?_eq_none (by simp; omega)]
      · exfalso
        unfold dec3 at hd
        rw [if_neg h3] at hd
        rw [hd] at h
        simp at h
end Go.Proofs.Ytckkkhabjfbngaa

namespace Go.Proofs.Ytckkkhabjfbngaa

def hexd (v : Int) : Int := if v < 10 then 48 + v else 55 + v
/-- The characters that are seen of what begins at a place, in a column. -/
def shownL (xs : List Int) (i col : Nat) : List Int :=
  if xs.getD i 0 = 9 then List.replicate (4 - col % 4) 32
  else if xs.getD i 0 < 32 ∨ xs.getD i 0 = 127 then [94, if xs.getD i 0 = 127 then 63 else xs.getD i 0 + 64]
  else if (dec xs i).2 = 0 then [60, hexd (xs.getD i 0 / 16), hexd (xs.getD i 0 % 16), 62]
  else [(dec xs i).1]
/-- How many bytes that is. -/
def shownN (xs : List Int) (i : Nat) : Nat :=
  if xs.getD i 0 = 9 then 1
  else if xs.getD i 0 < 32 ∨ xs.getD i 0 = 127 then 1
  else if (dec xs i).2 = 0 then 1
  else (dec xs i).2.toNat

theorem shownL_len (xs : List Int) (i col : Nat) : 1 ≤ (shownL xs i col).length ∧ (shownL xs i col).length ≤ 4 := by
  unfold shownL
  split
  · simp; omega
  · split
    · simp
    · split <;> simp
theorem shownN_bd {xs : List Int} (h : Bytes xs) {i : Nat} (hi : i < xs.length) : 1 ≤ shownN xs i ∧ shownN xs i ≤ 3 ∧ i + shownN xs i ≤ xs.length := by
  have hb := dec_bd h i
  have hd := dec_in hi
  unfold shownN
  split
  · omega
  · split
    · omega
    · split
      · omega
      · omega
theorem shownL_bd {xs : List Int} (h : Bytes xs) (i col : Nat) : ∀ c ∈ shownL xs i col, 0 ≤ c ∧ c ≤ 65535 := by
  have hb := dec_bd h i
  have hx := h.at i
  intro c hc
  unfold shownL at hc
  generalize xs.getD i 0 = z at *
  generalize dec xs i = d at *
  split at hc
  · have := List.eq_of_mem_replicate hc; omega
  · split at hc
    · simp at hc; rcases hc with rfl | rfl
      · omega
      · split <;> omega
    · split at hc
      · simp [hexd] at hc
        rcases hc with rfl | rfl | rfl | rfl
        · omega
        · split <;> omega
        · split <;> omega
        · omega
      · simp at hc; omega

/-- The cells from a place on, behind those that are there. -/
def cellsF (xs : List Int) : Nat → Nat → List C3 → List C3
  | 0, _, out => out
  | f + 1, i, out => if i < xs.length then cellsF xs f (i + shownN xs i) (out ++ (shownL xs i out.length).map fun c => (c, (i : Int), (shownN xs i : Int))) else out
def cellsAll (xs : List Int) : List C3 := cellsF xs xs.length 0 []
theorem cellsF_end {xs : List Int} (f i : Nat) (out : List C3) (h : xs.length ≤ i) : cellsF xs f i out = out := by
  cases f with
  | zero => rfl
  | succ f => unfold cellsF; rw [if_neg (by omega)]
theorem cellsF_step {xs : List Int} {f i : Nat} {out : List C3} (h : i < xs.length) : cellsF xs (f + 1) i out = cellsF xs f (i + shownN xs i) (out ++ (shownL xs i out.length).map fun c => (c, (i : Int), (shownN xs i : Int))) := by
  conv => lhs; unfold cellsF
  rw [if_pos h]

theorem cellsF_len {xs : List Int} (h : Bytes xs) : ∀ (f i : Nat) (out : List C3), i ≤ xs.length → out.length ≤ 4 * i → (cellsF xs f i out).length ≤ 4 * xs.length
  | 0, i, out, hi, ho => by unfold cellsF; omega
  | f + 1, i, out, hi, ho => by
    unfold cellsF
    split
    · rename_i hlt
      have sn := shownN_bd h hlt
      have sl := shownL_len xs i out.length
      refine cellsF_len h f _ _ sn.2.2 ?_
      simp only [List.length_append, List.length_map]
      omega
    · omega
theorem cellsAll_len {xs : List Int} (h : Bytes xs) : (cellsAll xs).length ≤ 4 * xs.length := cellsF_len h _ _ _ (by omega) (by simp)

theorem xor64_nat : ∀ n : Fin 256, n.val < 32 ∨ n.val = 127 → (n.val ^^^ 64) = if n.val = 127 then 63 else n.val + 64 := by decide +kernel
theorem xor64_u8 (x : Int) (h0 : 0 ≤ x) (h1 : x ≤ 255) (h : x < 32 ∨ x = 127) : bits .xor .u8 x 64 = if x = 127 then 63 else x + 64 := by
  rw [u8_xor x 64 h0 (by omega) (by omega) (by omega), show (64 : Int).toNat = 64 from rfl]
  have := xor64_nat ⟨x.toNat, by omega⟩ (by simp only; omega)
  simp only at this
  rw [this]
  by_cases e : x = 127
  · subst e; rfl
  · rw [if_neg e, if_neg (by omega)]; omega
theorem xor64_u16 (x : Int) (h0 : 0 ≤ x) (h1 : x ≤ 255) (h : x < 32 ∨ x = 127) : bits .xor .u16 x 64 = if x = 127 then 63 else x + 64 := by
  rw [u16_xor x 64 h0 (by omega) (by omega) (by omega), show (64 : Int).toNat = 64 from rfl]
  have := xor64_nat ⟨x.toNat, by omega⟩ (by simp only; omega)
  simp only at this
  rw [this]
  by_cases e : x = 127
  · subst e; rfl
  · rw [if_neg e, if_neg (by omega)]; omega
end Go.Proofs.Ytckkkhabjfbngaa

namespace Go.Proofs.Ytckkkhabjfbngaa
open Go.RowKit
set_option linter.unusedVariables false

theorem info64 : (Try.prog.info? 2).map (fun i => (i.zero, i.size, i.bytes)) = some (some (.int .i64 0), 1, 8) := by kernel_rfl

theorem wrap64_u8 (u : UInt8) : wrap64 (u.toNat : Int) = u.toNat := by
  have := u.toNat_lt
  unfold wrap64
  omega

end Go.Proofs.Ytckkkhabjfbngaa

namespace Go.Proofs.Ytckkkhabjfbngaa
open Go.RowKit
set_option linter.unusedVariables false

theorem cellE_at (c : C3) : (cellE c)[0]? = some (.int .i64 c.1) ∧ (cellE c)[1]? = some (.int .i64 c.2.1) ∧ (cellE c)[2]? = some (.int .i64 c.2.2) := ⟨rfl, rfl, rfl⟩

/-- The three cells of an element. -/
theorem three {w : World} {b off : Nat} {c : C3} (h : ∀ f v, (cellE c)[f]? = some v → w.cell? ⟨b, off + f, none⟩ = some v) :
    w.cell? ⟨b, off, none⟩ = some (.int .i64 c.1) ∧ w.cell? ⟨b, off + 1, none⟩ = some (.int .i64 c.2.1) ∧ w.cell? ⟨b, off + 2, none⟩ = some (.int .i64 c.2.2) :=
  ⟨h 0 _ rfl, h 1 _ rfl, h 2 _ rfl⟩

end Go.Proofs.Ytckkkhabjfbngaa

namespace Go.Proofs.Ytckkkhabjfbngaa
open Go.RowKit
set_option linter.unusedVariables false

theorem cellE_one (c : C3) : ∀ u ∈ cellE c, u.oneCell' = true := by
  intro u hu
  simp [cellE] at hu
  rcases hu with rfl | rfl | rfl <;> rfl

/-- A cell more behind those that are owned. -/
theorem ownR_snoc {e : TypeId} {w : World} {base : Nat} {v : Value} {m : Nat} {cs : List C3} {c : C3} (hl : cs.length = m) (h : w.ownsRow base e 3 v (m + 1) (cs.flatMap cellE ++ cellE c)) : OwnR cellE 3 e w base v (m + 1) (cs ++ [c]) :=
  ⟨by simp [hl], by rw [List.flatMap_append]; simpa using h⟩

end Go.Proofs.Ytckkkhabjfbngaa

namespace Go.Proofs.Ytckkkhabjfbngaa
open Go.RowKit
set_option linter.unusedVariables false

theorem madeC (n : Nat) : (madeCells #[Value.int .i64 0, .int .i64 0, .int .i64 0] (n * 3)).toList = (List.replicate n ((0, 0, 0) : C3)).flatMap cellE := by
  apply List.ext_getElem?
  intro j
  by_cases hj : j < n * 3
  · have e1 : j / 3 < n := by omega
    have h := getElem?_flatMap cellE 3 cellE_len (List.replicate n ((0, 0, 0) : C3)) (j / 3) (j % 3) (0, 0, 0) (by simp [e1]) (by omega)
    rw [show j / 3 * 3 + j % 3 = j by omega] at h
    rw [h]
    have : j % 3 = 0 ∨ j % 3 = 1 ∨ j % 3 = 2 := by omega
    rcases this with h | h | h <;> simp [madeCells, hj, h, cellE]
  · have h2 := length_flatMap' cellE 3 cellE_len (List.replicate n ((0, 0, 0) : C3))
    rw [List.getElem?_eq_none (by simp [madeCells]; omega), List.getElem?_eq_none (by rw [h2]; simp; omega)]

/-- The element k of a list that is copied. -/
theorem copyC_set (cs : List C3) (n k : Nat) (c : C3) (h : cs.length = n) (hk : cs[k]? = some c) :
    (cs.take k ++ List.replicate (n - k) ((0, 0, 0) : C3)).set k c = cs.take (k + 1) ++ List.replicate (n - (k + 1)) (0, 0, 0) := by
  have hk' := (List.getElem?_eq_some_iff.1 hk).1
  obtain ⟨d, hd⟩ : ∃ d, n - k = d + 1 := ⟨n - k - 1, by omega⟩
  rw [hd, List.replicate_succ, set_mid _ _ (by simp; omega), List.take_add_one, hk, show n - (k + 1) = d by omega]
  simp

theorem grown_trans' {w1 w2 w3 : World} {row : Option Nat} (h : w1.grownBy w2 row) (k : w2.grownBy w3 row) : w1.grownBy w3 row :=
  ⟨k.os.trans h.os, k.tape.trans h.tape, k.output.trans h.output, Nat.le_trans h.size k.size, fun i hi hr => (k.block i (Nat.lt_of_lt_of_le hi h.size) hr).trans (h.block i hi hr)⟩

/-- A whole cell is stored. -/
theorem store3 {e : TypeId} {w : World} {base g n cap j : Nat} {xs : List C3} {c : C3} (h : OwnR cellE 3 e w base (.slice (some ⟨g, 0, none⟩) n cap) n xs) (hx : xs[j]? = some c) (x y z : Int) :
    OwnR cellE 3 e (((w.setCell ⟨g, j * 3, none⟩ (.int .i64 x)).setCell ⟨g, j * 3 + 1, none⟩ (.int .i64 y)).setCell ⟨g, j * 3 + 2, none⟩ (.int .i64 z)) base (.slice (some ⟨g, 0, none⟩) n cap) n (xs.set j (x, y, z)) ∧
    w.grownBy (((w.setCell ⟨g, j * 3, none⟩ (.int .i64 x)).setCell ⟨g, j * 3 + 1, none⟩ (.int .i64 y)).setCell ⟨g, j * 3 + 2, none⟩ (.int .i64 z)) (some g) := by
  have hj : j < xs.length := (List.getElem?_eq_some_iff.1 hx).1
  have s0 := OwnR.store (f := 0) (u := .int .i64 x) (y := (x, c.2.1, c.2.2)) cellE_len h hx (by omega) rfl
  have x1 : (xs.set j (x, c.2.1, c.2.2))[j]? = some (x, c.2.1, c.2.2) := by simp [hj]
  have s1 := OwnR.store (f := 1) (u := .int .i64 y) (y := (x, y, c.2.2)) cellE_len s0.1 x1 (by omega) rfl
  have x2 : ((xs.set j (x, c.2.1, c.2.2)).set j (x, y, c.2.2))[j]? = some (x, y, c.2.2) := by simp [hj]
  have s2 := OwnR.store (f := 2) (u := .int .i64 z) (y := (x, y, z)) cellE_len s1.1 x2 (by omega) rfl
  rw [List.set_set, List.set_set] at s2
  exact ⟨s2.1, grown_trans' (grown_trans' s0.2 s1.2) s2.2⟩

theorem markC_set (cs : List C3) (x0 : Int) (n k : Nat) (h : cs.length = n) (hk : k < n) (c : C3) :
    ((mkC x0 k ++ cs.drop k).set k (x0 + 3 * (k : Int), x0 + 3 * (k : Int) + 1, x0 + 3 * (k : Int) + 1 + 1)) = mkC x0 (k + 1) ++ cs.drop (k + 1) := by
  rw [List.drop_eq_getElem_cons (show k < cs.length by omega), set_mid _ _ (mkC_len _ _), mkC_succ]

end Go.Proofs.Ytckkkhabjfbngaa

namespace Go.Proofs.Ytckkkhabjfbngaa
open Go.RowKit
set_option linter.unusedVariables false

theorem l1Chance_any (B b T : Nat) (N : Int) (w : World) (hs : Src w B b T) (hT : T ≤ 1073741824) (hN : N ≤ 1073741824) :
    Calls Try.prog 82 #[.pointer (some ⟨b, 0, none⟩), .int .i64 N] w fun e w' => ∃ q : Bool, e = .returned (.bool q) ∧ Src w' B b (T + 1) ∧ w.grownBy w' (some b) := by
  go_enter Try.func82, Try.ntmps82
  go_wp2_with fail
  refine (l1Next_any B b T N _ hs hT hN).mono ?_
  rintro e w1 ⟨r, rfl, hr, hs1, hg1⟩
  clear hr
  go_wp2
  go_ret
  exact ⟨_, rfl, hs1, hg1⟩

theorem src_below {w : World} {a : Option Addr} {n : Nat} {xs : List Int} (ha : Rd .u8 w a n xs) : n = 0 ∨ ∃ b' off, a = some ⟨b', off, none⟩ ∧ b' < w.heap.size := by
  rcases ha.2 with h0 | ⟨b', off, rfl, hc⟩
  · exact .inl h0
  · by_cases h0 : n = 0
    · exact .inl h0
    · exact .inr ⟨b', off, rfl, World.block_lt_of_cell? _ _ (hc 0 (by omega))⟩

end Go.Proofs.Ytckkkhabjfbngaa

namespace Go.Proofs.Ytckkkhabjfbngaa
open Go.RowKit
set_option linter.unusedVariables false

set_option maxRecDepth 4000 in
set_option maxHeartbeats 3200000 in
theorem l2Draw_any (B b T : Nat) (w : World) (hs : Src w B b T) (hT : T ≤ 5000) :
    Calls Try.prog 83 #[.pointer (some ⟨b, 0, none⟩)] w fun e w' => ∃ v ys, e = .returned (.agg #[v]) ∧ RowI .u8 5 w' w.heap.size w'.heap.size v ys.length ys ∧ ys.length ≤ 300 ∧ Bytes ys ∧ Src w' B b (T + 1000) ∧ w.grownBy w' (some b) := by
  obtain ⟨i0, hi, hz0, hz1, hz2⟩ := info_parts info8d
  have hlt := hs.lt
  have hBb := hs.1
  go_enter Try.func83, Try.ntmps83
  go_wp2_with fail
  refine (l1Next_any B b T 7 _ ((hs.alloc _).alloc _) (by omega) (by omega)).mono ?_
  rintro e w1 ⟨r, rfl, hr, hs1, hg1⟩
  obtain ⟨hr0, hr1⟩ := hr.2 (by omega)
  clear hr
  obtain ⟨r, rfl⟩ := Int.eq_ofNat_of_zero_le hr0
  have hC1 := Chg.one hg1
  have z1 : w.heap.size + 2 ≤ w1.heap.size := by have := hg1.size; simp at this; omega
  have hg01 : w.grownBy w1 (some b) := grownBy_alloc_trans (grownBy_alloc_trans hg1)
  have c0 : w1.cell? ⟨w.heap.size, 0, none⟩ = some (.slice none 0 0) := hC1.at (by simp [go_sem]) (by simp; omega) (by omega)
  have f0 : w1.frozen? ⟨w.heap.size, 0, none⟩ = false := hC1.fr (by simp [go_sem]) (by simp; omega) (by omega)
  have ho1 : RowI .u8 5 w1 (w.heap.size + 1) w1.heap.size (.slice (some ⟨w.heap.size + 1, 0, none⟩) 0 0) 0 [] := by
    have h0 := own_lit (k := .u8) (e := 5) (w.alloc (.cells #[.slice none 0 0] 28)) #[] 0 (w.heap.size + 1) [] rfl rfl (by simp) (by simp [maxLen])
    rw [World.size_alloc] at h0
    exact ((RowI.of h0).chg hC1 (by simp; omega)).mono (Nat.le_refl _) hg1.size
  clear hg1 hC1
  go_wp2_with fail
  go_loopw [3, 4] (fun v k wr => ∃ (kk : Nat) (ys : List Int), kk ≤ r ∧ k = .int .i64 kk ∧ RowI .u8 5 wr (w.heap.size + 1) wr.heap.size v ys.length ys ∧ ys.length ≤ 31 * (r - kk) ∧ Bytes ys ∧ Src wr B b (T + 1 + 31 * (r - kk)) ∧ w.grownBy wr (some b) ∧ w.heap.size + 2 ≤ wr.heap.size ∧ wr.cell? ⟨w.heap.size, 0, none⟩ = some (.slice none 0 0) ∧ wr.frozen? ⟨w.heap.size, 0, none⟩ = false) (fun _ k _ => (intOf k).toNat)
  case atStart => exact ⟨r, [], Nat.le_refl _, rfl, ho1, by simp, fun x hx => by simp at hx, hs1.more (by omega), hg01, z1, c0, f0⟩
  case round =>
    obtain ⟨kk, ys, hkr, rfl, ho, hyl, hyb, hsr, hgr, hzr, c0, f0⟩ := hrel
    obtain ⟨av, cap, rfl, _⟩ := ho.shape
    by_cases hk : 0 < kk
    · have hk' : (0 : Int) < (kk : Int) := by omega
      go_wp2_with fail
      refine (l1Line_any B b _ 10 _ hsr (by omega) (by omega) (by omega)).mono ?_
      rintro e w2 ⟨v2, zs, rfl, ho2, hl2, hzb, hs2, hg2⟩
      have hC2 := Chg.one hg2
      have hy2 := hg2.size
      have oA := ho.chg hC2 (by omega)
      have c2 := hC2.at c0 (by omega) (by omega)
      have f2 := hC2.fr f0 (by omega) (by omega)
      obtain ⟨a2, k2, hv2, hr2, _⟩ := ho2.rd
      subst hv2
      have hgr2 := grown_trans hgr hg2
      clear hC2 hg2 hgr ho ho2 c0 f0 hs1 hg01 ho1
      go_wp2_with (at_builtin; refine wpList_append_rd rfl _ _ 22 rfl .u8 (w.heap.size + 1) 5 i0 1 Try.underlying22 hi hz0 hz1 hz2 _ _ ys rfl oA.1 a2 zs.length k2 zs rfl hr2 (by unfold maxLen; omega) (by omega) (by omega) ?_)
      intro v3 w3 o3 hg3
      have lo3 := oA.1.lt
      have hs3 := hs2.kept hg3 (fun j hj => by have := (lo3 j hj).1; omega)
      have hC3 := Chg.of_grown (lo := w.heap.size + 1) (hi := wr.heap.size) hg3 (fun j hj => ⟨(lo3 j hj).1, oA.2 j hj⟩)
      have c3 := hC3.at c2 (by omega) (by omega)
      have f3 := hC3.fr f2 (by omega) (by omega)
      have hy3 := hg3.size
      have hgr3 := grown_mix hgr2 hg3 (fun j hj => by have := (lo3 j hj).1; omega)
      obtain ⟨a3, k3, hv3, _⟩ := o3.rd
      subst hv3
      clear hC3 hg3 oA lo3 c2 f2 hr2 hs2 hgr2
      go_wp2_with (at_builtin; refine wpList_append_rd rfl _ _ 22 rfl .u8 (w.heap.size + 1) 5 i0 1 Try.underlying22 hi hz0 hz1 hz2 _ _ (ys ++ zs) rfl (World.ownsRow.alloc o3 _) (some ⟨w3.heap.size, 0, none⟩) 1 1 [10] rfl (lit_rd w3 [10] 1 rfl (by simp [maxLen])) (by unfold maxLen; omega) (by omega) (by simp; omega) ?_)
      intro v4 w4 o4 hg4
      have lo4 := o3.lt
      have hg4' := grownBy_alloc_trans hg4
      have hs4 := hs3.kept hg4' (fun j hj => by have := (lo4 j hj).1; omega)
      have hC4 := Chg.of_grown (lo := w.heap.size + 1) (hi := w3.heap.size) hg4' (fun j hj => lo4 j hj)
      have c4 := hC4.at c3 (by omega) (by omega)
      have f4 := hC4.fr f3 (by omega) (by omega)
      have hgr4 := grown_mix hgr3 hg4' (fun j hj => by have := (lo4 j hj).1; omega)
      have hy4 := hg4'.size
      have o5 : RowI .u8 5 w4 (w.heap.size + 1) w4.heap.size v4 (ys ++ zs ++ [10]).length (ys ++ zs ++ [10]) := RowI.of (by
        have e : (ys ++ zs ++ [10]).length = ys.length + zs.length + 1 := by simp; omega
        rw [e, List.append_assoc]
        exact o4)
      clear hC4 hg4 hg4' lo4 o3 o4 c3 f3 hs3 hgr3
      go_wp2
      go_roundw
      case rel => exact ⟨kk - 1, ys ++ zs ++ [10], by omega, by go_num, o5, by simp; omega, (hyb.append hzb).append (fun x hx => by simp at hx; omega), hs4.more (by omega), hgr4, by omega, c4, f4⟩
      case measure => simp [intOf]; omega
    · go_wp2_with fail
      refine (l1Chance_any B b _ 2 _ hsr (by omega) (by omega)).mono ?_
      rintro e w2 ⟨q, rfl, hs2, hg2⟩
      have hC2 := Chg.one hg2
      have hy2 := hg2.size
      have oA := ho.chg hC2 (by omega)
      have c2 := hC2.at c0 (by omega) (by omega)
      have f2 := hC2.fr f0 (by omega) (by omega)
      have hgr2 := grown_trans hgr hg2
      clear hC2 hg2 hgr ho c0 f0 hs1 hg01 ho1
      cases q
      · go_wp2
        refine bodyPost_ret (v := .agg #[.slice av ys.length cap]) (by simp [results, Try.results83, go_sem, c2]) rfl ⟨_, ys, rfl, RowI.mono (RowI.of (oA.1.setBelow (by simp) _)) (by omega) (Nat.le_refl _), by omega, hyb, (hs2.kept (set_grown _ w.heap.size 0 _) (fun j hj => by simp at hj; omega)).more (by omega), grown_mix hgr2 (set_grown _ w.heap.size 0 _) (fun j hj => by simp at hj; omega)⟩
      · go_wp2_with fail
        refine (l1Line_any B b _ 6 _ hs2 (by omega) (by omega) (by omega)).mono ?_
        rintro e w3 ⟨v3, zs, rfl, ho3, hl3, hzb, hs3, hg3⟩
        have hC3 := Chg.one hg3
        have hy3 := hg3.size
        have oB := oA.chg hC3 (by omega)
        have c3 := hC3.at c2 (by omega) (by omega)
        have f3 := hC3.fr f2 (by omega) (by omega)
        have hgr3 := grown_trans hgr2 hg3
        obtain ⟨a3, k3, hv3, hr3, _⟩ := ho3.rd
        subst hv3
        clear hC3 hg3 hgr2 oA ho3 c2 f2 hs2
        go_wp2_with (at_builtin; refine wpList_append_rd rfl _ _ 22 rfl .u8 (w.heap.size + 1) 5 i0 1 Try.underlying22 hi hz0 hz1 hz2 _ _ ys rfl oB.1 a3 zs.length k3 zs rfl hr3 (by unfold maxLen; omega) (by omega) (by omega) ?_)
        intro v4 w4 o4 hg4
        have lo4 := oB.1.lt
        have hs4 := hs3.kept hg4 (fun j hj => by have := (lo4 j hj).1; omega)
        have hC4 := Chg.of_grown (lo := w.heap.size + 1) (hi := w3.heap.size) hg4 (fun j hj => lo4 j hj)
        have c4 := hC4.at c3 (by omega) (by omega)
        have f4 := hC4.fr f3 (by omega) (by omega)
        have hgr4 := grown_mix hgr3 hg4 (fun j hj => by have := (lo4 j hj).1; omega)
        have hy4 := hg4.size
        have o5 : Own .u8 5 w4 (w.heap.size + 1) v4 (ys ++ zs).length (ys ++ zs) := by rw [List.length_append]; exact o4
        obtain ⟨a4, k4, hv4, _⟩ := o5.rd
        subst hv4
        clear hC4 hg4 lo4 oB o4 c3 f3 hs3 hgr3
        go_wp2
        refine bodyPost_ret (v := .agg #[.slice a4 (ys ++ zs).length k4]) (by simp [results, Try.results83, go_sem, c4]) rfl ⟨_, ys ++ zs, rfl, RowI.mono (RowI.of (o5.setBelow (by simp) _)) (by omega) (Nat.le_refl _), by simp; omega, hyb.append hzb, (hs4.kept (set_grown _ w.heap.size 0 _) (fun j hj => by simp at hj; omega)).more (by omega), grown_mix hgr4 (set_grown _ w.heap.size 0 _) (fun j hj => by simp at hj; omega)⟩
end Go.Proofs.Ytckkkhabjfbngaa

namespace Go.Proofs.Ytckkkhabjfbngaa
open Go.RowKit
set_option linter.unusedVariables false

set_option maxHeartbeats 3200000 in
theorem l2Bent_any (B b T : Nat) (w : World) (hs : Src w B b T) (hT : T ≤ 100) :
    Calls Try.prog 80 #[.pointer (some ⟨b, 0, none⟩)] w fun e w' => ∃ v ys, e = .returned (.agg #[v]) ∧ RowI .u8 5 w' w.heap.size w'.heap.size v ys.length ys ∧ ys.length ≤ 401 ∧ Bytes ys ∧ Src w' B b (T + 1100) ∧ w.grownBy w' (some b) := by
  obtain ⟨i0, hi, hz0, hz1, hz2⟩ := info_parts info8d
  have hlt := hs.lt
  have hBb := hs.1
  go_enter Try.func80, Try.ntmps80
  go_wp2_with fail
  refine (l1Chance_any B b T 20 _ (hs.alloc _) (by omega) (by omega)).mono ?_
  rintro e w1 ⟨q, rfl, hs1, hg1⟩
  have hC1 := Chg.one hg1
  have z1 : w.heap.size + 1 ≤ w1.heap.size := by have := hg1.size; simp at this; omega
  have hg01 : w.grownBy w1 (some b) := grownBy_alloc_trans hg1
  have c0 : w1.cell? ⟨w.heap.size, 0, none⟩ = some (.slice none 0 0) := hC1.at (by simp [go_sem]) (by simp) (by omega)
  have f0 : w1.frozen? ⟨w.heap.size, 0, none⟩ = false := hC1.fr (by simp [go_sem]) (by simp) (by omega)
  clear hg1 hC1
  cases q
  · go_wp2_with fail
    refine (l2Draw_any B b _ _ hs1 (by omega)).mono ?_
    rintro e w2 ⟨v2, ys, rfl, o2, hyl, hyb, hs2, hg2⟩
    have hC2 := Chg.one hg2
    have c2 := hC2.at c0 (by omega) (by omega)
    have f2 := hC2.fr f0 (by omega) (by omega)
    have hgr2 := grown_trans hg01 hg2
    have z2 := hg2.size
    obtain ⟨a2, k2, rfl, _⟩ := o2.shape
    clear hC2 hg2 c0 f0 hg01
    go_wp2
    refine bodyPost_ret (v := .agg #[.slice a2 ys.length k2]) (by simp [results, Try.results80, go_sem, c2]) rfl ⟨_, ys, rfl, RowI.mono (RowI.of (o2.1.setBelow (by simp; omega) _)) (by omega) (Nat.le_refl _), by omega, hyb, (hs2.kept (set_grown _ w.heap.size 0 _) (fun j hj => by simp at hj; omega)).more (by omega), grown_mix hgr2 (set_grown _ w.heap.size 0 _) (fun j hj => by simp at hj; omega)⟩
  · go_wp2_with fail
    refine (l1Pick_any B b _ w1.heap.size 2 [400, 401] _ (hs1.alloc _) (by omega) rfl (by omega) (by omega) (by omega) (lit_rd w1 [400, 401] 2 rfl (by simp [maxLen]))).mono ?_
    rintro e w2 ⟨x, rfl, hx, hs2, hg2⟩
    have hxb : 400 ≤ x ∧ x ≤ 401 := by simp at hx; omega
    obtain ⟨x1, x2⟩ := hxb
    obtain ⟨n, rfl⟩ := Int.eq_ofNat_of_zero_le (show 0 ≤ x by omega)
    have hg2' := grownBy_alloc_trans hg2
    have hC2 := Chg.one hg2'
    have c2 := hC2.at c0 (by omega) (by omega)
    have f2 := hC2.fr f0 (by omega) (by omega)
    have hgr2 := grown_trans hg01 hg2'
    have z2 := hg2'.size
    clear hx hg2 hg2' hC2 c0 f0 hg01 hs1
    go_wp2_with (at_make; refine wpList_make_full _ rfl _ _ 22 rfl w2.heap.size 5 i0 (.int .u8 0) 1 Try.underlying22 hi hz0 hz1 _ _ _ _ n rfl rfl rfl rfl (by rw [hz2]; omega) (by unfold maxLen; omega) (Nat.le_refl _) ?_)
    intro w3 hown1 hgrow1
    have ho1 : Own .u8 5 w3 w2.heap.size (.slice (some ⟨w2.heap.size, 0, none⟩) n n) n (List.replicate n 0) := by
      unfold Own
      rw [List.map_replicate, ← toList_madeCells_one]
      exact hown1
    have hb1 : Below w2.heap.size w2 w3 := (Below.refl _ _).grown hgrow1 (Nat.le_refl _) (by simp)
    have c3 := cell_later hb1 c2
    have f3 := (hb1.frozen (p := ⟨w.heap.size, 0, none⟩) (by simp; omega)).trans f2
    have hs3 := hs2.kept (grownBy_of_below hb1) (by simp)
    have hgr3 := grown_trans hgr2 (grown_none (grownBy_of_below hb1))
    have z3 := hb1.size
    clear hown1 hgrow1 hb1 c2 f2 hs2 hgr2
    go_wp2
    refine bodyPost_ret (v := .agg #[.slice (some ⟨w2.heap.size, 0, none⟩) n n]) (by simp [results, Try.results80, go_sem, c3]) rfl ⟨_, List.replicate n 0, rfl, RowI.mono (RowI.of (by simpa using ho1.setBelow (a := ⟨w.heap.size, 0, none⟩) (by simp; omega) _)) (by omega) (Nat.le_refl _), by simp; omega, fun z hz => by have := List.eq_of_mem_replicate hz; omega, (hs3.kept (set_grown _ w.heap.size 0 _) (fun j hj => by simp at hj; omega)).more (by omega), grown_mix hgr3 (set_grown _ w.heap.size 0 _) (fun j hj => by simp at hj; omega)⟩

/-- What a draw leaves of what lay ahead of it. -/
theorem below_src {w w1 w2 : World} {b : Nat} (hb : Below w.heap.size w w1) (hg : w1.grownBy w2 (some b)) (h : w.heap.size ≤ b) : Below w.heap.size w w2 := hb.grown hg hb.size (fun j hj => by simp at hj; omega)

end Go.Proofs.Ytckkkhabjfbngaa