/-
  The source of draws: contracts of l1Source, l1Next, l1Pick, l1Chance, l1Byte, l1Line.
-/
import Derived.Test.YtocophekfbhfbaaHlpCA
import Derived.Test.YtocophekfbhfbaaMath2
import Derived.Test.YtocophekfbhfbaaRows2
namespace Go.Proofs.Ytocophekfbhfbaa
open Go.RowKit
set_option linter.unusedVariables false

/-- A source lies in the block b, from B on; what it draws from lies below B; it has drawn at most T times. -/
def Src (w : World) (B b T : Nat) : Prop :=
  B ≤ b ∧ ∃ a n ca xs t, w.cell? ⟨b, 0, none⟩ = some (.slice a n ca) ∧ w.cell? ⟨b, 1, none⟩ = some (.int .i64 t) ∧ w.frozen? ⟨b, 1, none⟩ = false ∧ Rd .u8 w a n xs ∧ Bytes xs ∧ n ≤ 1048576 ∧ 0 ≤ t ∧ t ≤ T ∧
    (n = 0 ∨ ∃ b' off, a = some ⟨b', off, none⟩ ∧ b' < B)

theorem Src.lt {w : World} {B b T : Nat} (h : Src w B b T) : b < w.heap.size := by
  obtain ⟨_, a, n, ca, xs, t, h0, _⟩ := h
  exact World.block_lt_of_cell? _ _ h0

theorem Src.more {w : World} {B b T T' : Nat} (h : Src w B b T) (ht : T ≤ T') : Src w B b T' := by
  obtain ⟨hB, a, n, ca, xs, t, h0, h1, h2, h3, h4, h5, h6, h7, h8⟩ := h
  exact ⟨hB, a, n, ca, xs, t, h0, h1, h2, h3, h4, h5, h6, by omega, h8⟩

theorem Src.kept {w w' : World} {B b T : Nat} {row : Option Nat} (h : Src w B b T) (hg : w.grownBy w' row) (hr : ∀ j, row = some j → B ≤ j ∧ j ≠ b) : Src w' B b T := by
  have hlt := h.lt
  obtain ⟨hB, a, n, ca, xs, t, h0, h1, h2, h3, h4, h5, h6, h7, h8⟩ := h
  have hb : w'.heap[b]? = w.heap[b]? := hg.block b hlt (fun e => (hr b e.symm).2 rfl)
  refine ⟨hB, a, n, ca, xs, t, (World.cell?_of_block (w := w) hb).trans h0, (World.cell?_of_block (w := w) hb).trans h1, (World.frozen?_of_block (w := w) hb).trans h2, ?_, h4, h5, h6, h7, h8⟩
  refine ⟨h3.1, ?_⟩
  rcases h8 with h8 | ⟨b', off, ha, hb'⟩
  · exact .inl h8
  · rcases h3.2 with h0 | ⟨b1, o1, ha1, hc⟩
    · exact .inl h0
    · rw [ha] at ha1
      simp only [Option.some.injEq, Addr.mk.injEq, and_true] at ha1
      obtain ⟨rfl, rfl⟩ := ha1
      refine .inr ⟨b', off, ha, fun j hj => grown_cell hg (hc j hj) (fun k hk => ?_)⟩
      have := (hr k hk).1
      simp
      omega

/-- What the draw leaves. -/
theorem Src.drawn {w : World} {B b T : Nat} (h : Src w B b T) (t' : Int) (h0 : 0 ≤ t') (h1 : t' ≤ (T + 1 : Nat)) (q : Nat) :
    Src ((w.setCell ⟨b, 1, none⟩ (.int .i64 t')).drewN q) B b (T + 1) ∧ w.grownBy ((w.setCell ⟨b, 1, none⟩ (.int .i64 t')).drewN q) (some b) := by
  have hlt := h.lt
  have hg : w.grownBy ((w.setCell ⟨b, 1, none⟩ (.int .i64 t')).drewN q) (some b) := ⟨rfl, rfl, rfl, by simp [World.setCell], fun k hk hr => Below.heap_setCell _ _ _ _ (fun e => hr (by rw [e]))⟩
  obtain ⟨hB, a, n, ca, xs, t, c0, c1, f1, h3, h4, h5, h6, h7, h8⟩ := h
  refine ⟨⟨hB, a, n, ca, xs, t', ?_, ?_, ?_, ?_, h4, h5, h0, h1, h8⟩, hg⟩
  · simp [go_sem, c0]
  · simp [go_sem, c1]
  · simp [go_sem, f1]
  · refine ⟨h3.1, ?_⟩
    rcases h8 with h8 | ⟨b', off, ha, hb'⟩
    · exact .inl h8
    · rcases h3.2 with h0 | ⟨b1, o1, ha1, hc⟩
      · exact .inl h0
      · rw [ha] at ha1
        simp only [Option.some.injEq, Addr.mk.injEq, and_true] at ha1
        obtain ⟨rfl, rfl⟩ := ha1
        refine .inr ⟨b', off, ha, fun j hj => grown_cell hg (hc j hj) (fun k hk => ?_)⟩
        simp at hk
        simp
        omega

/-- A number that was drawn below N. -/
def InR (N r : Int) : Prop := (N < 1 → r = 0) ∧ (1 ≤ N → 0 ≤ r ∧ r < N)
theorem InR.mod (N x : Int) (h : 1 ≤ N) : InR N (x % N) := ⟨fun h' => absurd h' (by omega), fun _ => ⟨Int.emod_nonneg _ (by omega), Int.emod_lt_of_pos _ (by omega)⟩⟩

set_option maxHeartbeats 800000 in
theorem l1Next_any (B b T : Nat) (N : Int) (w : World) (hs : Src w B b T) (hT : T ≤ 1073741824) (hN : N ≤ 1073741824) :
    Calls Try.prog 69 #[.pointer (some ⟨b, 0, none⟩), .int .i64 N] w fun e w' => ∃ r : Int, e = .returned (.int .i64 r) ∧ InR N r ∧ Src w' B b (T + 1) ∧ w.grownBy w' (some b) := by
  have hs' := hs
  obtain ⟨hB, a, n, ca, xs, t, c0, c1, f1, hrd, hby, hn, t0, t1, hab⟩ := hs'
  have hD := fun q => hs.drawn (t + 1) (by omega) (by omega) q
  have HD : Hid _ := hD
  clear hD hs
  by_cases hN1 : N < 1
  · go_enter Try.func69, Try.ntmps69
    go_wp2
    go_ret
    exact ⟨0, rfl, ⟨fun _ => rfl, fun h => absurd h (by omega)⟩, (HD.out 0).1, (HD.out 0).2⟩
  · by_cases hn0 : n = 0
    · subst hn0
      go_enter Try.func69, Try.ntmps69
      go_wp2
      go_ret
      exact ⟨t * 7 % N, rfl, InR.mod _ _ (by omega), (HD.out 0).1, (HD.out 0).2⟩
    · obtain ⟨b', off, hc, hb'⟩ : ∃ b' off, (a = some ⟨b', off, none⟩ ∧ ∀ j, j < n → w.cell? ⟨b', off + j, none⟩ = some (.int .u8 (xs.getD j 0))) ∧ b' < B := by
        rcases hab with h8 | ⟨b', off, ha, hb'⟩
        · exact absurd h8 hn0
        · rcases hrd.2 with h0 | ⟨b1, o1, ha1, hc⟩
          · exact absurd h0 hn0
          · rw [ha] at ha1
            simp only [Option.some.injEq, Addr.mk.injEq, and_true] at ha1
            obtain ⟨rfl, rfl⟩ := ha1
            exact ⟨b', off, ⟨ha, hc⟩, hb'⟩
      obtain ⟨rfl, hc⟩ := hc
      have hn1 : (0 : Int) < (n : Int) := by omega
      have i1 : 0 ≤ t % (n : Int) ∧ t % (n : Int) < (n : Int) := ⟨Int.emod_nonneg _ (by omega), Int.emod_lt_of_pos _ hn1⟩
      have i2 : 0 ≤ (t + 1) % (n : Int) ∧ (t + 1) % (n : Int) < (n : Int) := ⟨Int.emod_nonneg _ (by omega), Int.emod_lt_of_pos _ hn1⟩
      have k1 : w.cell? ⟨b', off + (t % (n : Int)).toNat, none⟩ = some (.int .u8 (xs.getD (t % (n : Int)).toNat 0)) := hc _ (by omega)
      have k2 : w.cell? ⟨b', off + ((t + 1) % (n : Int)).toNat, none⟩ = some (.int .u8 (xs.getD ((t + 1) % (n : Int)).toNat 0)) := hc _ (by omega)
      have y1 := hby.at (t % (n : Int)).toNat
      have y2 := hby.at ((t + 1) % (n : Int)).toNat
      have dv : 0 ≤ t / (n : Int) ∧ t / (n : Int) ≤ 1073741824 := ⟨Int.ediv_nonneg t0 (by omega), Int.le_trans (Int.ediv_le_self _ t0) (by omega)⟩
      clear hc hrd hby hab
      generalize xs.getD (t % (n : Int)).toNat 0 = x1 at *
      generalize xs.getD ((t + 1) % (n : Int)).toNat 0 = x2 at *
      have hbne : ¬ b' = b := by omega
      have hnz : ((n : Int) == 0) = false := by simp; omega
      obtain ⟨i11, i12⟩ := i1
      obtain ⟨i21, i22⟩ := i2
      obtain ⟨y11, y12⟩ := y1
      obtain ⟨y21, y22⟩ := y2
      obtain ⟨d1, d2⟩ := dv
      by_cases hN2 : 200 < N
      · go_enter Try.func69, Try.ntmps69
        go_wp2
        go_quiet (fail)
        go_wp2
        go_quiet (fail)
        go_wp2
        go_ret
        exact ⟨_, rfl, InR.mod _ _ (by omega), (HD.out _).1, (HD.out _).2⟩
      · go_enter Try.func69, Try.ntmps69
        go_wp2
        go_quiet (fail)
        go_wp2
        go_ret
        exact ⟨_, rfl, InR.mod _ _ (by omega), (HD.out _).1, (HD.out _).2⟩

set_option maxHeartbeats 400000 in
theorem l1Source_any (a : Option Addr) (n ca : Nat) (xs : List Int) (B : Nat) (w : World) (ha : Rd .u8 w a n xs) (hB : Bytes xs) (hn : n ≤ 1048576) (hb : n = 0 ∨ ∃ b' off, a = some ⟨b', off, none⟩ ∧ b' < B) (hBw : B ≤ w.heap.size) :
    Calls Try.prog 89 #[.slice a n ca] w fun e w' => e = .returned (.pointer (some ⟨w.heap.size, 0, none⟩)) ∧ Src w' B w.heap.size 0 ∧ Below w.heap.size w w' := by
  go_enter Try.func89, Try.ntmps89
  go_wp2
  go_ret
  have hbw : Below w.heap.size w (w.alloc (.cells #[.slice a n ca, .int .i64 0] 203)) := (Below.refl _ _).alloc (Nat.le_refl _) _
  exact ⟨rfl, ⟨hBw, a, n, ca, xs, 0, by simp, by simp, by simp, ha.below hbw, hB, hn, by omega, by omega, hb⟩, hbw⟩

/-- A row of its own, that a function fills with numbers and hands over. -/
theorem grown_alloc' (w : World) (o : Obj) (row : Option Nat) {w' : World} (h : (w.alloc o).grownBy w' row) : w.grownBy w' row := grownBy_alloc_trans h

set_option maxHeartbeats 400000 in
theorem l1Pick_any (B b T g m : Nat) (zs : List Int) (w : World) (hs : Src w B b T) (hT : T ≤ 1073741824) (hm : zs.length = m) (hm1 : 1 ≤ m) (hm2 : m ≤ 100) (hg : g ≠ b) (hrd : Rd .i64 w (some ⟨g, 0, none⟩) m zs) :
    Calls Try.prog 68 #[.pointer (some ⟨b, 0, none⟩), .slice (some ⟨g, 0, none⟩) m m] w fun e w' => ∃ r : Int, e = .returned (.int .i64 r) ∧ r ∈ zs ∧ Src w' B b (T + 1) ∧ w.grownBy w' (some b) := by
  go_enter Try.func68, Try.ntmps68
  go_wp2_with fail
  refine (l1Next_any B b T m _ hs hT (by omega)).mono ?_
  rintro e w1 ⟨r, rfl, hr, hs1, hg1⟩
  have hr' := hr.2 (by omega)
  clear hr
  obtain ⟨k, rfl⟩ := Int.eq_ofNat_of_zero_le hr'.1
  have hk : k < m := by omega
  have hk' : (k : Int) < (m : Int) := by omega
  obtain ⟨g', o', hgo, hc⟩ := hrd.at hk
  simp only [Option.some.injEq, Addr.mk.injEq, and_true] at hgo
  obtain ⟨rfl, rfl⟩ := hgo
  have hck := grown_cell hg1 (hc k hk) (fun j hj => by simp at hj; simp; omega)
  have hmem : zs.getD k 0 ∈ zs := by
    rw [List.getD_eq_getElem?_getD, List.getElem?_eq_getElem (by omega), Option.getD_some]
    exact List.getElem_mem _
  rw [Nat.zero_add] at hck
  have HM : Hid _ := hmem
  clear hmem hc hrd
  generalize zs.getD k 0 = x at *
  go_wp2
  go_ret
  exact ⟨x, rfl, HM.out, hs1, hg1⟩
end Go.Proofs.Ytocophekfbhfbaa
