/-
  Chapter 11: states: equality, marks; a pager's state; NewState, both sides.
-/
import Derived.Test.YtjgmkcmlkffjlaaSpotP
import Derived.Test.YtjgmkcmlkffjlaaPag1
import Derived.Test.YtjgmkcmlkffjlaaAppend
import Derived.Deep.RegionWith
import Derived.Deep.RegionHeld3
namespace Go.Proofs.Ytjgmkcmlkffjlaa
open Go.RowKit
set_option linter.unusedVariables false
set_option linter.unusedSimpArgs false

theorem RowP.of {e : TypeId} {w : World} {lo n : Nat} {v : Value} {xs : List L2} (h : OwnR lineE 2 e w lo v n xs) : RowP w lo w.heap.size v n xs := by
  have h0 := h
  rcases h.2.2 with ⟨rfl, rfl⟩ | ⟨g, cap, cur, rfl, hb, hg, hn, hm, hs, ht⟩
  · exact ⟨h.1, .inl ⟨rfl, rfl⟩⟩
  · have hl := h.lt g rfl
    refine ⟨h.1, .inr ⟨g, 0, cap, rfl, hn, hm, hl.1, hl.2, hl.2, fun j x hx => ?_⟩⟩
    have d0 := OwnR.cell (f := 0) lineE_len h0 hx rfl
    have d1 := OwnR.cell (f := 1) lineE_len h0 hx rfl
    rw [Nat.add_zero] at d0
    rw [Nat.zero_add]
    exact ⟨d0, d1, h0.frozen _, h0.frozen _⟩
theorem RowP.none (w : World) (lo hi : Nat) : RowP w lo hi (.slice none 0 0) 0 [] := ⟨rfl, .inl ⟨rfl, rfl⟩⟩
theorem rowP_four {w : World} {b off lo hi : Nat} {m0 m1 m2 m3 m4 m5 m6 m7 : Int} (h1 : lo ≤ b) (h2 : b < hi) (h3 : b < w.heap.size)
    (c0 : w.cell? ⟨b, off, none⟩ = some (.int .i64 m0)) (c1 : w.cell? ⟨b, off + 1, none⟩ = some (.int .i64 m1)) (c2 : w.cell? ⟨b, off + 2, none⟩ = some (.int .i64 m2)) (c3 : w.cell? ⟨b, off + 3, none⟩ = some (.int .i64 m3))
    (c4 : w.cell? ⟨b, off + 4, none⟩ = some (.int .i64 m4)) (c5 : w.cell? ⟨b, off + 5, none⟩ = some (.int .i64 m5)) (c6 : w.cell? ⟨b, off + 6, none⟩ = some (.int .i64 m6)) (c7 : w.cell? ⟨b, off + 7, none⟩ = some (.int .i64 m7))
    (f0 : w.frozen? ⟨b, off, none⟩ = false) (f1 : w.frozen? ⟨b, off + 1, none⟩ = false) (f2 : w.frozen? ⟨b, off + 2, none⟩ = false) (f3 : w.frozen? ⟨b, off + 3, none⟩ = false)
    (f4 : w.frozen? ⟨b, off + 4, none⟩ = false) (f5 : w.frozen? ⟨b, off + 5, none⟩ = false) (f6 : w.frozen? ⟨b, off + 6, none⟩ = false) (f7 : w.frozen? ⟨b, off + 7, none⟩ = false) :
    RowP w lo hi (.slice (some ⟨b, off, none⟩) 4 4) 4 [(m0, m1), (m2, m3), (m4, m5), (m6, m7)] := by
  refine ⟨rfl, .inr ⟨b, off, 4, rfl, Nat.le_refl _, by simp [maxLen], h1, h2, h3, fun j x hx => ?_⟩⟩
  match j, hx with
  | 0, hx => obtain rfl := (Option.some.inj hx).symm; exact ⟨c0, c1, f0, f1⟩
  | 1, hx => obtain rfl := (Option.some.inj hx).symm; exact ⟨c2, c3, f2, f3⟩
  | 2, hx => obtain rfl := (Option.some.inj hx).symm; exact ⟨c4, c5, f4, f5⟩
  | 3, hx => obtain rfl := (Option.some.inj hx).symm; exact ⟨c6, c7, f6, f7⟩
  | j + 4, hx => simp at hx

theorem eqLayout_yes (W S : Int) (C : Bool) (w : World) :
    Calls Try.prog 94 #[.agg #[.int .i64 W, .bool C, .int .i64 S], .agg #[.int .i64 W, .bool C, .int .i64 S]] w fun e w' => e = .returned (.bool true) ∧ Below w.heap.size w w' := by
  cases C <;>
    (go_enter Try.func94, Try.ntmps94; go_wp2; go_ret; exact ⟨rfl, ((Below.refl _ _).alloc (Nat.le_refl _) _).alloc (by simp) _⟩)

set_option maxHeartbeats 1600000 in
theorem eqState_yes (H W S L R : Int) (C F : Bool) (p t : ByteArray) (a b : Option Addr) (n ca cb : Nat) (cs : List L2) (w : World) (ha : RdR lineE 2 w a n cs) (hy : RdR lineE 2 w b n cs) (h1 : n ≤ 1073741824) :
    Calls Try.prog 61 #[.agg #[.int .i64 H, .int .i64 W, .bool C, .int .i64 S, .int .i64 L, .int .i64 R, .string p, .string t, .slice a n ca, .bool F], .agg #[.int .i64 H, .int .i64 W, .bool C, .int .i64 S, .int .i64 L, .int .i64 R, .string p, .string t, .slice b n cb, .bool F]] w fun e w' => e = .returned (.bool true) ∧ Below w.heap.size w w' := by
  go_enter Try.func61, Try.ntmps61
  have hb : Below w.heap.size w w := Below.refl _ _
  go_wp2_with fail
  have bp : ∀ o0 o1, Below w.heap.size w ((w.alloc o0).alloc o1) := fun o0 o1 => ((Below.refl _ _).alloc (Nat.le_refl _) o0).alloc (by simp) o1
  have hbt : ∀ o0 o1, Below w.heap.size w ((w.alloc o0).alloc o1) := fun o0 o1 => hb.trans ((bp o0 o1).mono hb.size)
  refine Calls.mono (eqLayout_yes W S C _) ?_
  rintro e w1 ⟨rfl, hc⟩
  have s1 : w.heap.size + 2 ≤ w1.heap.size := by have := hc.size; simp at this; omega
  have bq : Below w.heap.size w w1 := (bp _ _).trans (hc.mono (bp _ _).size)
  have cx0 : w1.cell? ⟨w.heap.size, 0, none⟩ = some (.int .i64 H) := cell_later hc (by simp [go_sem])
  have cx1 : w1.cell? ⟨w.heap.size, 1, none⟩ = some (.int .i64 W) := cell_later hc (by simp [go_sem])
  have cx2 : w1.cell? ⟨w.heap.size, 2, none⟩ = some (.bool C) := cell_later hc (by simp [go_sem])
  have cx3 : w1.cell? ⟨w.heap.size, 3, none⟩ = some (.int .i64 S) := cell_later hc (by simp [go_sem])
  have cx4 : w1.cell? ⟨w.heap.size, 4, none⟩ = some (.int .i64 L) := cell_later hc (by simp [go_sem])
  have cx5 : w1.cell? ⟨w.heap.size, 5, none⟩ = some (.int .i64 R) := cell_later hc (by simp [go_sem])
  have cx6 : w1.cell? ⟨w.heap.size, 6, none⟩ = some (.string p) := cell_later hc (by simp [go_sem])
  have cx7 : w1.cell? ⟨w.heap.size, 7, none⟩ = some (.string t) := cell_later hc (by simp [go_sem])
  have cx8 : w1.cell? ⟨w.heap.size, 8, none⟩ = some (.slice a n ca) := cell_later hc (by simp [go_sem])
  have cx9 : w1.cell? ⟨w.heap.size, 9, none⟩ = some (.bool F) := cell_later hc (by simp [go_sem])
  have zx : w.heap.size < w1.heap.size := by omega
  have cy0 : w1.cell? ⟨w.heap.size + 1, 0, none⟩ = some (.int .i64 H) := cell_later hc (by simp [go_sem])
  have cy1 : w1.cell? ⟨w.heap.size + 1, 1, none⟩ = some (.int .i64 W) := cell_later hc (by simp [go_sem])
  have cy2 : w1.cell? ⟨w.heap.size + 1, 2, none⟩ = some (.bool C) := cell_later hc (by simp [go_sem])
  have cy3 : w1.cell? ⟨w.heap.size + 1, 3, none⟩ = some (.int .i64 S) := cell_later hc (by simp [go_sem])
  have cy4 : w1.cell? ⟨w.heap.size + 1, 4, none⟩ = some (.int .i64 L) := cell_later hc (by simp [go_sem])
  have cy5 : w1.cell? ⟨w.heap.size + 1, 5, none⟩ = some (.int .i64 R) := cell_later hc (by simp [go_sem])
  have cy6 : w1.cell? ⟨w.heap.size + 1, 6, none⟩ = some (.string p) := cell_later hc (by simp [go_sem])
  have cy7 : w1.cell? ⟨w.heap.size + 1, 7, none⟩ = some (.string t) := cell_later hc (by simp [go_sem])
  have cy8 : w1.cell? ⟨w.heap.size + 1, 8, none⟩ = some (.slice b n cb) := cell_later hc (by simp [go_sem])
  have cy9 : w1.cell? ⟨w.heap.size + 1, 9, none⟩ = some (.bool F) := cell_later hc (by simp [go_sem])
  have zy : w.heap.size + 1 < w1.heap.size := by omega
  replace hb := hb.trans (bq.mono hb.size)
  clear hc bq bp hbt
  go_wp2_with fail
  refine Calls.mono (eqSpot_yes L R _) ?_
  rintro e w2 ⟨rfl, hc⟩
  have s2 : w1.heap.size ≤ w2.heap.size := hc.size
  have bq := hc
  replace cx0 := cell_later bq cx0
  replace cx1 := cell_later bq cx1
  replace cx2 := cell_later bq cx2
  replace cx3 := cell_later bq cx3
  replace cx4 := cell_later bq cx4
  replace cx5 := cell_later bq cx5
  replace cx6 := cell_later bq cx6
  replace cx7 := cell_later bq cx7
  replace cx8 := cell_later bq cx8
  replace cx9 := cell_later bq cx9
  replace zx := Nat.lt_of_lt_of_le zx bq.size
  replace cy0 := cell_later bq cy0
  replace cy1 := cell_later bq cy1
  replace cy2 := cell_later bq cy2
  replace cy3 := cell_later bq cy3
  replace cy4 := cell_later bq cy4
  replace cy5 := cell_later bq cy5
  replace cy6 := cell_later bq cy6
  replace cy7 := cell_later bq cy7
  replace cy8 := cell_later bq cy8
  replace cy9 := cell_later bq cy9
  replace zy := Nat.lt_of_lt_of_le zy bq.size
  replace hb := hb.trans (bq.mono hb.size)
  clear hc bq
  go_wp2_with fail
  refine Calls.mono (eqSpotS_yes a b n ca cb cs _ (ha.below hb) (hy.below hb) h1) ?_
  rintro e w3 ⟨rfl, hc⟩
  have s3 : w2.heap.size ≤ w3.heap.size := hc.size
  have bq := hc
  replace cx0 := cell_later bq cx0
  replace cx1 := cell_later bq cx1
  replace cx2 := cell_later bq cx2
  replace cx3 := cell_later bq cx3
  replace cx4 := cell_later bq cx4
  replace cx5 := cell_later bq cx5
  replace cx6 := cell_later bq cx6
  replace cx7 := cell_later bq cx7
  replace cx8 := cell_later bq cx8
  replace cx9 := cell_later bq cx9
  replace zx := Nat.lt_of_lt_of_le zx bq.size
  replace cy0 := cell_later bq cy0
  replace cy1 := cell_later bq cy1
  replace cy2 := cell_later bq cy2
  replace cy3 := cell_later bq cy3
  replace cy4 := cell_later bq cy4
  replace cy5 := cell_later bq cy5
  replace cy6 := cell_later bq cy6
  replace cy7 := cell_later bq cy7
  replace cy8 := cell_later bq cy8
  replace cy9 := cell_later bq cy9
  replace zy := Nat.lt_of_lt_of_le zy bq.size
  replace hb := hb.trans (bq.mono hb.size)
  clear hc bq
  cases F <;> (go_wp2; go_ret; exact ⟨rfl, hb⟩)

set_option maxHeartbeats 1600000 in
theorem eqStateResult_yes (c : Int) (H W S L R : Int) (C F : Bool) (p t : ByteArray) (a b : Option Addr) (n ca cb : Nat) (cs : List L2) (w : World) (ha : RdR lineE 2 w a n cs) (hy : RdR lineE 2 w b n cs) (h1 : n ≤ 1073741824) :
    Calls Try.prog 30 #[.agg #[.int .i64 c, .int .i64 H, .int .i64 W, .bool C, .int .i64 S, .int .i64 L, .int .i64 R, .string p, .string t, .slice a n ca, .bool F], .agg #[.int .i64 c, .int .i64 H, .int .i64 W, .bool C, .int .i64 S, .int .i64 L, .int .i64 R, .string p, .string t, .slice b n cb, .bool F]] w fun e w' => e = .returned (.bool true) ∧ Below w.heap.size w w' := by
  go_enter Try.func30, Try.ntmps30
  have hb : Below w.heap.size w w := Below.refl _ _
  go_wp2_with fail
  have bp : ∀ o0 o1, Below w.heap.size w ((w.alloc o0).alloc o1) := fun o0 o1 => ((Below.refl _ _).alloc (Nat.le_refl _) o0).alloc (by simp) o1
  have hbt : ∀ o0 o1, Below w.heap.size w ((w.alloc o0).alloc o1) := fun o0 o1 => hb.trans ((bp o0 o1).mono hb.size)
  refine Calls.mono (eqState_yes H W S L R C F p t a b n ca cb cs _ (ha.below (hbt _ _)) (hy.below (hbt _ _)) h1) ?_
  rintro e w1 ⟨rfl, hc⟩
  have s1 : w.heap.size + 2 ≤ w1.heap.size := by have := hc.size; simp at this; omega
  have bq : Below w.heap.size w w1 := (bp _ _).trans (hc.mono (bp _ _).size)
  have cx0 : w1.cell? ⟨w.heap.size, 0, none⟩ = some (.int .i64 c) := cell_later hc (by simp [go_sem])
  have cx1 : w1.cell? ⟨w.heap.size, 1, none⟩ = some (.int .i64 H) := cell_later hc (by simp [go_sem])
  have cx2 : w1.cell? ⟨w.heap.size, 2, none⟩ = some (.int .i64 W) := cell_later hc (by simp [go_sem])
  have cx3 : w1.cell? ⟨w.heap.size, 3, none⟩ = some (.bool C) := cell_later hc (by simp [go_sem])
  have cx4 : w1.cell? ⟨w.heap.size, 4, none⟩ = some (.int .i64 S) := cell_later hc (by simp [go_sem])
  have cx5 : w1.cell? ⟨w.heap.size, 5, none⟩ = some (.int .i64 L) := cell_later hc (by simp [go_sem])
  have cx6 : w1.cell? ⟨w.heap.size, 6, none⟩ = some (.int .i64 R) := cell_later hc (by simp [go_sem])
  have cx7 : w1.cell? ⟨w.heap.size, 7, none⟩ = some (.string p) := cell_later hc (by simp [go_sem])
  have cx8 : w1.cell? ⟨w.heap.size, 8, none⟩ = some (.string t) := cell_later hc (by simp [go_sem])
  have cx9 : w1.cell? ⟨w.heap.size, 9, none⟩ = some (.slice a n ca) := cell_later hc (by simp [go_sem])
  have cx10 : w1.cell? ⟨w.heap.size, 10, none⟩ = some (.bool F) := cell_later hc (by simp [go_sem])
  have zx : w.heap.size < w1.heap.size := by omega
  have cy0 : w1.cell? ⟨w.heap.size + 1, 0, none⟩ = some (.int .i64 c) := cell_later hc (by simp [go_sem])
  have cy1 : w1.cell? ⟨w.heap.size + 1, 1, none⟩ = some (.int .i64 H) := cell_later hc (by simp [go_sem])
  have cy2 : w1.cell? ⟨w.heap.size + 1, 2, none⟩ = some (.int .i64 W) := cell_later hc (by simp [go_sem])
  have cy3 : w1.cell? ⟨w.heap.size + 1, 3, none⟩ = some (.bool C) := cell_later hc (by simp [go_sem])
  have cy4 : w1.cell? ⟨w.heap.size + 1, 4, none⟩ = some (.int .i64 S) := cell_later hc (by simp [go_sem])
  have cy5 : w1.cell? ⟨w.heap.size + 1, 5, none⟩ = some (.int .i64 L) := cell_later hc (by simp [go_sem])
  have cy6 : w1.cell? ⟨w.heap.size + 1, 6, none⟩ = some (.int .i64 R) := cell_later hc (by simp [go_sem])
  have cy7 : w1.cell? ⟨w.heap.size + 1, 7, none⟩ = some (.string p) := cell_later hc (by simp [go_sem])
  have cy8 : w1.cell? ⟨w.heap.size + 1, 8, none⟩ = some (.string t) := cell_later hc (by simp [go_sem])
  have cy9 : w1.cell? ⟨w.heap.size + 1, 9, none⟩ = some (.slice b n cb) := cell_later hc (by simp [go_sem])
  have cy10 : w1.cell? ⟨w.heap.size + 1, 10, none⟩ = some (.bool F) := cell_later hc (by simp [go_sem])
  have zy : w.heap.size + 1 < w1.heap.size := by omega
  replace hb := hb.trans (bq.mono hb.size)
  clear hc bq bp hbt
  go_wp2
  go_ret
  exact ⟨rfl, hb⟩

theorem markState_p (H W S L R x0 : Int) (C F : Bool) (p t : ByteArray) (v : Value) (n lo hi : Nat) (cs : List L2) (w : World) (ho : RowP w lo hi v n cs) (h1 : n ≤ 107374182) (h2 : 0 ≤ x0) (h3 : x0 ≤ 1073741824) :
    Calls Try.prog 62 #[.agg #[.int .i64 H, .int .i64 W, .bool C, .int .i64 S, .int .i64 L, .int .i64 R, .string p, .string t, v, .bool F], .int .i64 x0] w fun e w' => e = .returned (.int .i64 (x0 + 2 * n)) ∧ RowP w' lo hi v n (mkL x0 n) ∧ Chg lo hi w w' := by
  obtain ⟨a, cap, hv⟩ := ho.shape
  subst hv
  go_enter Try.func62, Try.ntmps62
  go_wp2_with fail
  refine (markSpotS_p _ n lo hi cs x0 _ (ho.below ((Below.refl _ _).alloc (Nat.le_refl _) _)) h1 h2 h3).mono ?_
  rintro e w1 ⟨rfl, ho1, hg⟩
  go_wp2
  go_ret
  exact ⟨rfl, ho1, (Chg.of_below ((Below.refl _ _).alloc (Nat.le_refl _) _)).trans hg⟩

theorem markStateResult_p (c : Int) (H W S L R x0 : Int) (C F : Bool) (p t : ByteArray) (v : Value) (n lo hi : Nat) (cs : List L2) (w : World) (ho : RowP w lo hi v n cs) (h1 : n ≤ 107374182) (h2 : 0 ≤ x0) (h3 : x0 ≤ 1073741824) :
    Calls Try.prog 31 #[.agg #[.int .i64 c, .int .i64 H, .int .i64 W, .bool C, .int .i64 S, .int .i64 L, .int .i64 R, .string p, .string t, v, .bool F], .int .i64 x0] w fun e w' => e = .returned (.int .i64 (x0 + 2 * n)) ∧ RowP w' lo hi v n (mkL x0 n) ∧ Chg lo hi w w' := by
  obtain ⟨a, cap, hv⟩ := ho.shape
  subst hv
  go_enter Try.func31, Try.ntmps31
  go_wp2_with fail
  refine (markState_p H W S L R x0 C F p t _ n lo hi cs _ (ho.below ((Below.refl _ _).alloc (Nat.le_refl _) _)) h1 h2 h3).mono ?_
  rintro e w1 ⟨rfl, ho1, hg⟩
  go_wp2
  go_ret
  exact ⟨rfl, ho1, (Chg.of_below ((Below.refl _ _).alloc (Nat.le_refl _) _)).trans hg⟩

theorem heldState_yes (H W S L R x0 : Int) (C F : Bool) (p t : ByteArray) (a : Option Addr) (n ca : Nat) (w : World) (ha : RdR lineE 2 w a n (mkL x0 n)) (h1 : n ≤ 107374182) (h2 : 0 ≤ x0) (h3 : x0 ≤ 1073741824) :
    Calls Try.prog 63 #[.agg #[.int .i64 H, .int .i64 W, .bool C, .int .i64 S, .int .i64 L, .int .i64 R, .string p, .string t, .slice a n ca, .bool F], .int .i64 x0] w fun e w' => e = .returned (.int .i64 (x0 + 2 * n)) ∧ Below w.heap.size w w' := by
  have hn : ¬ x0 + 2 * (n : Int) < 0 := by omega
  go_enter Try.func63, Try.ntmps63
  go_wp2_with fail
  refine (heldSpotS_yes a n ca x0 _ (ha.below ((Below.refl _ _).alloc (Nat.le_refl _) _)) h1 h2 h3).mono ?_
  rintro e w1 ⟨rfl, rfl⟩
  go_wp2
  go_ret
  exact ⟨rfl, (Below.refl _ _).alloc (Nat.le_refl _) _⟩

theorem heldStateResult_yes (c : Int) (H W S L R x0 : Int) (C F : Bool) (p t : ByteArray) (a : Option Addr) (n ca : Nat) (w : World) (ha : RdR lineE 2 w a n (mkL x0 n)) (h1 : n ≤ 107374182) (h2 : 0 ≤ x0) (h3 : x0 ≤ 1073741824) :
    Calls Try.prog 32 #[.agg #[.int .i64 c, .int .i64 H, .int .i64 W, .bool C, .int .i64 S, .int .i64 L, .int .i64 R, .string p, .string t, .slice a n ca, .bool F], .int .i64 x0] w fun e w' => e = .returned (.int .i64 (x0 + 2 * n)) ∧ Below w.heap.size w w' := by
  have hn : ¬ x0 + 2 * (n : Int) < 0 := by omega
  go_enter Try.func32, Try.ntmps32
  go_wp2_with fail
  refine (heldState_yes H W S L R x0 C F p t a n ca _ (ha.below ((Below.refl _ _).alloc (Nat.le_refl _) _)) h1 h2 h3).mono ?_
  rintro e w1 ⟨rfl, hb⟩
  go_wp2
  go_ret
  exact ⟨rfl, ((Below.refl _ _).alloc (Nat.le_refl _) _).trans (hb.mono (by simp))⟩

set_option maxHeartbeats 3200000 in
theorem state_any (H W S L R m0 m1 m2 m3 m4 m5 m6 m7 : Int) (C F : Bool) (p t : ByteArray) (fa : Option Addr) (fn fc : Nat) (w : World) :
    Calls Try.prog 60 #[.agg #[.int .i64 W, .bool C, .int .i64 S, .slice fa fn fc, .int .i64 H, .int .i64 L, .int .i64 R, .string p, .string t, .int .i64 m0, .int .i64 m1, .int .i64 m2, .int .i64 m3, .int .i64 m4, .int .i64 m5, .int .i64 m6, .int .i64 m7, .bool F]] w fun e w' => ∃ v, e = .returned (.agg #[.int .i64 H, .int .i64 W, .bool C, .int .i64 S, .int .i64 L, .int .i64 R, .string p, .string t, v, .bool F]) ∧ RowP w' w.heap.size w'.heap.size v 4 [(m0, m1), (m2, m3), (m4, m5), (m6, m7)] ∧ Below w.heap.size w w' := by
  go_enter Try.func60, Try.ntmps60
  have hb : Below w.heap.size w w := Below.refl _ _
  go_wp2_with fail
  have bp : ∀ o0 o1, Below w.heap.size w ((w.alloc o0).alloc o1) := fun o0 o1 => ((Below.refl _ _).alloc (Nat.le_refl _) o0).alloc (by simp) o1
  have hbt : ∀ o0 o1, Below w.heap.size w ((w.alloc o0).alloc o1) := fun o0 o1 => hb.trans ((bp o0 o1).mono hb.size)
  obtain ⟨w1, hw1⟩ : ∃ x, ((w.alloc (.cells #[.int .i64 W, .bool C, .int .i64 S, .slice fa fn fc, .int .i64 H, .int .i64 L, .int .i64 R, .string p, .string t, .int .i64 m0, .int .i64 m1, .int .i64 m2, .int .i64 m3, .int .i64 m4, .int .i64 m5, .int .i64 m6, .int .i64 m7, .bool F] 107)).alloc (.cells #[.int .i64 0, .int .i64 0, .bool false, .int .i64 0, .int .i64 0, .int .i64 0, .string ⟨#[]⟩, .string ⟨#[]⟩, .slice none 0 0, .bool false] 58)) = x := ⟨_, rfl⟩
  have hc : Below (((w.alloc (.cells #[.int .i64 W, .bool C, .int .i64 S, .slice fa fn fc, .int .i64 H, .int .i64 L, .int .i64 R, .string p, .string t, .int .i64 m0, .int .i64 m1, .int .i64 m2, .int .i64 m3, .int .i64 m4, .int .i64 m5, .int .i64 m6, .int .i64 m7, .bool F] 107)).alloc (.cells #[.int .i64 0, .int .i64 0, .bool false, .int .i64 0, .int .i64 0, .int .i64 0, .string ⟨#[]⟩, .string ⟨#[]⟩, .slice none 0 0, .bool false] 58))).heap.size (((w.alloc (.cells #[.int .i64 W, .bool C, .int .i64 S, .slice fa fn fc, .int .i64 H, .int .i64 L, .int .i64 R, .string p, .string t, .int .i64 m0, .int .i64 m1, .int .i64 m2, .int .i64 m3, .int .i64 m4, .int .i64 m5, .int .i64 m6, .int .i64 m7, .bool F] 107)).alloc (.cells #[.int .i64 0, .int .i64 0, .bool false, .int .i64 0, .int .i64 0, .int .i64 0, .string ⟨#[]⟩, .string ⟨#[]⟩, .slice none 0 0, .bool false] 58))) w1 := hw1 ▸ Below.refl _ _
  have s1 : w.heap.size + 2 ≤ w1.heap.size := by have := hc.size; simp at this; omega
  have bq : Below w.heap.size w w1 := (bp _ _).trans (hc.mono (bp _ _).size)
  have cp0 : w1.cell? ⟨w.heap.size, 0, none⟩ = some (.int .i64 W) := cell_later hc (by simp [go_sem])
  have fp0 : w1.frozen? ⟨w.heap.size, 0, none⟩ = false := (hc.frozen (p := ⟨w.heap.size, 0, none⟩) (by first | (simp; done) | (simp; omega))).trans (by simp [go_sem])
  have cp1 : w1.cell? ⟨w.heap.size, 1, none⟩ = some (.bool C) := cell_later hc (by simp [go_sem])
  have fp1 : w1.frozen? ⟨w.heap.size, 1, none⟩ = false := (hc.frozen (p := ⟨w.heap.size, 1, none⟩) (by first | (simp; done) | (simp; omega))).trans (by simp [go_sem])
  have cp2 : w1.cell? ⟨w.heap.size, 2, none⟩ = some (.int .i64 S) := cell_later hc (by simp [go_sem])
  have fp2 : w1.frozen? ⟨w.heap.size, 2, none⟩ = false := (hc.frozen (p := ⟨w.heap.size, 2, none⟩) (by first | (simp; done) | (simp; omega))).trans (by simp [go_sem])
  have cp3 : w1.cell? ⟨w.heap.size, 3, none⟩ = some (.slice fa fn fc) := cell_later hc (by simp [go_sem])
  have fp3 : w1.frozen? ⟨w.heap.size, 3, none⟩ = false := (hc.frozen (p := ⟨w.heap.size, 3, none⟩) (by first | (simp; done) | (simp; omega))).trans (by simp [go_sem])
  have cp4 : w1.cell? ⟨w.heap.size, 4, none⟩ = some (.int .i64 H) := cell_later hc (by simp [go_sem])
  have fp4 : w1.frozen? ⟨w.heap.size, 4, none⟩ = false := (hc.frozen (p := ⟨w.heap.size, 4, none⟩) (by first | (simp; done) | (simp; omega))).trans (by simp [go_sem])
  have cp5 : w1.cell? ⟨w.heap.size, 5, none⟩ = some (.int .i64 L) := cell_later hc (by simp [go_sem])
  have fp5 : w1.frozen? ⟨w.heap.size, 5, none⟩ = false := (hc.frozen (p := ⟨w.heap.size, 5, none⟩) (by first | (simp; done) | (simp; omega))).trans (by simp [go_sem])
  have cp6 : w1.cell? ⟨w.heap.size, 6, none⟩ = some (.int .i64 R) := cell_later hc (by simp [go_sem])
  have fp6 : w1.frozen? ⟨w.heap.size, 6, none⟩ = false := (hc.frozen (p := ⟨w.heap.size, 6, none⟩) (by first | (simp; done) | (simp; omega))).trans (by simp [go_sem])
  have cp7 : w1.cell? ⟨w.heap.size, 7, none⟩ = some (.string p) := cell_later hc (by simp [go_sem])
  have fp7 : w1.frozen? ⟨w.heap.size, 7, none⟩ = false := (hc.frozen (p := ⟨w.heap.size, 7, none⟩) (by first | (simp; done) | (simp; omega))).trans (by simp [go_sem])
  have cp8 : w1.cell? ⟨w.heap.size, 8, none⟩ = some (.string t) := cell_later hc (by simp [go_sem])
  have fp8 : w1.frozen? ⟨w.heap.size, 8, none⟩ = false := (hc.frozen (p := ⟨w.heap.size, 8, none⟩) (by first | (simp; done) | (simp; omega))).trans (by simp [go_sem])
  have cp9 : w1.cell? ⟨w.heap.size, 9, none⟩ = some (.int .i64 m0) := cell_later hc (by simp [go_sem])
  have fp9 : w1.frozen? ⟨w.heap.size, 9, none⟩ = false := (hc.frozen (p := ⟨w.heap.size, 9, none⟩) (by first | (simp; done) | (simp; omega))).trans (by simp [go_sem])
  have cp10 : w1.cell? ⟨w.heap.size, 10, none⟩ = some (.int .i64 m1) := cell_later hc (by simp [go_sem])
  have fp10 : w1.frozen? ⟨w.heap.size, 10, none⟩ = false := (hc.frozen (p := ⟨w.heap.size, 10, none⟩) (by first | (simp; done) | (simp; omega))).trans (by simp [go_sem])
  have cp11 : w1.cell? ⟨w.heap.size, 11, none⟩ = some (.int .i64 m2) := cell_later hc (by simp [go_sem])
  have fp11 : w1.frozen? ⟨w.heap.size, 11, none⟩ = false := (hc.frozen (p := ⟨w.heap.size, 11, none⟩) (by first | (simp; done) | (simp; omega))).trans (by simp [go_sem])
  have cp12 : w1.cell? ⟨w.heap.size, 12, none⟩ = some (.int .i64 m3) := cell_later hc (by simp [go_sem])
  have fp12 : w1.frozen? ⟨w.heap.size, 12, none⟩ = false := (hc.frozen (p := ⟨w.heap.size, 12, none⟩) (by first | (simp; done) | (simp; omega))).trans (by simp [go_sem])
  have cp13 : w1.cell? ⟨w.heap.size, 13, none⟩ = some (.int .i64 m4) := cell_later hc (by simp [go_sem])
  have fp13 : w1.frozen? ⟨w.heap.size, 13, none⟩ = false := (hc.frozen (p := ⟨w.heap.size, 13, none⟩) (by first | (simp; done) | (simp; omega))).trans (by simp [go_sem])
  have cp14 : w1.cell? ⟨w.heap.size, 14, none⟩ = some (.int .i64 m5) := cell_later hc (by simp [go_sem])
  have fp14 : w1.frozen? ⟨w.heap.size, 14, none⟩ = false := (hc.frozen (p := ⟨w.heap.size, 14, none⟩) (by first | (simp; done) | (simp; omega))).trans (by simp [go_sem])
  have cp15 : w1.cell? ⟨w.heap.size, 15, none⟩ = some (.int .i64 m6) := cell_later hc (by simp [go_sem])
  have fp15 : w1.frozen? ⟨w.heap.size, 15, none⟩ = false := (hc.frozen (p := ⟨w.heap.size, 15, none⟩) (by first | (simp; done) | (simp; omega))).trans (by simp [go_sem])
  have cp16 : w1.cell? ⟨w.heap.size, 16, none⟩ = some (.int .i64 m7) := cell_later hc (by simp [go_sem])
  have fp16 : w1.frozen? ⟨w.heap.size, 16, none⟩ = false := (hc.frozen (p := ⟨w.heap.size, 16, none⟩) (by first | (simp; done) | (simp; omega))).trans (by simp [go_sem])
  have cp17 : w1.cell? ⟨w.heap.size, 17, none⟩ = some (.bool F) := cell_later hc (by simp [go_sem])
  have fp17 : w1.frozen? ⟨w.heap.size, 17, none⟩ = false := (hc.frozen (p := ⟨w.heap.size, 17, none⟩) (by first | (simp; done) | (simp; omega))).trans (by simp [go_sem])
  have zp : w.heap.size < w1.heap.size := by omega
  have cR0 : w1.cell? ⟨w.heap.size + 1, 0, none⟩ = some (.int .i64 0) := cell_later hc (by simp [go_sem])
  have fR0 : w1.frozen? ⟨w.heap.size + 1, 0, none⟩ = false := (hc.frozen (p := ⟨w.heap.size + 1, 0, none⟩) (by first | (simp; done) | (simp; omega))).trans (by simp [go_sem])
  have cR1 : w1.cell? ⟨w.heap.size + 1, 1, none⟩ = some (.int .i64 0) := cell_later hc (by simp [go_sem])
  have fR1 : w1.frozen? ⟨w.heap.size + 1, 1, none⟩ = false := (hc.frozen (p := ⟨w.heap.size + 1, 1, none⟩) (by first | (simp; done) | (simp; omega))).trans (by simp [go_sem])
  have cR2 : w1.cell? ⟨w.heap.size + 1, 2, none⟩ = some (.bool false) := cell_later hc (by simp [go_sem])
  have fR2 : w1.frozen? ⟨w.heap.size + 1, 2, none⟩ = false := (hc.frozen (p := ⟨w.heap.size + 1, 2, none⟩) (by first | (simp; done) | (simp; omega))).trans (by simp [go_sem])
  have cR3 : w1.cell? ⟨w.heap.size + 1, 3, none⟩ = some (.int .i64 0) := cell_later hc (by simp [go_sem])
  have fR3 : w1.frozen? ⟨w.heap.size + 1, 3, none⟩ = false := (hc.frozen (p := ⟨w.heap.size + 1, 3, none⟩) (by first | (simp; done) | (simp; omega))).trans (by simp [go_sem])
  have cR4 : w1.cell? ⟨w.heap.size + 1, 4, none⟩ = some (.int .i64 0) := cell_later hc (by simp [go_sem])
  have fR4 : w1.frozen? ⟨w.heap.size + 1, 4, none⟩ = false := (hc.frozen (p := ⟨w.heap.size + 1, 4, none⟩) (by first | (simp; done) | (simp; omega))).trans (by simp [go_sem])
  have cR5 : w1.cell? ⟨w.heap.size + 1, 5, none⟩ = some (.int .i64 0) := cell_later hc (by simp [go_sem])
  have fR5 : w1.frozen? ⟨w.heap.size + 1, 5, none⟩ = false := (hc.frozen (p := ⟨w.heap.size + 1, 5, none⟩) (by first | (simp; done) | (simp; omega))).trans (by simp [go_sem])
  have cR6 : w1.cell? ⟨w.heap.size + 1, 6, none⟩ = some (.string ⟨#[]⟩) := cell_later hc (by simp [go_sem])
  have fR6 : w1.frozen? ⟨w.heap.size + 1, 6, none⟩ = false := (hc.frozen (p := ⟨w.heap.size + 1, 6, none⟩) (by first | (simp; done) | (simp; omega))).trans (by simp [go_sem])
  have cR7 : w1.cell? ⟨w.heap.size + 1, 7, none⟩ = some (.string ⟨#[]⟩) := cell_later hc (by simp [go_sem])
  have fR7 : w1.frozen? ⟨w.heap.size + 1, 7, none⟩ = false := (hc.frozen (p := ⟨w.heap.size + 1, 7, none⟩) (by first | (simp; done) | (simp; omega))).trans (by simp [go_sem])
  have cR8 : w1.cell? ⟨w.heap.size + 1, 8, none⟩ = some (.slice none 0 0) := cell_later hc (by simp [go_sem])
  have fR8 : w1.frozen? ⟨w.heap.size + 1, 8, none⟩ = false := (hc.frozen (p := ⟨w.heap.size + 1, 8, none⟩) (by first | (simp; done) | (simp; omega))).trans (by simp [go_sem])
  have cR9 : w1.cell? ⟨w.heap.size + 1, 9, none⟩ = some (.bool false) := cell_later hc (by simp [go_sem])
  have fR9 : w1.frozen? ⟨w.heap.size + 1, 9, none⟩ = false := (hc.frozen (p := ⟨w.heap.size + 1, 9, none⟩) (by first | (simp; done) | (simp; omega))).trans (by simp [go_sem])
  have zR : w.heap.size + 1 < w1.heap.size := by omega
  replace hb := hb.trans (bq.mono hb.size)
  clear hc bq bp hbt
  rw [hw1]
  clear hw1
  have bd : Below w1.heap.size w1 w1.drew := (Below.refl _ _).drew
  refine wp_region_held_drew (S := fun w' => Below w.heap.size w w' ∧ w'.cell? ⟨w.heap.size, 0, none⟩ = some (.int .i64 W) ∧ w'.cell? ⟨w.heap.size, 1, none⟩ = some (.bool C) ∧ w'.cell? ⟨w.heap.size, 10, none⟩ = some (.int .i64 m1) ∧ w'.cell? ⟨w.heap.size, 11, none⟩ = some (.int .i64 m2) ∧ w'.cell? ⟨w.heap.size, 12, none⟩ = some (.int .i64 m3) ∧ w'.cell? ⟨w.heap.size, 13, none⟩ = some (.int .i64 m4) ∧ w'.cell? ⟨w.heap.size, 14, none⟩ = some (.int .i64 m5) ∧ w'.cell? ⟨w.heap.size, 15, none⟩ = some (.int .i64 m6) ∧ w'.cell? ⟨w.heap.size, 16, none⟩ = some (.int .i64 m7) ∧ w'.cell? ⟨w.heap.size, 17, none⟩ = some (.bool F) ∧ w'.cell? ⟨w.heap.size, 2, none⟩ = some (.int .i64 S) ∧ w'.cell? ⟨w.heap.size, 4, none⟩ = some (.int .i64 H) ∧ w'.cell? ⟨w.heap.size, 5, none⟩ = some (.int .i64 L) ∧ w'.cell? ⟨w.heap.size, 6, none⟩ = some (.int .i64 R) ∧ w'.cell? ⟨w.heap.size, 7, none⟩ = some (.string p) ∧ w'.cell? ⟨w.heap.size, 8, none⟩ = some (.string t) ∧ w'.cell? ⟨w.heap.size, 9, none⟩ = some (.int .i64 m0)) (by kernel_rfl) ⟨(hb.trans (bd.mono hb.size)), cell_later bd cp0, cell_later bd cp1, cell_later bd cp10, cell_later bd cp11, cell_later bd cp12, cell_later bd cp13, cell_later bd cp14, cell_later bd cp15, cell_later bd cp16, cell_later bd cp17, cell_later bd cp2, cell_later bd cp4, cell_later bd cp5, cell_later bd cp6, cell_later bd cp7, cell_later bd cp8, cell_later bd cp9⟩ (fun hS => ?_)
  obtain ⟨D1, hD⟩ : ∃ D, w1.drew = D := ⟨_, rfl⟩
  rw [hD] at hS bd ⊢
  have hc := bd
  clear hD bd
  have s2 : w1.heap.size ≤ D1.heap.size := hc.size
  have bq := hc
  replace cp0 := cell_later bq cp0
  replace fp0 := (bq.frozen (p := ⟨w.heap.size, 0, none⟩) zp).trans fp0
  replace cp1 := cell_later bq cp1
  replace fp1 := (bq.frozen (p := ⟨w.heap.size, 1, none⟩) zp).trans fp1
  replace cp2 := cell_later bq cp2
  replace fp2 := (bq.frozen (p := ⟨w.heap.size, 2, none⟩) zp).trans fp2
  replace cp3 := cell_later bq cp3
  replace fp3 := (bq.frozen (p := ⟨w.heap.size, 3, none⟩) zp).trans fp3
  replace cp4 := cell_later bq cp4
  replace fp4 := (bq.frozen (p := ⟨w.heap.size, 4, none⟩) zp).trans fp4
  replace cp5 := cell_later bq cp5
  replace fp5 := (bq.frozen (p := ⟨w.heap.size, 5, none⟩) zp).trans fp5
  replace cp6 := cell_later bq cp6
  replace fp6 := (bq.frozen (p := ⟨w.heap.size, 6, none⟩) zp).trans fp6
  replace cp7 := cell_later bq cp7
  replace fp7 := (bq.frozen (p := ⟨w.heap.size, 7, none⟩) zp).trans fp7
  replace cp8 := cell_later bq cp8
  replace fp8 := (bq.frozen (p := ⟨w.heap.size, 8, none⟩) zp).trans fp8
  replace cp9 := cell_later bq cp9
  replace fp9 := (bq.frozen (p := ⟨w.heap.size, 9, none⟩) zp).trans fp9
  replace cp10 := cell_later bq cp10
  replace fp10 := (bq.frozen (p := ⟨w.heap.size, 10, none⟩) zp).trans fp10
  replace cp11 := cell_later bq cp11
  replace fp11 := (bq.frozen (p := ⟨w.heap.size, 11, none⟩) zp).trans fp11
  replace cp12 := cell_later bq cp12
  replace fp12 := (bq.frozen (p := ⟨w.heap.size, 12, none⟩) zp).trans fp12
  replace cp13 := cell_later bq cp13
  replace fp13 := (bq.frozen (p := ⟨w.heap.size, 13, none⟩) zp).trans fp13
  replace cp14 := cell_later bq cp14
  replace fp14 := (bq.frozen (p := ⟨w.heap.size, 14, none⟩) zp).trans fp14
  replace cp15 := cell_later bq cp15
  replace fp15 := (bq.frozen (p := ⟨w.heap.size, 15, none⟩) zp).trans fp15
  replace cp16 := cell_later bq cp16
  replace fp16 := (bq.frozen (p := ⟨w.heap.size, 16, none⟩) zp).trans fp16
  replace cp17 := cell_later bq cp17
  replace fp17 := (bq.frozen (p := ⟨w.heap.size, 17, none⟩) zp).trans fp17
  replace zp := Nat.lt_of_lt_of_le zp bq.size
  replace cR0 := cell_later bq cR0
  replace fR0 := (bq.frozen (p := ⟨w.heap.size + 1, 0, none⟩) zR).trans fR0
  replace cR1 := cell_later bq cR1
  replace fR1 := (bq.frozen (p := ⟨w.heap.size + 1, 1, none⟩) zR).trans fR1
  replace cR2 := cell_later bq cR2
  replace fR2 := (bq.frozen (p := ⟨w.heap.size + 1, 2, none⟩) zR).trans fR2
  replace cR3 := cell_later bq cR3
  replace fR3 := (bq.frozen (p := ⟨w.heap.size + 1, 3, none⟩) zR).trans fR3
  replace cR4 := cell_later bq cR4
  replace fR4 := (bq.frozen (p := ⟨w.heap.size + 1, 4, none⟩) zR).trans fR4
  replace cR5 := cell_later bq cR5
  replace fR5 := (bq.frozen (p := ⟨w.heap.size + 1, 5, none⟩) zR).trans fR5
  replace cR6 := cell_later bq cR6
  replace fR6 := (bq.frozen (p := ⟨w.heap.size + 1, 6, none⟩) zR).trans fR6
  replace cR7 := cell_later bq cR7
  replace fR7 := (bq.frozen (p := ⟨w.heap.size + 1, 7, none⟩) zR).trans fR7
  replace cR8 := cell_later bq cR8
  replace fR8 := (bq.frozen (p := ⟨w.heap.size + 1, 8, none⟩) zR).trans fR8
  replace cR9 := cell_later bq cR9
  replace fR9 := (bq.frozen (p := ⟨w.heap.size + 1, 9, none⟩) zR).trans fR9
  replace zR := Nat.lt_of_lt_of_le zR bq.size
  replace hb := hb.trans (bq.mono hb.size)
  clear hc bq
  refine wpAnyH_take (i := 0) (v := (.pointer (some ⟨w.heap.size, 4, none⟩))) rfl (by as_aux_lemma => kernel_rfl) (by as_aux_lemma => kernel_rfl) (by as_aux_lemma => kernel_rfl) (fun _ _ _ h => h) (Or.inl ⟨by kernel_rfl, ?_⟩) hS ?_
  · intro w hSw; (try dsimp only at hSw); go_simp
  (try simp only [Act.put, List.getElem_toArray, List.getElem_cons_zero, List.getElem_cons_succ, List.setIfInBounds_toArray, List.set_cons_zero, List.set_cons_succ])
  refine wpAnyH_take (i := 1) (v := (.int .i64 H)) rfl (by as_aux_lemma => kernel_rfl) (by as_aux_lemma => kernel_rfl) (by as_aux_lemma => kernel_rfl) (fun _ _ _ h => h) (Or.inl ⟨by kernel_rfl, ?_⟩) hS ?_
  · intro w hSw; (try dsimp only at hSw); obtain ⟨hSb, hl0, hl1, hl2, hl3, hl4, hl5, hl6, hl7, hl8, hl9, hl10, hl11, hl12, hl13, hl14, hl15, hl16⟩ := hSw; go_simp
  (try simp only [Act.put, List.getElem_toArray, List.getElem_cons_zero, List.getElem_cons_succ, List.setIfInBounds_toArray, List.set_cons_zero, List.set_cons_succ])
  refine wpAnyH_take (i := 2) (v := (.pointer (some ⟨w.heap.size, 0, none⟩))) rfl (by as_aux_lemma => kernel_rfl) (by as_aux_lemma => kernel_rfl) (by as_aux_lemma => kernel_rfl) (fun _ _ _ h => h) (Or.inl ⟨by kernel_rfl, ?_⟩) hS ?_
  · intro w hSw; (try dsimp only at hSw); go_simp
  (try simp only [Act.put, List.getElem_toArray, List.getElem_cons_zero, List.getElem_cons_succ, List.setIfInBounds_toArray, List.set_cons_zero, List.set_cons_succ])
  refine wpAnyH_take (i := 3) (v := (.agg #[.int .i64 W, .bool C, .int .i64 S])) rfl (by as_aux_lemma => kernel_rfl) (by as_aux_lemma => kernel_rfl) (by as_aux_lemma => kernel_rfl) (fun _ _ _ h => h) (Or.inl ⟨by kernel_rfl, ?_⟩) hS ?_
  · intro w hSw; (try dsimp only at hSw); obtain ⟨hSb, hl0, hl1, hl2, hl3, hl4, hl5, hl6, hl7, hl8, hl9, hl10, hl11, hl12, hl13, hl14, hl15, hl16⟩ := hSw; go_simp
  (try simp only [Act.put, List.getElem_toArray, List.getElem_cons_zero, List.getElem_cons_succ, List.setIfInBounds_toArray, List.set_cons_zero, List.set_cons_succ])
  refine wpAnyH_take (i := 4) (v := (.pointer (some ⟨w.heap.size, 5, none⟩))) rfl (by as_aux_lemma => kernel_rfl) (by as_aux_lemma => kernel_rfl) (by as_aux_lemma => kernel_rfl) (fun _ _ _ h => h) (Or.inl ⟨by kernel_rfl, ?_⟩) hS ?_
  · intro w hSw; (try dsimp only at hSw); go_simp
  (try simp only [Act.put, List.getElem_toArray, List.getElem_cons_zero, List.getElem_cons_succ, List.setIfInBounds_toArray, List.set_cons_zero, List.set_cons_succ])
  refine wpAnyH_take (i := 5) (v := (.agg #[.int .i64 L, .int .i64 R])) rfl (by as_aux_lemma => kernel_rfl) (by as_aux_lemma => kernel_rfl) (by as_aux_lemma => kernel_rfl) (fun _ _ _ h => h) (Or.inl ⟨by kernel_rfl, ?_⟩) hS ?_
  · intro w hSw; (try dsimp only at hSw); obtain ⟨hSb, hl0, hl1, hl2, hl3, hl4, hl5, hl6, hl7, hl8, hl9, hl10, hl11, hl12, hl13, hl14, hl15, hl16⟩ := hSw; go_simp
  (try simp only [Act.put, List.getElem_toArray, List.getElem_cons_zero, List.getElem_cons_succ, List.setIfInBounds_toArray, List.set_cons_zero, List.set_cons_succ])
  refine wpAnyH_take (i := 6) (v := (.pointer (some ⟨w.heap.size, 7, none⟩))) rfl (by as_aux_lemma => kernel_rfl) (by as_aux_lemma => kernel_rfl) (by as_aux_lemma => kernel_rfl) (fun _ _ _ h => h) (Or.inl ⟨by kernel_rfl, ?_⟩) hS ?_
  · intro w hSw; (try dsimp only at hSw); go_simp
  (try simp only [Act.put, List.getElem_toArray, List.getElem_cons_zero, List.getElem_cons_succ, List.setIfInBounds_toArray, List.set_cons_zero, List.set_cons_succ])
  refine wpAnyH_take (i := 7) (v := (.string p)) rfl (by as_aux_lemma => kernel_rfl) (by as_aux_lemma => kernel_rfl) (by as_aux_lemma => kernel_rfl) (fun _ _ _ h => h) (Or.inl ⟨by kernel_rfl, ?_⟩) hS ?_
  · intro w hSw; (try dsimp only at hSw); obtain ⟨hSb, hl0, hl1, hl2, hl3, hl4, hl5, hl6, hl7, hl8, hl9, hl10, hl11, hl12, hl13, hl14, hl15, hl16⟩ := hSw; go_simp
  (try simp only [Act.put, List.getElem_toArray, List.getElem_cons_zero, List.getElem_cons_succ, List.setIfInBounds_toArray, List.set_cons_zero, List.set_cons_succ])
  refine wpAnyH_take (i := 8) (v := (.pointer (some ⟨w.heap.size, 8, none⟩))) rfl (by as_aux_lemma => kernel_rfl) (by as_aux_lemma => kernel_rfl) (by as_aux_lemma => kernel_rfl) (fun _ _ _ h => h) (Or.inl ⟨by kernel_rfl, ?_⟩) hS ?_
  · intro w hSw; (try dsimp only at hSw); go_simp
  (try simp only [Act.put, List.getElem_toArray, List.getElem_cons_zero, List.getElem_cons_succ, List.setIfInBounds_toArray, List.set_cons_zero, List.set_cons_succ])
  refine wpAnyH_take (i := 9) (v := (.string t)) rfl (by as_aux_lemma => kernel_rfl) (by as_aux_lemma => kernel_rfl) (by as_aux_lemma => kernel_rfl) (fun _ _ _ h => h) (Or.inl ⟨by kernel_rfl, ?_⟩) hS ?_
  · intro w hSw; (try dsimp only at hSw); obtain ⟨hSb, hl0, hl1, hl2, hl3, hl4, hl5, hl6, hl7, hl8, hl9, hl10, hl11, hl12, hl13, hl14, hl15, hl16⟩ := hSw; go_simp
  (try simp only [Act.put, List.getElem_toArray, List.getElem_cons_zero, List.getElem_cons_succ, List.setIfInBounds_toArray, List.set_cons_zero, List.set_cons_succ])
  refine wpAnyH_take (i := 10) (v := (.pointer (some ⟨w.heap.size, 9, none⟩))) rfl (by as_aux_lemma => kernel_rfl) (by as_aux_lemma => kernel_rfl) (by as_aux_lemma => kernel_rfl) (fun _ _ _ h => h) (Or.inl ⟨by kernel_rfl, ?_⟩) hS ?_
  · intro w hSw; (try dsimp only at hSw); go_simp
  (try simp only [Act.put, List.getElem_toArray, List.getElem_cons_zero, List.getElem_cons_succ, List.setIfInBounds_toArray, List.set_cons_zero, List.set_cons_succ])
  refine wpAnyH_take (i := 11) (v := (.slice (some ⟨w.heap.size, 9, none⟩) 4 4)) rfl (by as_aux_lemma => kernel_rfl) (by as_aux_lemma => kernel_rfl) (by as_aux_lemma => kernel_rfl) (fun _ _ _ h => h) (Or.inl ⟨by kernel_rfl, ?_⟩) hS ?_
  · intro w hSw; (try dsimp only at hSw); obtain ⟨hSb, hl0, hl1, hl2, hl3, hl4, hl5, hl6, hl7, hl8, hl9, hl10, hl11, hl12, hl13, hl14, hl15, hl16⟩ := hSw; go_simp
  (try simp only [Act.put, List.getElem_toArray, List.getElem_cons_zero, List.getElem_cons_succ, List.setIfInBounds_toArray, List.set_cons_zero, List.set_cons_succ])
  refine wpAnyH_take (i := 12) (v := (.pointer (some ⟨w.heap.size, 17, none⟩))) rfl (by as_aux_lemma => kernel_rfl) (by as_aux_lemma => kernel_rfl) (by as_aux_lemma => kernel_rfl) (fun _ _ _ h => h) (Or.inl ⟨by kernel_rfl, ?_⟩) hS ?_
  · intro w hSw; (try dsimp only at hSw); go_simp
  (try simp only [Act.put, List.getElem_toArray, List.getElem_cons_zero, List.getElem_cons_succ, List.setIfInBounds_toArray, List.set_cons_zero, List.set_cons_succ])
  refine wpAnyH_take (i := 13) (v := (.bool F)) rfl (by as_aux_lemma => kernel_rfl) (by as_aux_lemma => kernel_rfl) (by as_aux_lemma => kernel_rfl) (fun _ _ _ h => h) (Or.inl ⟨by kernel_rfl, ?_⟩) hS ?_
  · intro w hSw; (try dsimp only at hSw); obtain ⟨hSb, hl0, hl1, hl2, hl3, hl4, hl5, hl6, hl7, hl8, hl9, hl10, hl11, hl12, hl13, hl14, hl15, hl16⟩ := hSw; go_simp
  (try simp only [Act.put, List.getElem_toArray, List.getElem_cons_zero, List.getElem_cons_succ, List.setIfInBounds_toArray, List.set_cons_zero, List.set_cons_succ])
  refine wpAnyH_take (i := 14) (v := (.agg #[.int .i64 H, .int .i64 W, .bool C, .int .i64 S, .int .i64 L, .int .i64 R, .string p, .string t, .slice (some ⟨w.heap.size, 9, none⟩) 4 4, .bool F])) rfl (by as_aux_lemma => kernel_rfl) (by as_aux_lemma => kernel_rfl) (by as_aux_lemma => kernel_rfl) (fun _ _ _ h => h) (Or.inl ⟨by kernel_rfl, ?_⟩) hS ?_
  · intro w hSw; (try dsimp only at hSw); go_simp
  (try simp only [Act.put, List.getElem_toArray, List.getElem_cons_zero, List.getElem_cons_succ, List.setIfInBounds_toArray, List.set_cons_zero, List.set_cons_succ])
  refine wpAnyH_ready (rs := [15]) (by as_aux_lemma => kernel_rfl) (by simp) ?_
  refine AllReadyH.cons rfl (fun K hK => ?_) AllReadyH.nil
  go_simp
  refine hK.out _ _ (⟨((((((((((hb.setCell (by first | omega | (simp; omega) | simp) _).setCell (by first | omega | (simp; omega) | simp) _).setCell (by first | omega | (simp; omega) | simp) _).setCell (by first | omega | (simp; omega) | simp) _).setCell (by first | omega | (simp; omega) | simp) _).setCell (by first | omega | (simp; omega) | simp) _).setCell (by first | omega | (simp; omega) | simp) _).setCell (by first | omega | (simp; omega) | simp) _).setCell (by first | omega | (simp; omega) | simp) _).setCell (by first | omega | (simp; omega) | simp) _), (cell_set1 (cell_set1 (cell_set1 (cell_set1 (cell_set1 (cell_set1 (cell_set1 (cell_set1 (cell_set1 (cell_set1 cp0 (by omega)) (by omega)) (by omega)) (by omega)) (by omega)) (by omega)) (by omega)) (by omega)) (by omega)) (by omega)), (cell_set1 (cell_set1 (cell_set1 (cell_set1 (cell_set1 (cell_set1 (cell_set1 (cell_set1 (cell_set1 (cell_set1 cp1 (by omega)) (by omega)) (by omega)) (by omega)) (by omega)) (by omega)) (by omega)) (by omega)) (by omega)) (by omega)), (cell_set1 (cell_set1 (cell_set1 (cell_set1 (cell_set1 (cell_set1 (cell_set1 (cell_set1 (cell_set1 (cell_set1 cp10 (by omega)) (by omega)) (by omega)) (by omega)) (by omega)) (by omega)) (by omega)) (by omega)) (by omega)) (by omega)), (cell_set1 (cell_set1 (cell_set1 (cell_set1 (cell_set1 (cell_set1 (cell_set1 (cell_set1 (cell_set1 (cell_set1 cp11 (by omega)) (by omega)) (by omega)) (by omega)) (by omega)) (by omega)) (by omega)) (by omega)) (by omega)) (by omega)), (cell_set1 (cell_set1 (cell_set1 (cell_set1 (cell_set1 (cell_set1 (cell_set1 (cell_set1 (cell_set1 (cell_set1 cp12 (by omega)) (by omega)) (by omega)) (by omega)) (by omega)) (by omega)) (by omega)) (by omega)) (by omega)) (by omega)), (cell_set1 (cell_set1 (cell_set1 (cell_set1 (cell_set1 (cell_set1 (cell_set1 (cell_set1 (cell_set1 (cell_set1 cp13 (by omega)) (by omega)) (by omega)) (by omega)) (by omega)) (by omega)) (by omega)) (by omega)) (by omega)) (by omega)), (cell_set1 (cell_set1 (cell_set1 (cell_set1 (cell_set1 (cell_set1 (cell_set1 (cell_set1 (cell_set1 (cell_set1 cp14 (by omega)) (by omega)) (by omega)) (by omega)) (by omega)) (by omega)) (by omega)) (by omega)) (by omega)) (by omega)), (cell_set1 (cell_set1 (cell_set1 (cell_set1 (cell_set1 (cell_set1 (cell_set1 (cell_set1 (cell_set1 (cell_set1 cp15 (by omega)) (by omega)) (by omega)) (by omega)) (by omega)) (by omega)) (by omega)) (by omega)) (by omega)) (by omega)), (cell_set1 (cell_set1 (cell_set1 (cell_set1 (cell_set1 (cell_set1 (cell_set1 (cell_set1 (cell_set1 (cell_set1 cp16 (by omega)) (by omega)) (by omega)) (by omega)) (by omega)) (by omega)) (by omega)) (by omega)) (by omega)) (by omega)), (cell_set1 (cell_set1 (cell_set1 (cell_set1 (cell_set1 (cell_set1 (cell_set1 (cell_set1 (cell_set1 (cell_set1 cp17 (by omega)) (by omega)) (by omega)) (by omega)) (by omega)) (by omega)) (by omega)) (by omega)) (by omega)) (by omega)), (cell_set1 (cell_set1 (cell_set1 (cell_set1 (cell_set1 (cell_set1 (cell_set1 (cell_set1 (cell_set1 (cell_set1 cp2 (by omega)) (by omega)) (by omega)) (by omega)) (by omega)) (by omega)) (by omega)) (by omega)) (by omega)) (by omega)), (cell_set1 (cell_set1 (cell_set1 (cell_set1 (cell_set1 (cell_set1 (cell_set1 (cell_set1 (cell_set1 (cell_set1 cp4 (by omega)) (by omega)) (by omega)) (by omega)) (by omega)) (by omega)) (by omega)) (by omega)) (by omega)) (by omega)), (cell_set1 (cell_set1 (cell_set1 (cell_set1 (cell_set1 (cell_set1 (cell_set1 (cell_set1 (cell_set1 (cell_set1 cp5 (by omega)) (by omega)) (by omega)) (by omega)) (by omega)) (by omega)) (by omega)) (by omega)) (by omega)) (by omega)), (cell_set1 (cell_set1 (cell_set1 (cell_set1 (cell_set1 (cell_set1 (cell_set1 (cell_set1 (cell_set1 (cell_set1 cp6 (by omega)) (by omega)) (by omega)) (by omega)) (by omega)) (by omega)) (by omega)) (by omega)) (by omega)) (by omega)), (cell_set1 (cell_set1 (cell_set1 (cell_set1 (cell_set1 (cell_set1 (cell_set1 (cell_set1 (cell_set1 (cell_set1 cp7 (by omega)) (by omega)) (by omega)) (by omega)) (by omega)) (by omega)) (by omega)) (by omega)) (by omega)) (by omega)), (cell_set1 (cell_set1 (cell_set1 (cell_set1 (cell_set1 (cell_set1 (cell_set1 (cell_set1 (cell_set1 (cell_set1 cp8 (by omega)) (by omega)) (by omega)) (by omega)) (by omega)) (by omega)) (by omega)) (by omega)) (by omega)) (by omega)), (cell_set1 (cell_set1 (cell_set1 (cell_set1 (cell_set1 (cell_set1 (cell_set1 (cell_set1 (cell_set1 (cell_set1 cp9 (by omega)) (by omega)) (by omega)) (by omega)) (by omega)) (by omega)) (by omega)) (by omega)) (by omega)) (by omega))⟩) (fun hS => ?_)
  clear hK K
  (try simp only [Act.put, List.getElem_toArray, List.getElem_cons_zero, List.getElem_cons_succ, List.setIfInBounds_toArray, List.set_cons_zero, List.set_cons_succ])
  refine wpAnyH_done (by kernel_rfl) ?_ _
  clear hS
  have hrow := rowP_four (lo := w.heap.size) (hi := w.heap.size + 1) (Nat.le_refl _) (by omega) zp cp9 cp10 cp11 cp12 cp13 cp14 cp15 cp16 fp9 fp10 fp11 fp12 fp13 fp14 fp15 fp16
  have hrow2 := ((((((((((hrow.setB (B := w.heap.size + 1) (by omega) 0 (.int .i64 H)).setB (B := w.heap.size + 1) (by omega) 1 (.int .i64 W)).setB (B := w.heap.size + 1) (by omega) 2 (.bool C)).setB (B := w.heap.size + 1) (by omega) 3 (.int .i64 S)).setB (B := w.heap.size + 1) (by omega) 4 (.int .i64 L)).setB (B := w.heap.size + 1) (by omega) 5 (.int .i64 R)).setB (B := w.heap.size + 1) (by omega) 6 (.string p)).setB (B := w.heap.size + 1) (by omega) 7 (.string t)).setB (B := w.heap.size + 1) (by omega) 8 (.slice (some ⟨w.heap.size, 9, none⟩) 4 4)).setB (B := w.heap.size + 1) (by omega) 9 (.bool F))
  have hsz2 := zR
  go_wp2
  exact bodyPost_ret (v := .agg #[.int .i64 H, .int .i64 W, .bool C, .int .i64 S, .int .i64 L, .int .i64 R, .string p, .string t, .slice (some ⟨w.heap.size, 9, none⟩) 4 4, .bool F]) (by simp [results, Try.results60, go_sem, cR0, cR1, cR2, cR3, cR4, cR5, cR6, cR7, cR8, cR9]) rfl ⟨_, rfl, RowP.mono hrow2 (Nat.le_refl _) (by simp; omega), ((((((((((hb.setCell (by first | omega | (simp; omega) | simp) _).setCell (by first | omega | (simp; omega) | simp) _).setCell (by first | omega | (simp; omega) | simp) _).setCell (by first | omega | (simp; omega) | simp) _).setCell (by first | omega | (simp; omega) | simp) _).setCell (by first | omega | (simp; omega) | simp) _).setCell (by first | omega | (simp; omega) | simp) _).setCell (by first | omega | (simp; omega) | simp) _).setCell (by first | omega | (simp; omega) | simp) _).setCell (by first | omega | (simp; omega) | simp) _)⟩

end Go.Proofs.Ytjgmkcmlkffjlaa
