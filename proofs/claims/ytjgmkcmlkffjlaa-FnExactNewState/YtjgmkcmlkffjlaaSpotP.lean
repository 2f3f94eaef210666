/-
  Spots in the midst of a block; equality, marks of states.
-/
import Derived.Test.YtjgmkcmlkffjlaaHlpO
import Derived.Test.YtjgmkcmlkffjlaaLinesM
import Derived.Test.YtjgmkcmlkffjlaaBox
import Derived.Test.YtjgmkcmlkffjlaaChg
import Derived.Deep.RegionWith
namespace Go.Proofs.Ytjgmkcmlkffjlaa
open Go.RowKit
set_option linter.unusedVariables false
set_option linter.unusedSimpArgs false

/-- Spots that lie within a block, wherever they begin. -/
def RowP (w : World) (lo hi : Nat) (v : Value) (n : Nat) (xs : List L2) : Prop :=
  xs.length = n ∧ ((v = .slice none 0 0 ∧ n = 0) ∨ ∃ g off cap, v = .slice (some ⟨g, off, none⟩) n cap ∧ n ≤ cap ∧ cap ≤ maxLen ∧ lo ≤ g ∧ g < hi ∧ g < w.heap.size ∧
    ∀ j x, xs[j]? = some x → w.cell? ⟨g, off + j * 2, none⟩ = some (.int .i64 x.1) ∧ w.cell? ⟨g, off + j * 2 + 1, none⟩ = some (.int .i64 x.2) ∧ w.frozen? ⟨g, off + j * 2, none⟩ = false ∧ w.frozen? ⟨g, off + j * 2 + 1, none⟩ = false)

section
variable {w w' : World} {lo hi n : Nat} {v : Value} {xs : List L2}
theorem RowP.chg {lo' hi' : Nat} (h : RowP w lo hi v n xs) (hc : Chg lo' hi' w w') (hd : hi ≤ lo' ∨ hi' ≤ lo) : RowP w' lo hi v n xs := by
  obtain ⟨h0, h1 | ⟨g, off, cap, h1, h2, h3, h4, h5, h6, h7⟩⟩ := h
  · exact ⟨h0, .inl h1⟩
  · refine ⟨h0, .inr ⟨g, off, cap, h1, h2, h3, h4, h5, Nat.lt_of_lt_of_le h6 hc.size, fun j x hx => ?_⟩⟩
    obtain ⟨a, b, c, d⟩ := h7 j x hx
    exact ⟨hc.at a h6 (by omega), hc.at b h6 (by omega), hc.fr c h6 (by omega), hc.fr d h6 (by omega)⟩
theorem RowP.below (h : RowP w lo hi v n xs) (hb : Below w.heap.size w w') : RowP w' lo hi v n xs := by
  obtain ⟨h0, h1 | ⟨g, off, cap, h1, h2, h3, h4, h5, h6, h7⟩⟩ := h
  · exact ⟨h0, .inl h1⟩
  · refine ⟨h0, .inr ⟨g, off, cap, h1, h2, h3, h4, h5, Nat.lt_of_lt_of_le h6 hb.size, fun j x hx => ?_⟩⟩
    obtain ⟨a, b, c, d⟩ := h7 j x hx
    exact ⟨cell_later hb a, cell_later hb b, (hb.frozen (p := ⟨g, _, none⟩) h6).trans c, (hb.frozen (p := ⟨g, _, none⟩) h6).trans d⟩
theorem RowP.mono {lo' hi' : Nat} (h : RowP w lo hi v n xs) (h1 : lo' ≤ lo) (h2 : hi ≤ hi') : RowP w lo' hi' v n xs := by
  obtain ⟨h0, h3 | ⟨g, off, cap, q1, q2, q3, q4, q5, q6⟩⟩ := h
  · exact ⟨h0, .inl h3⟩
  · exact ⟨h0, .inr ⟨g, off, cap, q1, q2, q3, by omega, by omega, q6⟩⟩
theorem RowP.setB {B : Nat} (h : RowP w lo hi v n xs) (hb : B < lo ∨ hi ≤ B) (i : Nat) (u : Value) : RowP (w.setCell ⟨B, i, none⟩ u) lo hi v n xs :=
  h.chg (Chg.one (set_grown w B i u)) (by omega)
theorem RowP.shape (h : RowP w lo hi v n xs) : ∃ a cap, v = .slice a n cap := by
  obtain ⟨h0, ⟨h1, h2⟩ | ⟨g, off, cap, h1, h2⟩⟩ := h
  · subst h2; exact ⟨_, _, h1⟩
  · exact ⟨_, _, h1⟩
theorem RowP.len (h : RowP w lo hi v n xs) : xs.length = n := h.1
theorem RowP.read {a : Option Addr} {c : Nat} (h : RowP w lo hi (.slice a n c) n xs) : RdR lineE 2 w a n xs := by
  obtain ⟨h0, ⟨h1, h2⟩ | ⟨g, off, cap, h1, h2, h3, h4, h5, h6, h7⟩⟩ := h
  · exact ⟨h0, .inl h2⟩
  · simp only [Value.slice.injEq] at h1
    refine ⟨h0, .inr ⟨g, off, h1.1, fun j x hx f u hu => ?_⟩⟩
    obtain ⟨c1, c2, -, -⟩ := h7 j x hx
    match f, hu with
    | 0, hu => rw [Nat.add_zero, c1]; simpa [lineE] using hu
    | 1, hu => rw [c2]; simpa [lineE] using hu
    | f + 2, hu => simp [lineE] at hu
end

/-- two stores: a spot is another one -/
theorem RowP.store {w : World} {lo hi g off cap n j : Nat} {xs : List L2} (h : RowP w lo hi (.slice (some ⟨g, off, none⟩) n cap) n xs) (hj : j < n) (a b : Int) :
    RowP ((w.setCell ⟨g, off + j * 2, none⟩ (.int .i64 a)).setCell ⟨g, off + j * 2 + 1, none⟩ (.int .i64 b)) lo hi (.slice (some ⟨g, off, none⟩) n cap) n (xs.set j (a, b)) ∧
      Chg lo hi w ((w.setCell ⟨g, off + j * 2, none⟩ (.int .i64 a)).setCell ⟨g, off + j * 2 + 1, none⟩ (.int .i64 b)) := by
  obtain ⟨h0, ⟨h1, h2⟩ | ⟨g', off', cap', h1, h2, h3, h4, h5, h6, h7⟩⟩ := h
  · omega
  · simp only [Value.slice.injEq, Option.some.injEq, Addr.mk.injEq] at h1
    obtain ⟨⟨rfl, rfl, -⟩, -, rfl⟩ := h1
    refine ⟨⟨by rw [List.length_set]; exact h0, .inr ⟨g, off, cap, rfl, h2, h3, h4, h5, by simpa using h6, fun i x hx => ?_⟩⟩, ?_⟩
    · have ne : ∀ p q : Nat, p ≠ q → (⟨g, p, none⟩ : Addr) ≠ ⟨g, q, none⟩ := fun p q hpq he => hpq (congrArg Addr.off he)
      have oth : ∀ (W : World) (p q : Nat) (u : Value), p ≠ q → (W.setCell ⟨g, p, none⟩ u).cell? ⟨g, q, none⟩ = W.cell? ⟨g, q, none⟩ := fun W p q u hpq => by first | exact World.cell?_setCell_other _ _ (ne p q hpq) | exact World.cell?_setCell_other _ _ _ _ (ne p q hpq) | exact World.cell?_setCell_other _ _ _ (ne p q hpq)
      have same : ∀ (W : World) (p : Nat) (u z : Value), W.cell? ⟨g, p, none⟩ = some z → (W.setCell ⟨g, p, none⟩ u).cell? ⟨g, p, none⟩ = some u := fun W p u z hz => by first | exact World.cell?_setCell_same _ _ hz | exact World.cell?_setCell_same _ _ _ hz
      by_cases hij : j = i
      · subst hij
        rw [List.getElem?_set_self (by omega)] at hx
        obtain rfl := Option.some.inj hx
        obtain ⟨c1, c2, c3, c4⟩ := h7 j _ (List.getElem?_eq_getElem (show j < xs.length by omega))
        refine ⟨?_, ?_, by simpa using c3, by simpa using c4⟩
        · rw [oth _ (off + j * 2 + 1) (off + j * 2) _ (by omega)]
          exact same _ _ _ _ c1
        · exact same _ _ _ _ (by rw [oth _ (off + j * 2) (off + j * 2 + 1) _ (by omega)]; exact c2)
      · rw [List.getElem?_set_ne hij] at hx
        obtain ⟨c1, c2, c3, c4⟩ := h7 i x hx
        refine ⟨?_, ?_, by simpa using c3, by simpa using c4⟩
        · rw [oth _ (off + j * 2 + 1) (off + i * 2) _ (by omega), oth _ (off + j * 2) (off + i * 2) _ (by omega)]; exact c1
        · rw [oth _ (off + j * 2 + 1) (off + i * 2 + 1) _ (by omega), oth _ (off + j * 2) (off + i * 2 + 1) _ (by omega)]; exact c2
    · exact ((Chg.one (set_grown w g _ _)).trans (Chg.one (set_grown _ g _ _))).mono h4 (by omega)

theorem mkS_len (k : Int) (n : Nat) : (mkL k n).length = n := by simp [mkL]

/-- The twoS cells of an element. -/
theorem twoS {w : World} {b off : Nat} {c : L2} (h : ∀ f v, (lineE c)[f]? = some v → w.cell? ⟨b, off + f, none⟩ = some v) :
    w.cell? ⟨b, off, none⟩ = some (.int .i64 c.1) ∧ w.cell? ⟨b, off + 1, none⟩ = some (.int .i64 c.2) :=
  ⟨h 0 _ rfl, h 1 _ rfl⟩

set_option maxHeartbeats 800000 in
theorem eqSpotS_yes (a b : Option Addr) (n ca cb : Nat) (cs : List L2) (w : World) (ha : RdR lineE 2 w a n cs) (hb : RdR lineE 2 w b n cs) (h1 : n ≤ 1073741824) :
    Calls Try.prog 95 #[.slice a n ca, .slice b n cb] w fun e w' => e = .returned (.bool true) ∧ Below w.heap.size w w' := by
  go_enter Try.func95, Try.ntmps95
  go_wp2
  go_loopw [5] (fun i wr => ∃ k : Nat, k ≤ n ∧ i = .int .i64 k ∧ Below w.heap.size w wr) (fun i _ => n - (intOf i).toNat)
  case atStart => exact ⟨0, Nat.zero_le _, rfl, Below.refl _ _⟩
  case round =>
    obtain ⟨k, hk, rfl, hbw⟩ := hrel
    by_cases hlt : k < n
    · obtain ⟨b1, o1, c, rfl, hx, hc1⟩ := (ha.below hbw).at hlt
      obtain ⟨b2, o2, c', rfl, hx', hc2⟩ := (hb.below hbw).at hlt
      obtain rfl : c = c' := by rw [hx] at hx'; simpa using hx'
      obtain ⟨c0, c1⟩ := twoS hc1
      obtain ⟨e0, e1⟩ := twoS hc2
      clear hx hx' hc1 hc2
      obtain ⟨x, y⟩ := c
      simp only at c0 c1 e0 e1
      have hlt' : (k : Int) < (n : Int) := by omega
      go_wp2
      go_region_with (go_at_call 56; refine (eqSpot_yes x y _).mono ?_; rintro e w2 ⟨rfl, hb2⟩)
      all_goals
        go_wp2
        go_roundw
        case rel => exact ⟨k + 1, by omega, by go_num, hbw.drew.trans (hb2.mono hbw.size)⟩
        case measure => simp [intOf]; omega
    · go_wp2
      go_ret
      exact ⟨rfl, hbw⟩

theorem markS_set (cs : List L2) (x0 : Int) (n k : Nat) (h : cs.length = n) (hk : k < n) (c : L2) :
    ((mkL x0 k ++ cs.drop k).set k (x0 + 2 * (k : Int), x0 + 2 * (k : Int) + 1)) = mkL x0 (k + 1) ++ cs.drop (k + 1) := by
  rw [List.drop_eq_getElem_cons (show k < cs.length by omega), set_mid _ _ (mkS_len _ _), mkL_succ]

set_option maxHeartbeats 1600000 in
theorem markSpotS_p (v : Value) (n lo hi : Nat) (cs : List L2) (x0 : Int) (w : World) (hown : RowP w lo hi v n cs) (h1 : n ≤ 107374182) (h2 : 0 ≤ x0) (h3 : x0 ≤ 1073741824) :
    Calls Try.prog 96 #[v, .int .i64 x0] w fun e w' => e = .returned (.int .i64 (x0 + 2 * n)) ∧ RowP w' lo hi v n (mkL x0 n) ∧ Chg lo hi w w' := by
  have hlen := hown.1
  rcases hown.2 with ⟨rfl, rfl⟩ | ⟨g, off, cap, rfl, -⟩
  · have hx : cs = [] := List.eq_nil_of_length_eq_zero hlen
    subst hx
    go_enter Try.func96, Try.ntmps96
    go_wp2
    refine wp_loop_rounds 1 ?_
    rw [rounds_succ]
    go_wp2
    go_ret
    exact ⟨by simp, by simpa [mkL] using hown, Chg.refl _ _ _⟩
  · go_enter Try.func96, Try.ntmps96
    go_wp2
    go_loopw [1, 5] (fun x i wr => ∃ k : Nat, k ≤ n ∧ i = .int .i64 k ∧ x = .int .i64 (x0 + 2 * k) ∧ Hid (RowP wr lo hi (.slice (some ⟨g, off, none⟩) n cap) n (mkL x0 k ++ cs.drop k)) ∧ Chg lo hi w wr) (fun _ i _ => n - (intOf i).toNat)
    case atStart => exact ⟨0, Nat.zero_le _, rfl, by go_num, by simpa [mkL, Hid] using hown, Chg.refl _ _ _⟩
    case round =>
      obtain ⟨k, hk, rfl, rfl, ho, hg⟩ := hrel
      by_cases hlt : k < n
      · have hk' : k < cs.length := by omega
        have hold : (mkL x0 k ++ cs.drop k)[k]? = some cs[k] := by
          rw [List.getElem?_append_right (by rw [mkS_len]; omega), mkS_len, Nat.sub_self, List.drop_eq_getElem_cons hk']
          rfl
        have ho2 := ho.out
        obtain ⟨-, ⟨q1, q2⟩ | ⟨g', off', cap', e1, -, -, -, -, -, h7⟩⟩ := ho2
        · omega
        simp only [Value.slice.injEq, Option.some.injEq, Addr.mk.injEq] at e1
        obtain ⟨⟨rfl, rfl, -⟩, -, rfl⟩ := e1
        obtain ⟨d0, d1, f0, f1⟩ := h7 k _ hold
        clear h7
        generalize cs[k] = c at hold d0 d1
        have hst := ho.out.store hlt (x0 + 2 * (k : Int)) (x0 + 2 * (k : Int) + 1)
        rw [markS_set cs x0 n k hlen hlt c] at hst
        have HS : Hid _ := hst
        clear hst ho hold
        have hlt' : (k : Int) < (n : Int) := by omega
        go_wp2
        go_roundw
        case rel => exact ⟨k + 1, by omega, by go_num, by go_num, HS.out.1, hg.trans HS.out.2⟩
        case measure => simp [intOf]; omega
      · go_wp2
        go_ret
        obtain rfl : k = n := by omega
        have ho2 := ho.out
        refine ⟨rfl, ?_, hg⟩
        rw [List.drop_of_length_le (by omega), List.append_nil] at ho2
        exact ho2

set_option maxHeartbeats 800000 in
theorem heldSpotS_yes (a : Option Addr) (n ca : Nat) (x0 : Int) (w : World) (ha : RdR lineE 2 w a n (mkL x0 n)) (h1 : n ≤ 107374182) (h2 : 0 ≤ x0) (h3 : x0 ≤ 1073741824) :
    Calls Try.prog 97 #[.slice a n ca, .int .i64 x0] w fun e w' => e = .returned (.int .i64 (x0 + 2 * n)) ∧ w' = w := by
  go_enter Try.func97, Try.ntmps97
  go_wp2
  go_loop [1, 5] (fun x i => ∃ k : Nat, k ≤ n ∧ i = .int .i64 k ∧ x = .int .i64 (x0 + 2 * k)) (fun _ i => n - (intOf i).toNat)
  case atStart => exact ⟨0, Nat.zero_le _, rfl, by go_num⟩
  case round =>
    obtain ⟨k, hk, rfl, rfl⟩ := hrel
    by_cases hlt : k < n
    · obtain ⟨b1, o1, c, rfl, hx, hc1⟩ := ha.at hlt
      rw [mkL_at x0 n k hlt] at hx
      obtain rfl := (Option.some.inj hx).symm
      obtain ⟨c0, c1⟩ := twoS hc1
      simp only at c0 c1
      clear hx hc1
      have hlt' : (k : Int) < (n : Int) := by omega
      go_wp2
      go_round
      case rel => exact ⟨k + 1, by omega, by go_num, by go_num⟩
      case measure => simp [intOf]; omega
    · go_wp2
      go_ret
      obtain rfl : k = n := by omega
      exact ⟨rfl, rfl⟩

end Go.Proofs.Ytjgmkcmlkffjlaa
