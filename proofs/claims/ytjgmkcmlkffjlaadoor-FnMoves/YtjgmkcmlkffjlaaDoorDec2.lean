/-
  Contracts of the functions that read a character: the program's. What begins no character is a panic, which DecodeAt recovers.
-/
import Derived.Test.YtjgmkcmlkffjlaaDoorHlpCA
import Derived.Test.YtjgmkcmlkffjlaaDoorMath2
import Derived.Defers
import Derived.Recover
namespace Go.Proofs.YtjgmkcmlkffjlaaDoor
open Go.RowKit
set_option linter.unusedVariables false

set_option maxHeartbeats 400000 in
theorem sixBits_yes (a : Option Addr) (n ca i : Nat) (I : Int) (hI : I = (i : Int)) (xs : List Int) (w : World) (ha : Rd .u8 w a n xs) (hB : Bytes xs) (h1 : n ≤ maxLen) (h2 : i ≤ maxLen) (hm : 0 ≤ more xs i) :
    Calls Tryd.prog 83 #[.slice a n ca, .int .i64 I] w fun e w' => e = .returned (.int .u16 (more xs i)) ∧ w' = w := by
  subst hI
  unfold maxLen at h1 h2
  have hi : i < n ∧ 128 ≤ xs.getD i 0 ∧ xs.getD i 0 ≤ 191 := by
    unfold more at hm; rw [ha.1] at hm; split at hm
    · assumption
    · omega
  have e : more xs i = xs.getD i 0 - 128 := by unfold more; rw [ha.1, if_pos hi]
  rw [e]
  obtain ⟨hi, k1, k2⟩ := hi
  obtain ⟨b, o, rfl, hc⟩ := ha.at hi
  have hci := hc i hi
  clear e hc ha hB hm
  generalize xs.getD i 0 = x at *
  have e1 : (bits .and .u8 x 192 != 128) = false := by rw [and192 x (by omega) (by omega)]; simp; omega
  have e2 : bits .and .u8 x 63 = x - 128 := by rw [and63_u8 x (by omega) (by omega)]; omega
  have hi' : (i : Int) < (n : Int) := by omega
  go_enter Tryd.func83, Tryd.ntmps83
  go_wp2
  go_ret
  exact ⟨rfl, rfl⟩

set_option maxHeartbeats 400000 in
theorem sixBits_no (a : Option Addr) (n ca i : Nat) (I : Int) (hI : I = (i : Int)) (xs : List Int) (w : World) (ha : Rd .u8 w a n xs) (hB : Bytes xs) (h1 : n ≤ maxLen) (h2 : i ≤ maxLen) (hm : more xs i < 0) :
    Calls Tryd.prog 83 #[.slice a n ca, .int .i64 I] w fun e w' => (∃ u pv, e = .panicked [{ v := .iface u pv, recovered := false }]) ∧ w' = w := by
  subst hI
  unfold maxLen at h1 h2
  by_cases hi : i < n
  · obtain ⟨b, o, rfl, hc⟩ := ha.at hi
    have hci := hc i hi
    have hb := hB.at i
    have hx : ¬ (128 ≤ xs.getD i 0 ∧ xs.getD i 0 ≤ 191) := by
      intro h
      unfold more at hm; rw [ha.1, if_pos ⟨hi, h⟩] at hm; omega
    clear hc ha hB hm
    generalize xs.getD i 0 = x at *
    have e1 : (bits .and .u8 x 192 != 128) = true := by rw [and192 x hb.1 hb.2]; simp; omega
    have hi' : (i : Int) < (n : Int) := by omega
    go_enter Tryd.func83, Tryd.ntmps83
    go_wp2
    exact ⟨rfl, ⟨_, _, rfl⟩, rfl⟩
  · go_enter Tryd.func83, Tryd.ntmps83
    go_wp2
    exact ⟨rfl, ⟨_, _, rfl⟩, rfl⟩

theorem checked_yes (c l : Int) (w : World) (h0 : 0 ≤ c) (h1 : c ≤ 65535) (h2 : l ≤ c) (h3 : isCh c = true) :
    Calls Tryd.prog 82 #[.int .u16 c, .int .u16 l] w fun e w' => e = .returned (.int .u16 c) ∧ w' = w := by
  have h4 : c < 55296 ∨ 57343 < c := by simp [isCh] at h3; omega
  clear h3
  go_enter Tryd.func82, Tryd.ntmps82
  go_wp2
  all_goals (go_ret; exact ⟨rfl, rfl⟩)

theorem checked_no (c l : Int) (w : World) (h0 : 0 ≤ c) (h1 : c ≤ 65535) (h2 : c < l ∨ isCh c = false) :
    Calls Tryd.prog 82 #[.int .u16 c, .int .u16 l] w fun e w' => (∃ u pv, e = .panicked [{ v := .iface u pv, recovered := false }]) ∧ w' = w := by
  have h4 : c < l ∨ (55296 ≤ c ∧ c ≤ 57343) := by simp [isCh] at h2; omega
  clear h2
  go_enter Tryd.func82, Tryd.ntmps82
  go_wp2
  all_goals exact ⟨rfl, ⟨_, _, rfl⟩, rfl⟩

/-- What readCharacter makes of its bytes: a character, or a panic. -/
def ReadEnd (d : Int × Int) (e : Ending) : Prop :=
  if d.2 = 0 then ∃ u pv, e = .panicked [{ v := .iface u pv, recovered := false }] else e = .returned (.tuple #[.int .u16 d.1, .int .i64 d.2])
theorem ReadEnd.no {d : Int × Int} {e : Ending} (h : d.2 = 0) (he : ∃ u pv, e = .panicked [{ v := .iface u pv, recovered := false }]) : ReadEnd d e := by
  unfold ReadEnd; rw [if_pos h]; exact he
theorem ReadEnd.yes {d : Int × Int} {e : Ending} (h : ¬ d.2 = 0) (he : e = .returned (.tuple #[.int .u16 d.1, .int .i64 d.2])) : ReadEnd d e := by
  unfold ReadEnd; rw [if_neg h]; exact he

set_option maxHeartbeats 800000 in
theorem readCharacter_any (b o n ca : Nat) (xs : List Int) (w : World) (ha : Rd .u8 w (some ⟨b, o, none⟩) n xs) (hB : Bytes xs) (h1 : n ≤ 1073741824) (h2 : 0 < n) :
    Calls Tryd.prog 81 #[.slice (some ⟨b, o, none⟩) n ca] w fun e w' => ReadEnd (dec xs 0) e ∧ w' = w := by
  have hc0 : w.cell? ⟨b, o, none⟩ = some (.int .u8 (xs.getD 0 0)) := by
    obtain ⟨b', o', hbo, hc⟩ := ha.at h2
    simp only [Option.some.injEq, Addr.mk.injEq, and_true] at hbo
    obtain ⟨rfl, rfl⟩ := hbo
    exact hc 0 h2
  have hb := hB.at 0
  have Y1 : Hid (∀ w', w' = w → 0 ≤ more xs 1 → _) := fun w' (h : w' = w) hm => sixBits_yes _ n ca 1 1 rfl xs w' (h ▸ ha) hB (by unfold maxLen; omega) (by unfold maxLen; omega) hm
  have N1 : Hid (∀ w', w' = w → more xs 1 < 0 → _) := fun w' (h : w' = w) hm => sixBits_no _ n ca 1 1 rfl xs w' (h ▸ ha) hB (by unfold maxLen; omega) (by unfold maxLen; omega) hm
  have Y2 : Hid (∀ w', w' = w → 0 ≤ more xs 2 → _) := fun w' (h : w' = w) hm => sixBits_yes _ n ca 2 2 rfl xs w' (h ▸ ha) hB (by unfold maxLen; omega) (by unfold maxLen; omega) hm
  have N2 : Hid (∀ w', w' = w → more xs 2 < 0 → _) := fun w' (h : w' = w) hm => sixBits_no _ n ca 2 2 rfl xs w' (h ▸ ha) hB (by unfold maxLen; omega) (by unfold maxLen; omega) hm
  have m1 := more_bd (xs := xs) 1
  have m2 := more_bd (xs := xs) 2
  have hd : dec xs 0 = if xs.getD 0 0 < 128 then (xs.getD 0 0, 1) else if 194 ≤ xs.getD 0 0 ∧ xs.getD 0 0 < 224 ∧ 0 ≤ more xs 1 then ((xs.getD 0 0 - 192) * 64 + more xs 1, 2) else dec3 (xs.getD 0 0) (more xs 1) (more xs 2) := rfl
  rw [hd]
  clear ha hB hd
  generalize xs.getD 0 0 = z at *
  generalize more xs 1 = x at *
  generalize more xs 2 = y at *
  have h2' : (0 : Int) < (n : Int) := by omega
  obtain ⟨hb1, hb2⟩ := hb
  obtain ⟨m11, m12⟩ := m1
  obtain ⟨m21, m22⟩ := m2
  by_cases hz : z < 128
  · rw [if_pos hz]
    go_enter Tryd.func81, Tryd.ntmps81
    go_wp2_with fail
    go_ret2
    exact ⟨.yes (by simp) rfl, rfl⟩
  rw [if_neg hz]
  by_cases hz2 : 192 ≤ z ∧ z < 224
  · obtain ⟨k1, k2⟩ := hz2
    have e1 : bits .and .u16 z 31 = z - 192 := by rw [and31 z (by omega) (by omega)]; omega
    by_cases hx : 0 ≤ x
    · have e2 : bits .or .u16 ((z - 192) * 64) x = (z - 192) * 64 + x := or_join _ _ 6 (by omega) (by omega) (by omega) (by omega) (by omega) (by omega)
      have hch : isCh ((z - 192) * 64 + x) = true := by simp [isCh]; omega
      by_cases hz3 : 194 ≤ z
      · rw [if_pos ⟨hz3, k2, hx⟩]
        go_enter Tryd.func81, Tryd.ntmps81
        go_wp2_with fail
        refine Calls.mono (Y1.out _ rfl hx) ?_
        rintro e w' ⟨rfl, rfl⟩
        go_wp2_with fail
        refine Calls.mono (checked_yes _ 128 _ (by omega) (by omega) (by omega) hch) ?_
        rintro e w' ⟨rfl, rfl⟩
        go_wp2_with fail
        go_ret2
        exact ⟨.yes (by simp) rfl, rfl⟩
      · have hd3 : dec3 z x y = (0, 0) := by unfold dec3; rw [if_neg]; omega
        rw [if_neg (by omega), hd3]
        clear hd3
        go_enter Tryd.func81, Tryd.ntmps81
        go_wp2_with fail
        refine Calls.mono (Y1.out _ rfl hx) ?_
        rintro e w' ⟨rfl, rfl⟩
        go_wp2_with fail
        refine Calls.mono (checked_no _ 128 _ (by omega) (by omega) (.inl (by omega))) ?_
        rintro e w' ⟨⟨u, pv, rfl⟩, rfl⟩
        go_wp2_with fail
        exact ⟨rfl, .no rfl ⟨_, _, rfl⟩, rfl⟩
    · have hd3 : dec3 z x y = (0, 0) := by unfold dec3; rw [if_neg]; omega
      rw [if_neg (by omega), hd3]
      clear hd3
      go_enter Tryd.func81, Tryd.ntmps81
      go_wp2_with fail
      refine Calls.mono (N1.out _ rfl (by omega)) ?_
      rintro e w' ⟨⟨u, pv, rfl⟩, rfl⟩
      go_wp2_with fail
      exact ⟨rfl, .no rfl ⟨_, _, rfl⟩, rfl⟩
  rw [if_neg (by omega)]
  by_cases hz3 : 224 ≤ z ∧ z < 240
  · obtain ⟨k1, k2⟩ := hz3
    have e1 : bits .and .u16 z 15 = z - 224 := by rw [and15 z (by omega) (by omega)]; omega
    by_cases hx : 0 ≤ x
    · have e2 : bits .or .u16 ((z - 224) * 4096) (x * 64) = (z - 224) * 4096 + x * 64 := or_join _ _ 12 (by omega) (by omega) (by omega) (by omega) (by omega) (by omega)
      by_cases hy : 0 ≤ y
      · have e3 : bits .or .u16 ((z - 224) * 4096 + x * 64) y = (z - 224) * 4096 + x * 64 + y := or_join _ _ 6 (by omega) (by omega) (by omega) (by omega) (by omega) (by omega)
        by_cases hok : 2048 ≤ (z - 224) * 4096 + x * 64 + y ∧ isCh ((z - 224) * 4096 + x * 64 + y) = true
        · have hd3 : dec3 z x y = ((z - 224) * 4096 + x * 64 + y, 3) := by unfold dec3; rw [if_pos ⟨k1, k2, hx, hy, hok⟩]
          rw [hd3]
          clear hd3
          have HK : Hid _ := hok
          clear hok
          go_enter Tryd.func81, Tryd.ntmps81
          go_wp2_with fail
          refine Calls.mono (Y1.out _ rfl hx) ?_
          rintro e w' ⟨rfl, rfl⟩
          go_wp2_with fail
          refine Calls.mono (Y2.out _ rfl hy) ?_
          rintro e w' ⟨rfl, rfl⟩
          go_wp2_with fail
          refine Calls.mono (checked_yes _ 2048 _ (by omega) (by omega) HK.out.1 HK.out.2) ?_
          rintro e w' ⟨rfl, rfl⟩
          go_wp2_with fail
          go_ret2
          exact ⟨.yes (by simp) rfl, rfl⟩
        · have hd3 : dec3 z x y = (0, 0) := by unfold dec3; rw [if_neg]; exact fun h => hok h.2.2.2.2
          rw [hd3]
          clear hd3
          have HK : Hid ((z - 224) * 4096 + x * 64 + y < 2048 ∨ isCh ((z - 224) * 4096 + x * 64 + y) = false) := by
            by_cases h : (z - 224) * 4096 + x * 64 + y < 2048
            · exact .inl h
            · refine .inr ?_
              cases hq : isCh ((z - 224) * 4096 + x * 64 + y)
              · rfl
              · exact absurd ⟨by omega, hq⟩ hok
          clear hok
          go_enter Tryd.func81, Tryd.ntmps81
          go_wp2_with fail
          refine Calls.mono (Y1.out _ rfl hx) ?_
          rintro e w' ⟨rfl, rfl⟩
          go_wp2_with fail
          refine Calls.mono (Y2.out _ rfl hy) ?_
          rintro e w' ⟨rfl, rfl⟩
          go_wp2_with fail
          refine Calls.mono (checked_no _ 2048 _ (by omega) (by omega) HK.out) ?_
          rintro e w' ⟨⟨u, pv, rfl⟩, rfl⟩
          go_wp2_with fail
          exact ⟨rfl, .no rfl ⟨_, _, rfl⟩, rfl⟩
      · have hd3 : dec3 z x y = (0, 0) := by unfold dec3; rw [if_neg]; omega
        rw [hd3]
        clear hd3
        go_enter Tryd.func81, Tryd.ntmps81
        go_wp2_with fail
        refine Calls.mono (Y1.out _ rfl hx) ?_
        rintro e w' ⟨rfl, rfl⟩
        go_wp2_with fail
        refine Calls.mono (N2.out _ rfl (by omega)) ?_
        rintro e w' ⟨⟨u, pv, rfl⟩, rfl⟩
        go_wp2_with fail
        exact ⟨rfl, .no rfl ⟨_, _, rfl⟩, rfl⟩
    · have hd3 : dec3 z x y = (0, 0) := by unfold dec3; rw [if_neg]; omega
      rw [hd3]
      clear hd3
      go_enter Tryd.func81, Tryd.ntmps81
      go_wp2_with fail
      refine Calls.mono (N1.out _ rfl (by omega)) ?_
      rintro e w' ⟨⟨u, pv, rfl⟩, rfl⟩
      go_wp2_with fail
      exact ⟨rfl, .no rfl ⟨_, _, rfl⟩, rfl⟩
  have hd3 : dec3 z x y = (0, 0) := by unfold dec3; rw [if_neg]; omega
  rw [hd3]
  clear hd3
  go_enter Tryd.func81, Tryd.ntmps81
  go_wp2_with fail
  all_goals exact ⟨rfl, .no rfl ⟨_, _, rfl⟩, rfl⟩
end Go.Proofs.YtjgmkcmlkffjlaaDoor
