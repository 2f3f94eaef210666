/-
  Chapter 9: a line that has a pattern, of the specification.
-/
import Derived.Test.YtaeolofailompaaHasM
import Derived.Test.YtaeolofailompaaRun1
namespace Go.Proofs.Ytaeolofailompaa
open Go.RowKit
set_option linter.unusedVariables false
set_option linter.unusedSimpArgs false

set_option maxHeartbeats 1600000 in
theorem l9Has_any (a : Option Addr) (n ca : Nat) (is : List In) (x : Option Addr) (m cx : Nat) (xs : List Int) (hin : Inside is) (hs : inSum is ≤ 1048576) (h1 : 1 ≤ n) (h2 : n ≤ 80) (hm : m ≤ 400) (hB : Bytes xs) (w : World) (ha : RdR inE 8 w a n is) (hx : Rd .u8 w x m xs) :
    Calls Try.prog 219 #[.slice a n ca, .slice x m cx] w fun r w' => r = .returned (.bool (hasV is xs)) ∧ Below w.heap.size w w' := by
  obtain ⟨R, hR⟩ : ∃ R, R = hasV is xs := ⟨_, rfl⟩
  rw [← hR]
  have hlx := hx.1
  have HRUN := hid (fun at_ hat w' h' k' => l7Run_any a n ca is x m cx xs at_ hin hs h1 h2 hm hat hB w' h' k')
  have HYES : Hid (∀ k, k ≤ m → 0 ≤ runV is xs k → R = true) := hid (fun k hk h => by rw [hR]; exact hasV_of (by omega) h)
  have HNO : Hid ((∀ k, k ≤ m → runV is xs k < 0) → R = false) := hid (fun h => by rw [hR]; exact hasV_not (fun s hs => h s (by omega)))
  clear hR hlx hB
  go_enter Try.func219, Try.ntmps219
  go_wp2
  go_loopw [5] (fun i wr => ∃ k : Nat, k ≤ m + 1 ∧ i = .int .i64 k ∧ Below w.heap.size w wr ∧ Hid (∀ j, j < k → runV is xs j < 0)) (fun i _ => m + 1 - (intOf i).toNat)
  case atStart => exact ⟨0, Nat.zero_le _, rfl, Below.refl _ _, hid (fun j hj => absurd hj (Nat.not_lt_zero _))⟩
  case round =>
    obtain ⟨k, hk, rfl, hbw, HN⟩ := hrel
    by_cases hlt : k ≤ m
    · have hlt' : (k : Int) ≤ (m : Int) := by omega
      have HR1 := hid (fun w' h' k' => HRUN.out k hlt w' h' k')
      obtain ⟨V, hV⟩ : ∃ V, V = runV is xs k := ⟨_, rfl⟩
      rw [← hV] at HR1
      by_cases hv : 0 ≤ V
      · have HT := hid (HYES.out k hlt (by rw [← hV]; exact hv))
        clear hV
        go_wp2_with fail
        refine Calls.mono (HR1.out _ (ha.below hbw) (hx.below hbw)) ?_
        rintro r w2 ⟨rfl, hb2⟩
        have hb := hbw.trans (hb2.mono hbw.size)
        clear hb2
        go_wp2
        go_ret
        exact ⟨ret_bool HT.out.symm, hb⟩
      · have HN2 : Hid (∀ j, j < k + 1 → runV is xs j < 0) := hid (fun j hj => by
          by_cases e : j = k
          · subst e; omega
          · exact HN.out j (by omega))
        clear hV
        go_wp2_with fail
        refine Calls.mono (HR1.out _ (ha.below hbw) (hx.below hbw)) ?_
        rintro r w2 ⟨rfl, hb2⟩
        have hb := hbw.trans (hb2.mono hbw.size)
        clear hb2
        go_wp2
        go_roundw
        case rel => exact ⟨k + 1, by omega, by go_num, hb, HN2⟩
        case measure => simp [intOf]; omega
    · have hlt' : ¬ (k : Int) ≤ (m : Int) := by omega
      have HF := hid (HNO.out (fun j hj => HN.out j (by omega)))
      have HB := hid hbw
      clear hbw
      go_wp2
      go_ret
      exact ⟨ret_bool HF.out.symm, HB.out⟩

end Go.Proofs.Ytaeolofailompaa