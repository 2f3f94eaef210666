/-
  Chapter 11: CmdFault, both sides.
-/
import Derived.Test.YtjgmkcmlkffjlaaBox
import Derived.Test.YtjgmkcmlkffjlaaHlp1
import Derived.Test.YtjgmkcmlkffjlaaFiles1
import Derived.WalkLawsBesides
namespace Go.Proofs.Ytjgmkcmlkffjlaa
open Go.RowKit
set_option linter.unusedVariables false
set_option linter.unusedSimpArgs false

/-- the least and the greatest count of a kind; less than nothing where it has none -/
def cbLo (k : Int) : Int := if k = 1 ∨ k = 2 ∨ k = 9 ∨ k = 10 then 1 else if k = 3 then 0 else if k = 6 ∨ k = 7 then 1 else if k = 11 then 1 else if k = 12 ∨ k = 13 then 0 else -1
def cbHi (k : Int) : Int := if k = 1 ∨ k = 2 ∨ k = 9 ∨ k = 10 then 999 else if k = 3 then 999 else if k = 6 ∨ k = 7 then 400 else if k = 11 then 12 else if k = 12 ∨ k = 13 then 3 else -1
/-- what is wrong with a command -/
def cmF (k c wd : Int) (n : Nat) : Int :=
  if k < 1 ∨ 14 < k then 1 else
  if (cbHi k < 0 ∧ c ≠ 0) ∨ (k ≠ 11 ∧ wd ≠ 0) ∨ (k ≠ 8 ∧ n ≠ 0) then 1 else
  if (0 ≤ cbHi k ∧ (c < cbLo k ∨ cbHi k < c)) ∨ (k = 11 ∧ (wd < 4 ∨ 40 < wd)) then 3 else
  if 60 < n then 2 else 0

theorem kinds (k : Int) : (k = 1 ∨ k = 2 ∨ k = 3 ∨ k = 4 ∨ k = 5 ∨ k = 6 ∨ k = 7 ∨ k = 8 ∨ k = 9 ∨ k = 10 ∨ k = 11 ∨ k = 12 ∨ k = 13 ∨ k = 14) ∨ (k < 1 ∨ 14 < k) := by omega
theorem cb_out {k : Int} (h : k < 1 ∨ 14 < k) : cbLo k = -1 ∧ cbHi k = -1 := by
  unfold cbLo cbHi
  rw [if_neg (by omega), if_neg (by omega), if_neg (by omega), if_neg (by omega), if_neg (by omega), if_neg (by omega), if_neg (by omega), if_neg (by omega), if_neg (by omega), if_neg (by omega)]
  exact ⟨rfl, rfl⟩

set_option maxHeartbeats 1600000 in
theorem l11Counted_any (k : Int) (w : World) :
    Calls Try.prog 93 #[.int .i64 k] w fun e w' => e = .returned (.tuple #[.int .i64 (cbLo k), .int .i64 (cbHi k)]) ∧ w' = w := by
  rcases kinds k with h | h
  · rcases h with rfl | rfl | rfl | rfl | rfl | rfl | rfl | rfl | rfl | rfl | rfl | rfl | rfl | rfl <;>
      (go_enter Try.func93, Try.ntmps93; go_wp2; exact bodyPost_ret (by simp [results, Try.results93, go_sem, cbLo, cbHi] <;> omega) rfl ⟨rfl, rfl⟩)
  · obtain ⟨e1, e2⟩ := cb_out h
    rw [e1, e2]
    have h1 : ¬ k = 1 := by omega
    have h2 : ¬ k = 2 := by omega
    have h3 : ¬ k = 3 := by omega
    have h6 : ¬ k = 6 := by omega
    have h7 : ¬ k = 7 := by omega
    have h9 : ¬ k = 9 := by omega
    have h10 : ¬ k = 10 := by omega
    have h11 : ¬ k = 11 := by omega
    have h12 : ¬ k = 12 := by omega
    have h13 : ¬ k = 13 := by omega
    clear h e1 e2
    go_enter Try.func93, Try.ntmps93
    go_wp2
    exact bodyPost_ret (by simp [results, Try.results93, go_sem, cbLo, cbHi] <;> omega) rfl ⟨rfl, rfl⟩

set_option maxHeartbeats 1600000 in
theorem countBounds_any (k : Int) (w : World) :
    Calls Try.prog 58 #[.int .i64 k] w fun e w' => e = .returned (.tuple #[.int .i64 (max (cbLo k) 0), .int .i64 (max (cbHi k) 0)]) ∧ w' = w := by
  rcases kinds k with h | h
  · rcases h with rfl | rfl | rfl | rfl | rfl | rfl | rfl | rfl | rfl | rfl | rfl | rfl | rfl | rfl <;>
      (go_enter Try.func58, Try.ntmps58; go_wp2; exact bodyPost_ret (by simp [results, Try.results58, go_sem, cbLo, cbHi] <;> omega) rfl ⟨rfl, rfl⟩)
  · obtain ⟨e1, e2⟩ := cb_out h
    rw [e1, e2]
    have h1 : ¬ k = 1 := by omega
    have h2 : ¬ k = 2 := by omega
    have h3 : ¬ k = 3 := by omega
    have h6 : ¬ k = 6 := by omega
    have h7 : ¬ k = 7 := by omega
    have h9 : ¬ k = 9 := by omega
    have h10 : ¬ k = 10 := by omega
    have h11 : ¬ k = 11 := by omega
    have h12 : ¬ k = 12 := by omega
    have h13 : ¬ k = 13 := by omega
    clear h e1 e2
    go_enter Try.func58, Try.ntmps58
    go_wp2
    exact bodyPost_ret (by simp [results, Try.results58, go_sem, cbLo, cbHi] <;> omega) rfl ⟨rfl, rfl⟩

theorem isWidth_any (x : Int) (w : World) :
    Calls Try.prog 59 #[.int .i64 x] w fun e w' => e = .returned (.bool (decide (4 ≤ x ∧ x ≤ 40))) ∧ w' = w := by
  go_enter Try.func59, Try.ntmps59
  go_wp2
  all_goals go_ret
  all_goals refine ⟨ret_bool ?_, rfl⟩
  all_goals (first | (have hx : ¬ (4 ≤ x ∧ x ≤ 40) := by omega) | (have hx : 4 ≤ x ∧ x ≤ 40 := by omega) | skip)
  all_goals (first | exact (decide_eq_true hx).symm | exact (decide_eq_false hx).symm | (simp; omega) | (simp [hx]; done))

theorem cb_facts (k : Int) : (cbHi k = -1 ∧ cbLo k = -1) ∨ (0 ≤ cbLo k ∧ 3 ≤ cbHi k) := by
  rcases kinds k with h | h
  · rcases h with rfl | rfl | rfl | rfl | rfl | rfl | rfl | rfl | rfl | rfl | rfl | rfl | rfl | rfl <;> simp [cbLo, cbHi]
  · obtain ⟨e1, e2⟩ := cb_out h; exact .inl ⟨e2, e1⟩
theorem str_empty (s : ByteArray) : s.toList.isEmpty = decide (s.size = 0) := by
  obtain ⟨⟨l⟩⟩ := s
  rw [ByteArray.toList_eq]
  cases l with
  | nil => rfl
  | cons x xs => exact (decide_eq_false (fun h => nomatch h)).symm

set_option maxHeartbeats 6400000 in
theorem implCmdFault_any (k c wd : Int) (s : ByteArray) (w : World) (hs : s.size ≤ maxLen) :
    Calls Try.prog 27 #[.agg #[.int .i64 k, .int .i64 c, .int .i64 wd, .string s]] w fun e w' => e = .returned (.int .i64 (cmF k c wd s.size)) ∧ Below w.heap.size w w' := by
  have hf := cb_facts k
  have CB := fun w' => countBounds_any k w'
  obtain ⟨R, hR⟩ : ∃ R, R = cmF k c wd s.size := ⟨_, rfl⟩
  rw [← hR]
  obtain ⟨lo, hlo⟩ : ∃ lo, max (cbLo k) 0 = lo := ⟨_, rfl⟩
  obtain ⟨hi, hhi⟩ : ∃ hi, max (cbHi k) 0 = hi := ⟨_, rfl⟩
  rw [hlo, hhi] at CB
  have HCB : Hid _ := CB
  have HR := hid hR
  have HF := hid hf
  have HLO := hid hlo
  have HHI := hid hhi
  clear CB hf hlo hhi hR
  go_enter Try.func27, Try.ntmps27
  go_wp2_with (first
    | (go_at_call 58; refine (HCB.out _).mono ?_; rintro e w1 ⟨rfl, rfl⟩)
    | (go_at_call 59; refine (isWidth_any _ _).mono ?_; rintro e w1 ⟨rfl, rfl⟩))
  all_goals go_ret
  all_goals refine ⟨ret_int ?_, (Below.refl _ _).alloc (Nat.le_refl _) _⟩
  all_goals (have h1 := HR.out; have h2 := HF.out; have h3 := HLO.out; have h4 := HHI.out; unfold cmF at h1)
  all_goals (clear HCB HR HF HLO HHI; try simp only [bne_eq_false_iff_eq, bne_iff_ne, str_empty, Bool.not_eq_true', Bool.not_eq_false', decide_eq_true_eq, decide_eq_false_iff_not] at *)
  all_goals (first | omega | (split at h1 <;> first | omega | (split at h1 <;> first | omega | (split at h1 <;> first | omega | (split at h1 <;> omega)))))
set_option maxHeartbeats 6400000 in
theorem l11Cmd_any (b : Nat) (k c wd : Int) (s : ByteArray) (w : World) (hs : s.size ≤ maxLen) (c0 : w.cell? ⟨b, 0, none⟩ = some (.int .i64 k)) (c1 : w.cell? ⟨b, 1, none⟩ = some (.int .i64 c)) (c2 : w.cell? ⟨b, 2, none⟩ = some (.int .i64 wd)) (c3 : w.cell? ⟨b, 3, none⟩ = some (.string s)) :
    Calls Try.prog 57 #[.pointer (some ⟨b, 0, none⟩)] w fun e w' => e = .returned (.int .i64 (cmF k c wd s.size)) ∧ w' = w := by
  have hf := cb_facts k
  have CB := fun w' => l11Counted_any k w'
  have hout : (k < 1 ∨ 14 < k) → cbHi k = -1 := fun h => (cb_out h).2
  obtain ⟨R, hR⟩ : ∃ R, R = cmF k c wd s.size := ⟨_, rfl⟩
  rw [← hR]
  obtain ⟨lo, hlo⟩ : ∃ lo, cbLo k = lo := ⟨_, rfl⟩
  obtain ⟨hi, hhi⟩ : ∃ hi, cbHi k = hi := ⟨_, rfl⟩
  rw [hlo, hhi] at CB
  have HCB : Hid _ := CB
  have HR := hid hR
  have HF := hid hf
  have HLO := hid hlo
  have HHI := hid hhi
  clear CB hf hlo hhi hR hout
  go_enter Try.func57, Try.ntmps57
  go_wp2_with (first
    | (go_at_call 93; refine (HCB.out _).mono ?_; rintro e w1 ⟨rfl, rfl⟩)
    | (go_at_call 44; refine (l1In_any _ _ _ _).mono ?_; rintro e w1 ⟨rfl, rfl⟩))
  all_goals go_ret
  all_goals refine ⟨ret_int ?_, rfl⟩
  all_goals (have h1 := HR.out; have h2 := HF.out; have h3 := HLO.out; have h4 := HHI.out; unfold cmF at h1)
  all_goals (clear HCB HR HF HLO HHI c0 c1 c2 c3; try simp only [bne_eq_false_iff_eq, bne_iff_ne, str_empty, Bool.not_eq_true', Bool.not_eq_false', decide_eq_true_eq, decide_eq_false_iff_not] at *)
  all_goals (first | omega | (split at h1 <;> first | omega | (split at h1 <;> first | omega | (split at h1 <;> first | omega | (split at h1 <;> omega)))))

theorem specCmdFault_any (k c wd : Int) (s : ByteArray) (w : World) (hs : s.size ≤ maxLen) :
    Calls Try.prog 25 #[.agg #[.int .i64 k, .int .i64 c, .int .i64 wd, .string s]] w fun e w' => e = .returned (.int .i64 (cmF k c wd s.size)) ∧ Below w.heap.size w w' := by
  go_enter Try.func25, Try.ntmps25
  go_wp2_with fail
  refine (l11Cmd_any w.heap.size k c wd s _ hs (by simp [go_sem]) (by simp [go_sem]) (by simp [go_sem]) (by simp [go_sem])).mono ?_
  rintro e w1 ⟨rfl, rfl⟩
  go_wp2
  go_ret
  exact ⟨rfl, (Below.refl _ _).alloc (Nat.le_refl _) _⟩
end Go.Proofs.Ytjgmkcmlkffjlaa
