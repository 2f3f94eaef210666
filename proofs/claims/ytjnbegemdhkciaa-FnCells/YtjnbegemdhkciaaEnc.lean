/-
  Contracts of EncodeChar: the specification's and the program's; of the helpers over its result.
-/
import Derived.Test.YtjnbegemdhkciaaChars
namespace Go.Proofs.Ytjnbegemdhkciaa
open Go.RowKit

set_option maxHeartbeats 400000 in
theorem specEncodeChar_any (c : Int) (w : World) :
    Calls Try.prog 18 #[.int .i64 c] w fun e w' => ∃ v, e = .returned (.agg #[.int .i64 (encCode c), v]) ∧ Own .u8 5 w' w.heap.size v (encBytes c).length (encBytes c) ∧ Below w.heap.size w w' := by
  by_cases h : isCh c = true
  · have hc := isCh_yes h
    have e1 : encBytes c = enc c := by rw [encBytes, if_pos h]
    have e2 : encCode c = 0 := by rw [encCode, if_pos h]
    rw [e1, e2]
    clear e1 e2
    go_enter Try.func18, Try.ntmps18
    go_wp2_with fail
    refine (l1Char_any c _).mono ?_
    rintro e w1 ⟨rfl, rfl⟩
    rw [h]
    clear h
    go_wp2_with fail
    refine (l1Encode_any c _ hc.1 hc.2).mono ?_
    rintro e w1 ⟨v, rfl, ho, hb⟩
    obtain ⟨a, cap, hv, hrd, _⟩ := ho.rd
    subst hv
    have hc0 : w1.cell? ⟨w.heap.size, 0, none⟩ = some (.int .i64 0) := (hb.cell (p := ⟨w.heap.size, 0, none⟩) (by simp)).trans (by simp)
    have hc1 : w1.cell? ⟨w.heap.size, 1, none⟩ = some (.slice none 0 0) := (hb.cell (p := ⟨w.heap.size, 1, none⟩) (by simp)).trans (by simp)
    have hf0 : w1.frozen? ⟨w.heap.size, 0, none⟩ = false := (hb.frozen (p := ⟨w.heap.size, 0, none⟩) (by simp)).trans (by simp)
    have hf1 : w1.frozen? ⟨w.heap.size, 1, none⟩ = false := (hb.frozen (p := ⟨w.heap.size, 1, none⟩) (by simp)).trans (by simp)
    clear hrd
    go_wp2
    refine bodyPost_ret (v := .agg #[.int .i64 0, .slice a (enc c).length cap]) (by simp [results, Try.results18, go_sem, hc0, hc1]) rfl ⟨_, rfl, ?_, ?_⟩
    · exact ((ho.setBelow (by simp) _).setBelow (by simp) _).up (by simp)
    · exact ((below_slot hb).setCell (Nat.le_refl _) _).setCell (Nat.le_refl _) _
  · have e1 : encBytes c = [] := by rw [encBytes, if_neg h]
    have e2 : encCode c = 3 := by rw [encCode, if_neg h]
    have h' : isCh c = false := by simpa using h
    rw [e1, e2]
    clear e1 e2 h
    go_enter Try.func18, Try.ntmps18
    go_wp2_with fail
    refine (l1Char_any c _).mono ?_
    rintro e w1 ⟨rfl, rfl⟩
    rw [h']
    clear h'
    go_wp2
    refine bodyPost_ret (v := .agg #[.int .i64 3, .slice none 0 0]) (by simp [results, Try.results18, go_sem]) rfl ⟨_, rfl, Own.nil _ _, (Below.refl _ _).alloc (Nat.le_refl _) _⟩

set_option maxHeartbeats 400000 in
theorem implEncodeChar_any (c : Int) (w : World) :
    Calls Try.prog 16 #[.int .i64 c] w fun e w' => ∃ v, e = .returned (.agg #[.int .i64 (encCode c), v]) ∧ Own .u8 5 w' w.heap.size v (encBytes c).length (encBytes c) ∧ Below w.heap.size w w' := by
  by_cases h : isCh c = true
  · have hc := isCh_yes h
    have e1 : encBytes c = enc c := by rw [encBytes, if_pos h]
    have e2 : encCode c = 0 := by rw [encCode, if_pos h]
    rw [e1, e2]
    clear e1 e2
    have h1 := hc.1
    have h2 := hc.2
    clear hc
    go_enter Try.func16, Try.ntmps16
    go_wp2_with fail
    refine (isCharacter_any c _).mono ?_
    rintro e w1 ⟨rfl, rfl⟩
    rw [h]
    clear h
    go_wp2_with fail
    refine (appendCharacter_own (.slice none 0 0) 0 _ [] c _ (Own.nil _ (w.heap.size + 1)) (by omega) (by simp) h1 h2).mono ?_
    rintro e w1 ⟨v, rfl, ho, hg⟩
    rw [Nat.zero_add, List.nil_append] at ho
    have hb := (Below.refl (w.heap.size + 1) _).grown hg (by simp) (by simp [Value.ownBlock])
    obtain ⟨a, cap, hv, hrd, _⟩ := ho.rd
    subst hv
    have hc0 : w1.cell? ⟨w.heap.size, 0, none⟩ = some (.int .i64 0) := (hb.cell (p := ⟨w.heap.size, 0, none⟩) (by simp)).trans (by simp)
    have hc1 : w1.cell? ⟨w.heap.size, 1, none⟩ = some (.slice none 0 0) := (hb.cell (p := ⟨w.heap.size, 1, none⟩) (by simp)).trans (by simp)
    have hf0 : w1.frozen? ⟨w.heap.size, 0, none⟩ = false := (hb.frozen (p := ⟨w.heap.size, 0, none⟩) (by simp)).trans (by simp)
    have hf1 : w1.frozen? ⟨w.heap.size, 1, none⟩ = false := (hb.frozen (p := ⟨w.heap.size, 1, none⟩) (by simp)).trans (by simp)
    clear hrd hg
    go_wp2
    refine bodyPost_ret (v := .agg #[.int .i64 0, .slice a (enc c).length cap]) (by simp [results, Try.results16, go_sem, hc0, hc1]) rfl ⟨_, rfl, ?_, ?_⟩
    · exact ((ho.setBelow (by simp) _).setBelow (by simp) _).up (by simp)
    · exact ((below_slot (by simpa using hb)).setCell (Nat.le_refl _) _).setCell (Nat.le_refl _) _
  · have e1 : encBytes c = [] := by rw [encBytes, if_neg h]
    have e2 : encCode c = 3 := by rw [encCode, if_neg h]
    have h' : isCh c = false := by simpa using h
    rw [e1, e2]
    clear e1 e2 h
    go_enter Try.func16, Try.ntmps16
    go_wp2_with fail
    refine (isCharacter_any c _).mono ?_
    rintro e w1 ⟨rfl, rfl⟩
    rw [h']
    clear h'
    go_wp2
    refine bodyPost_ret (v := .agg #[.int .i64 3, .slice none 0 0]) (by simp [results, Try.results16, go_sem]) rfl ⟨_, rfl, Own.nil _ _, (Below.refl _ _).alloc (Nat.le_refl _) _⟩
end Go.Proofs.Ytjnbegemdhkciaa
