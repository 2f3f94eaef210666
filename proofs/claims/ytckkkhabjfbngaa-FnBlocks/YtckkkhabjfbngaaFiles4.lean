/-
  Contracts of ReadPart, the specification's and the program's.
-/
import Derived.Test.YtckkkhabjfbngaaFiles3
namespace Go.Proofs.Ytckkkhabjfbngaa
open Go.RowKit
set_option linter.unusedVariables false

/-- What a read gives, as a cut. -/
theorem part_eq (xs : List Int) (n i : Nat) (N M : Nat) (hl : xs.length = n) : (xs.drop i).take (min N M) = (xs.drop i).take (min (min N M) (n - i)) := by
  rw [List.take_eq_take_iff]
  simp
  omega

set_option maxHeartbeats 1600000 in
theorem l2Part_any (b : Nat) (a : Option Addr) (n ca i N M : Nat) (xs : List Int) (w : World) (hc : w.cell? ⟨b, 0, none⟩ = some (.slice a n ca)) (ha : Rd .u8 w a n xs) (h1 : n ≤ 1073741824) (hca : n ≤ ca) (hcm : ca ≤ maxLen) (hN : N ≤ 400) (hM : M ≤ 400) :
    Calls Try.prog 99 #[.pointer (some ⟨b, 0, none⟩), .int .i64 i, .int .i64 N, .int .i64 M] w fun e w' => ∃ v, e = .returned v ∧ RowI .u8 5 w' w.heap.size w'.heap.size v ((xs.drop i).take (min N M)).length ((xs.drop i).take (min N M)) ∧ Below w.heap.size w w' := by
  have hlen := ha.1
  unfold maxLen at hcm
  by_cases hi : i < n
  · obtain ⟨g, off, rfl, hcc⟩ := ha.at hi
    rw [part_eq xs n i N M hlen]
    obtain ⟨m, hm⟩ : ∃ m, m = min (min N M) (n - i) := ⟨_, rfl⟩
    have e4 : ((xs.drop i).take m).length = m := by simp; omega
    rw [← hm, e4]
    have hr := ha.cut i m (by omega) (some ⟨g, off + i, none⟩) (fun _ g' off' h => by simp only [Option.some.injEq, Addr.mk.injEq] at h; obtain ⟨rfl, rfl, _⟩ := h; rfl)
    have e5 : min (min (N : Int) (M : Int)) ((n : Int) - (i : Int)) = (m : Int) := by omega
    have hm4 : m ≤ 400 := by omega
    have hmi : i + m ≤ n := by omega
    have hin : ¬ (n : Int) ≤ (i : Int) := by omega
    have hic : i + m ≤ ca := by omega
    have hic' : ¬ ca = i := by omega
    have HR : Hid _ := hr
    clear hr hcc hlen e4 hm
    go_enter Try.func99, Try.ntmps99
    go_wp2_with fail
    refine (l1Min_any N M _).mono ?_
    rintro e w1 ⟨rfl, rfl⟩
    go_wp2_with fail
    refine (l1Min_any _ _ _).mono ?_
    rw [e5]
    rintro e w1 ⟨rfl, rfl⟩
    clear e5
    go_wp2_with fail
    refine (l1Copy_any _ m _ _ _ HR.out (by omega)).mono ?_
    rintro e w2 ⟨v2, rfl, ho2, hb2⟩
    obtain ⟨av, cv, rfl, _⟩ := ho2.shape
    go_wp2
    go_ret
    exact ⟨_, rfl, ho2, hb2⟩
  · have e1 : (xs.drop i).take (min N M) = [] := by rw [List.drop_of_length_le (by omega)]; simp
    rw [e1]
    have hin : (n : Int) ≤ (i : Int) := by omega
    go_enter Try.func99, Try.ntmps99
    go_wp2
    go_ret
    exact ⟨_, rfl, RowI.of (own_empty w w.heap.size (Nat.le_refl _)), (Below.refl _ _).alloc (Nat.le_refl _) _⟩

set_option maxHeartbeats 3200000 in
theorem implReadPart_any (a : Option Addr) (n ca : Nat) (A N M : Int) (xs : List Int) (w : World) (ha : Rd .u8 w a n xs) (h1 : n ≤ 1073741824) (hca : n ≤ ca) (hcm : ca ≤ maxLen) :
    Calls Try.prog 18 #[.agg #[.slice a n ca], .int .i64 A, .int .i64 N, .int .i64 M] w fun e w' => ∃ v, e = .returned (.agg #[.int .i64 (rpCode xs A N M), v]) ∧ RowI .u8 5 w' w.heap.size w'.heap.size v (rpRes xs A N M).length (rpRes xs A N M) ∧ Below w.heap.size w w' := by
  have hlen := ha.1
  unfold maxLen at hcm
  have hbt := below_two w
  by_cases hf : 400 < n
  · have e0 : rpCode xs A N M = 2 := by unfold rpCode; rw [if_pos (by omega)]
    have e2 : rpRes xs A N M = [] := by unfold rpRes; rw [if_neg (by omega)]
    have e3 : fFault n = 2 := by unfold fFault; rw [if_pos hf]
    rw [e0, e2]
    clear e0 e2 hlen
    go_enter Try.func18, Try.ntmps18
    go_wp2_with fail
    refine (implFileFault_any a n ca _ h1).mono ?_
    rw [e3]
    rintro e w1 ⟨rfl, hb1⟩
    have d0 : w1.cell? ⟨w.heap.size + 1, 0, none⟩ = some (.int .i64 0) := cell_later hb1 (by simp [go_sem])
    have df0 : w1.frozen? ⟨w.heap.size + 1, 0, none⟩ = false := (hb1.frozen (p := ⟨w.heap.size + 1, 0, none⟩) (by simp)).trans (by simp [go_sem])
    have d1 : w1.cell? ⟨w.heap.size + 1, 1, none⟩ = some (.slice none 0 0) := cell_later hb1 (by simp [go_sem])
    have df1 : w1.frozen? ⟨w.heap.size + 1, 1, none⟩ = false := (hb1.frozen (p := ⟨w.heap.size + 1, 1, none⟩) (by simp)).trans (by simp [go_sem])
    have c0 : w1.cell? ⟨w.heap.size, 0, none⟩ = some (.slice a n ca) := cell_later hb1 (by simp [go_sem])
    have z1 : w.heap.size + 1 < w1.heap.size := by have := hb1.size; simp at this; omega
    have hb01 := (hbt _ _).trans (hb1.mono (by simp; omega))
    clear hb1 e3
    go_wp2
    exact bodyPost_ret (v := .agg #[.int .i64 2, .slice none 0 0]) (by simp [results, Try.results18, go_sem, d0, d1]) rfl ⟨_, rfl, RowI.nil _ _ _ _ _, (hb01.setCell (by simp) _).setCell (by simp) _⟩
  · have e3 : fFault n = 0 := by unfold fFault; rw [if_neg hf]
    by_cases hok : 0 ≤ A ∧ 0 ≤ N ∧ N ≤ 400 ∧ 1 ≤ M ∧ M ≤ 400
    · obtain ⟨i, rfl⟩ : ∃ i : Nat, A = (i : Int) := ⟨A.toNat, by omega⟩
      obtain ⟨N, rfl⟩ : ∃ i : Nat, N = (i : Int) := ⟨N.toNat, by omega⟩
      obtain ⟨M, rfl⟩ : ∃ i : Nat, M = (i : Int) := ⟨M.toNat, by omega⟩
      have e0 : rpCode xs i N M = 0 := by unfold rpCode; rw [if_neg (by omega), if_neg (by omega)]
      have e2 : rpRes xs i N M = (xs.drop i).take (min N M) := by unfold rpRes; rw [if_pos e0, show (min (N : Int) (M : Int)).toNat = min N M by omega]; simp
      have q0 : ¬ (i : Int) < 0 := by omega
      have q1 : ¬ (N : Int) < 0 := by omega
      have q2 : ¬ (400 : Int) < (N : Int) := by omega
      have q3 : ¬ (M : Int) < 1 := by omega
      have q4 : ¬ (400 : Int) < (M : Int) := by omega
      rw [e0, e2, part_eq xs n i N M hlen]
      obtain ⟨m, hm⟩ : ∃ m, m = min (min N M) (n - i) := ⟨_, rfl⟩
      have e4 : ((xs.drop i).take m).length = m := by simp; omega
      rw [← hm, e4]
      have hm4 : m ≤ 400 := by omega
      obtain ⟨f, hfr⟩ : ∃ f, f = min i n := ⟨_, rfl⟩
      have e5 : min (i : Int) (n : Int) = (f : Int) := by omega
      have e6 : min (min (N : Int) (M : Int)) ((n : Int) - (f : Int)) = (m : Int) := by omega
      have E5 : Hid _ := e5
      have E6 : Hid _ := e6
      have hff : f ≤ n := by omega
      have hfm : f + m ≤ n := by omega
      have hfc : f + m ≤ ca := by omega
      have hr : ∀ w' b, Rd .u8 w' a n xs → (0 < m → ∀ g off, a = some ⟨g, off, none⟩ → b = some ⟨g, off + f, none⟩) → Rd .u8 w' b m ((xs.drop i).take m) := by
        intro w' b h hb
        by_cases h0 : m = 0
        · subst h0
          exact ⟨by simp, .inl rfl⟩
        · have : f = i := by omega
          subst this
          exact h.cut f m hfm b hb
      have HR : Hid _ := hr
      clear hr hlen e4 hm hok hfr e0 e2 e5 e6
      go_enter Try.func18, Try.ntmps18
      go_wp2_with fail
      refine (implFileFault_any a n ca _ h1).mono ?_
      rw [e3]
      rintro e w1 ⟨rfl, hb1⟩
      have d0 : w1.cell? ⟨w.heap.size + 1, 0, none⟩ = some (.int .i64 0) := cell_later hb1 (by simp [go_sem])
      have df0 : w1.frozen? ⟨w.heap.size + 1, 0, none⟩ = false := (hb1.frozen (p := ⟨w.heap.size + 1, 0, none⟩) (by simp)).trans (by simp [go_sem])
      have d1 : w1.cell? ⟨w.heap.size + 1, 1, none⟩ = some (.slice none 0 0) := cell_later hb1 (by simp [go_sem])
      have df1 : w1.frozen? ⟨w.heap.size + 1, 1, none⟩ = false := (hb1.frozen (p := ⟨w.heap.size + 1, 1, none⟩) (by simp)).trans (by simp [go_sem])
      have c0 : w1.cell? ⟨w.heap.size, 0, none⟩ = some (.slice a n ca) := cell_later hb1 (by simp [go_sem])
      have z1 : w.heap.size + 1 < w1.heap.size := by have := hb1.size; simp at this; omega
      have hb01 := (hbt _ _).trans (hb1.mono (by simp; omega))
      clear hb1 e3
      by_cases hcf : ca = f
      · have hm0 : m = 0 := by omega
        subst hm0
        subst hcf
        go_wp2_with (first | ((with_reducible show wpList _ _ _ (({ dst := _, op := .call { callee := .builtin .min, args := #[_, _], argTypes := _ }, type := _, pos := _, after := _, guard := _ } : Oper) :: _) _ _); refine wpList_min2 _ _ _ .i64 i n _ rfl rfl E5.out ?_; simp only [Act.put, List.setIfInBounds_toArray, List.set_cons_zero, List.set_cons_succ]) | ((with_reducible show wpList _ _ _ (({ dst := _, op := .call { callee := .builtin .min, args := #[_, _, _], argTypes := _ }, type := _, pos := _, after := _, guard := _ } : Oper) :: _) _ _); refine wpList_min3 _ _ _ _ .i64 N M (n - _) _ rfl rfl rfl E6.out ?_; simp only [Act.put, List.setIfInBounds_toArray, List.set_cons_zero, List.set_cons_succ]))
        refine (copied_any _ 0 _ _ _ (HR.out _ _ (ha.below hb01) (fun h => absurd h (by omega))) (by omega)).mono ?_
        rintro e w2 ⟨v2, rfl, ho2, hb2⟩
        obtain ⟨av, cv, rfl, _⟩ := ho2.shape
        have g0 := cell_later hb2 d0
        have g1 := cell_later hb2 d1
        have k0 := (hb2.frozen (p := ⟨w.heap.size + 1, 0, none⟩) z1).trans df0
        have k1 := (hb2.frozen (p := ⟨w.heap.size + 1, 1, none⟩) z1).trans df1
        have hb02 := hb01.trans (hb2.mono hb01.size)
        clear d0 d1 df0 df1 c0 hb2
        go_wp2
        exact bodyPost_ret (v := .agg #[.int .i64 0, .slice av 0 cv]) (by simp [results, Try.results18, go_sem, g0, g1]) rfl ⟨_, rfl, RowI.mono (RowI.of ((ho2.1.setBelow (by first | (simp; done) | (simp; omega)) _).setBelow (by first | (simp; done) | (simp; omega)) _)) (by first | omega | (simp; omega)) (Nat.le_refl _), (hb02.setCell (by simp) _).setCell (by simp) _⟩
      · go_wp2_with (first | ((with_reducible show wpList _ _ _ (({ dst := _, op := .call { callee := .builtin .min, args := #[_, _], argTypes := _ }, type := _, pos := _, after := _, guard := _ } : Oper) :: _) _ _); refine wpList_min2 _ _ _ .i64 i n _ rfl rfl E5.out ?_; simp only [Act.put, List.setIfInBounds_toArray, List.set_cons_zero, List.set_cons_succ]) | ((with_reducible show wpList _ _ _ (({ dst := _, op := .call { callee := .builtin .min, args := #[_, _, _], argTypes := _ }, type := _, pos := _, after := _, guard := _ } : Oper) :: _) _ _); refine wpList_min3 _ _ _ _ .i64 N M (n - f) _ rfl rfl rfl E6.out ?_; simp only [Act.put, List.setIfInBounds_toArray, List.set_cons_zero, List.set_cons_succ]))
        refine (copied_any _ m _ _ _ (HR.out _ _ (ha.below hb01) (fun _ g off h => by subst h; simp [Addr.add_lit])) (by omega)).mono ?_
        rintro e w2 ⟨v2, rfl, ho2, hb2⟩
        obtain ⟨av, cv, rfl, _⟩ := ho2.shape
        have g0 := cell_later hb2 d0
        have g1 := cell_later hb2 d1
        have k0 := (hb2.frozen (p := ⟨w.heap.size + 1, 0, none⟩) z1).trans df0
        have k1 := (hb2.frozen (p := ⟨w.heap.size + 1, 1, none⟩) z1).trans df1
        have hb02 := hb01.trans (hb2.mono hb01.size)
        clear d0 d1 df0 df1 c0 hb2
        go_wp2
        exact bodyPost_ret (v := .agg #[.int .i64 0, .slice av m cv]) (by simp [results, Try.results18, go_sem, g0, g1]) rfl ⟨_, rfl, RowI.mono (RowI.of ((ho2.1.setBelow (by first | (simp; done) | (simp; omega)) _).setBelow (by first | (simp; done) | (simp; omega)) _)) (by first | omega | (simp; omega)) (Nat.le_refl _), (hb02.setCell (by simp) _).setCell (by simp) _⟩
    · have e0 : rpCode xs A N M = 3 := by unfold rpCode; rw [if_neg (by omega), if_pos (by omega)]
      have e2 : rpRes xs A N M = [] := by unfold rpRes; rw [if_neg (by omega)]
      rw [e0, e2]
      have HB : Hid _ := hok
      clear e0 e2 hlen hok
      go_enter Try.func18, Try.ntmps18
      go_wp2_with fail
      refine (implFileFault_any a n ca _ h1).mono ?_
      rw [e3]
      rintro e w1 ⟨rfl, hb1⟩
      have d0 : w1.cell? ⟨w.heap.size + 1, 0, none⟩ = some (.int .i64 0) := cell_later hb1 (by simp [go_sem])
      have df0 : w1.frozen? ⟨w.heap.size + 1, 0, none⟩ = false := (hb1.frozen (p := ⟨w.heap.size + 1, 0, none⟩) (by simp)).trans (by simp [go_sem])
      have d1 : w1.cell? ⟨w.heap.size + 1, 1, none⟩ = some (.slice none 0 0) := cell_later hb1 (by simp [go_sem])
      have df1 : w1.frozen? ⟨w.heap.size + 1, 1, none⟩ = false := (hb1.frozen (p := ⟨w.heap.size + 1, 1, none⟩) (by simp)).trans (by simp [go_sem])
      have c0 : w1.cell? ⟨w.heap.size, 0, none⟩ = some (.slice a n ca) := cell_later hb1 (by simp [go_sem])
      have z1 : w.heap.size + 1 < w1.heap.size := by have := hb1.size; simp at this; omega
      have hb01 := (hbt _ _).trans (hb1.mono (by simp; omega))
      clear hb1 e3
      go_wp2_with fail
      all_goals first
        | (exact absurd (show 0 ≤ A ∧ 0 ≤ N ∧ N ≤ 400 ∧ 1 ≤ M ∧ M ≤ 400 by omega) HB.out)
        | (exact bodyPost_ret (v := .agg #[.int .i64 3, .slice none 0 0]) (by simp [results, Try.results18, go_sem, d0, d1]) rfl ⟨_, rfl, RowI.nil _ _ _ _ _, (hb01.setCell (by simp) _).setCell (by simp) _⟩)
end Go.Proofs.Ytckkkhabjfbngaa
