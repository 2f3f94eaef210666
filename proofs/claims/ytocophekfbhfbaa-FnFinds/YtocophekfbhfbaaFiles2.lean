/-
  Contracts of AppendFile and CutFile, the specification's and the program's.
-/
import Derived.Test.YtocophekfbhfbaaFiles1
namespace Go.Proofs.Ytocophekfbhfbaa
open Go.RowKit
set_option linter.unusedVariables false

set_option maxHeartbeats 800000 in
theorem joined_any (a b : Option Addr) (n m ca cb : Nat) (xs ys : List Int) (w : World) (ha : Rd .u8 w a n xs) (hb : Rd .u8 w b m ys) (h1 : n ≤ 1073741824) (h2 : m ≤ 1073741824) :
    Calls Try.prog 88 #[.slice a n ca, .slice b m cb] w fun e w' => ∃ v, e = .returned v ∧ RowI .u8 5 w' w.heap.size w'.heap.size v (n + m) (xs ++ ys) ∧ Below w.heap.size w w' := by
  obtain ⟨i0, hi, hz0, hz1, hz2⟩ := info_parts info8
  have hlen := ha.1
  have hlen2 := hb.1
  have hs := splice_two n m xs ys hlen hlen2
  have HS : Hid _ := hs
  clear hs
  generalize hN : n + m = N at *
  have hnm : ((n : Int) + (m : Int)) = (N : Int) := by omega
  have hN1 : n ≤ N := by omega
  have hN2 : N ≤ 2147483648 := by omega
  have HN : Hid _ := hN
  clear hN
  go_enter Try.func88, Try.ntmps88
  go_wp2_with (at_make; refine wpList_make_full _ rfl _ _ 22 rfl w.heap.size 5 i0 (.int .u8 0) 1 Try.underlying22 hi hz0 hz1 _ _ _ _ N rfl rfl rfl rfl (by rw [hz2]; omega) (by unfold maxLen; omega) (Nat.le_refl _) ?_)
  intro w1 hown1 hgrow1
  have ho1 : Own .u8 5 w1 w.heap.size (.slice (some ⟨w.heap.size, 0, none⟩) N N) N (List.replicate N 0) := by
    unfold Own
    rw [List.map_replicate, ← toList_madeCells_one]
    exact hown1
  have hb1 : Below w.heap.size w w1 := (Below.refl _ _).grown hgrow1 (Nat.le_refl _) (by simp)
  clear hown1 hgrow1
  have hr1 := ha.below hb1
  go_wp2_with ((with_reducible show wpList _ _ _ (({ dst := _, op := .call { callee := .builtin .copy, args := _, argTypes := _ }, type := _, pos := _, after := _, guard := _ } : Oper) :: _) _ _); refine wpList_copy_rd _ _ 22 22 .u8 5 Try.underlying22 (by rw [hi]; simp [hz1]) _ _ N N n ca rfl rfl w.heap.size w.heap.size N N 0 _ xs ho1 hr1 (by omega) (by omega) (fun _ => rfl) ?_)
  intro w2 ho2 hg2
  have hb2 := hb1.grown hg2 hb1.size (by simp)
  have hr2 := hb.below hb2
  have HO : Hid _ := ho2
  simp only [Act.put, List.setIfInBounds_toArray, List.set_cons_zero, List.set_cons_succ]
  clear hg2 ho2 ho1
  by_cases hm0 : m = 0
  · have hN0 : N = n := by have := HN.out; omega
    subst hN0
    subst hm0
    have e2 : ys = [] := List.eq_nil_of_length_eq_zero hlen2
    subst e2
    clear hnm hlen2 hlen hb h2 HN hr1 hb1
    go_wp2_with ((with_reducible show wpList _ _ _ (({ dst := _, op := .call { callee := .builtin .copy, args := _, argTypes := _ }, type := _, pos := _, after := _, guard := _ } : Oper) :: _) _ _); refine wpList_copy_rd _ _ 22 22 .u8 5 Try.underlying22 (by rw [hi]; simp [hz1]) _ _ 0 0 0 cb rfl rfl w.heap.size w.heap.size N N N (splice (List.replicate N 0) 0 xs) [] HO.out hr2 (by omega) (by omega) (fun h => by omega) ?_)
    intro w3 ho3 hg3
    have hb3 := hb2.grown hg3 hb2.size (by simp)
    have ho4 : Own .u8 5 w3 w.heap.size (.slice (some ⟨w.heap.size, 0, none⟩) N N) N (xs ++ []) := by
      rw [← HS.out]
      exact ho3
    clear ho3 hg3
    go_wp2
    go_ret
    exact ⟨.slice (some ⟨w.heap.size, 0, none⟩) N N, rfl, RowI.of ho4, hb3⟩
  · have hN0 : ¬ N = n := by have := HN.out; omega
    have hN3 : m ≤ N - n := by have := HN.out; omega
    have HN3 : Hid _ := hN3
    clear hnm hlen2 hlen hb HN hr1 hb1 hN3
    go_wp2_with ((with_reducible show wpList _ _ _ (({ dst := _, op := .call { callee := .builtin .copy, args := _, argTypes := _ }, type := _, pos := _, after := _, guard := _ } : Oper) :: _) _ _); refine wpList_copy_rd _ _ 22 22 .u8 5 Try.underlying22 (by rw [hi]; simp [hz1]) _ _ (N - n) (N - n) m cb rfl rfl w.heap.size w.heap.size N N n (splice (List.replicate N 0) 0 xs) ys HO.out hr2 HN3.out (by have := HN3.out; omega) (fun h => rfl) ?_)
    intro w3 ho3 hg3
    have hb3 := hb2.grown hg3 hb2.size (by simp)
    have ho4 : Own .u8 5 w3 w.heap.size (.slice (some ⟨w.heap.size, 0, none⟩) N N) N (xs ++ ys) := by
      rw [← HS.out]
      exact ho3
    clear ho3 hg3
    go_wp2
    go_ret
    exact ⟨.slice (some ⟨w.heap.size, 0, none⟩) N N, rfl, RowI.of ho4, hb3⟩

/-- What a call leaves whose result lies in a box: the box of an argument and the result's own box. -/
theorem below_two (w : World) (o1 o2 : Obj) : Below w.heap.size w ((w.alloc o1).alloc o2) := ((Below.refl _ _).alloc (Nat.le_refl _) o1).alloc (by simp) o2

set_option maxHeartbeats 1600000 in
theorem implAppendFile_any (a b : Option Addr) (n m ca cb : Nat) (xs ys : List Int) (w : World) (ha : Rd .u8 w a n xs) (hb : Rd .u8 w b m ys) (h1 : n ≤ 1073741824) (h2 : m ≤ 1073741824) :
    Calls Try.prog 22 #[.agg #[.slice a n ca], .slice b m cb] w fun e w' => ∃ v, e = .returned (.agg #[.int .i64 (apCode xs ys), v]) ∧ RowI .u8 5 w' w.heap.size w'.heap.size v (apRes xs ys).length (apRes xs ys) ∧ Below w.heap.size w w' := by
  have hlen := ha.1
  have hlen2 := hb.1
  have hbt := below_two w
  by_cases hbig : 400 < n + m
  · have e1 : apCode xs ys = 2 := by unfold apCode; rw [if_pos (by omega)]
    have e2 : apRes xs ys = [] := by unfold apRes; rw [if_pos (by omega)]
    rw [e1, e2]
    clear e1 e2 hlen hlen2
    have hbig' : 400 - (n : Int) < (m : Int) := by omega
    by_cases hf : 400 < n
    · have e3 : fFault n = 2 := by unfold fFault; rw [if_pos hf]
      go_enter Try.func22, Try.ntmps22
      go_wp2_with fail
      refine (implFileFault_any a n ca _ h1).mono ?_
      rw [e3]
      rintro e w1 ⟨rfl, hb1⟩
      have d0 : w1.cell? ⟨w.heap.size + 1, 0, none⟩ = some (.int .i64 0) := cell_later hb1 (by simp [go_sem])
      have df0 : w1.frozen? ⟨w.heap.size + 1, 0, none⟩ = false := (hb1.frozen (p := ⟨w.heap.size + 1, 0, none⟩) (by simp)).trans (by simp [go_sem])
      have d1 : w1.cell? ⟨w.heap.size + 1, 1, none⟩ = some (.slice none 0 0) := cell_later hb1 (by simp [go_sem])
      have df1 : w1.frozen? ⟨w.heap.size + 1, 1, none⟩ = false := (hb1.frozen (p := ⟨w.heap.size + 1, 1, none⟩) (by simp)).trans (by simp [go_sem])
      have c0 : w1.cell? ⟨w.heap.size, 0, none⟩ = some (.slice a n ca) := cell_later hb1 (by simp [go_sem])
      have z1 : w.heap.size + 1 < w1.heap.size := by have := hb1.size; simp at this; omega
      have hb01 := (hbt _ _).trans (hb1.mono (by simp; omega))
      clear hb1 e3
      go_wp2
      exact bodyPost_ret (v := .agg #[.int .i64 2, .slice none 0 0]) (by simp [results, Try.results22, go_sem, d0, d1]) rfl ⟨_, rfl, RowI.nil _ _ _ _ _, (hb01.setCell (by simp) _).setCell (by simp) _⟩
    · have e3 : fFault n = 0 := by unfold fFault; rw [if_neg hf]
      go_enter Try.func22, Try.ntmps22
      go_wp2_with fail
      refine (implFileFault_any a n ca _ h1).mono ?_
      rw [e3]
      rintro e w1 ⟨rfl, hb1⟩
      have d0 : w1.cell? ⟨w.heap.size + 1, 0, none⟩ = some (.int .i64 0) := cell_later hb1 (by simp [go_sem])
      have df0 : w1.frozen? ⟨w.heap.size + 1, 0, none⟩ = false := (hb1.frozen (p := ⟨w.heap.size + 1, 0, none⟩) (by simp)).trans (by simp [go_sem])
      have d1 : w1.cell? ⟨w.heap.size + 1, 1, none⟩ = some (.slice none 0 0) := cell_later hb1 (by simp [go_sem])
      have df1 : w1.frozen? ⟨w.heap.size + 1, 1, none⟩ = false := (hb1.frozen (p := ⟨w.heap.size + 1, 1, none⟩) (by simp)).trans (by simp [go_sem])
      have c0 : w1.cell? ⟨w.heap.size, 0, none⟩ = some (.slice a n ca) := cell_later hb1 (by simp [go_sem])
      have z1 : w.heap.size + 1 < w1.heap.size := by have := hb1.size; simp at this; omega
      have hb01 := (hbt _ _).trans (hb1.mono (by simp; omega))
      clear hb1 e3
      go_wp2
      exact bodyPost_ret (v := .agg #[.int .i64 2, .slice none 0 0]) (by simp [results, Try.results22, go_sem, d0, d1]) rfl ⟨_, rfl, RowI.nil _ _ _ _ _, (hb01.setCell (by simp) _).setCell (by simp) _⟩
  · have e1 : apCode xs ys = 0 := by unfold apCode; rw [if_neg (by omega)]
    have e2 : apRes xs ys = xs ++ ys := by unfold apRes; rw [if_neg (by omega)]
    have e3 : fFault n = 0 := by unfold fFault; rw [if_neg (by omega)]
    have e4 : (xs ++ ys).length = n + m := by simp; omega
    rw [e1, e2, e4]
    clear e1 e2 e4 hlen hlen2
    have hbig' : ¬ 400 - (n : Int) < (m : Int) := by omega
    go_enter Try.func22, Try.ntmps22
    go_wp2_with fail
    refine (implFileFault_any a n ca _ h1).mono ?_
    rw [e3]
    rintro e w1 ⟨rfl, hb1⟩
    have d0 : w1.cell? ⟨w.heap.size + 1, 0, none⟩ = some (.int .i64 0) := cell_later hb1 (by simp [go_sem])
    have df0 : w1.frozen? ⟨w.heap.size + 1, 0, none⟩ = false := (hb1.frozen (p := ⟨w.heap.size + 1, 0, none⟩) (by simp)).trans (by simp [go_sem])
    have d1 : w1.cell? ⟨w.heap.size + 1, 1, none⟩ = some (.slice none 0 0) := cell_later hb1 (by simp [go_sem])
    have df1 : w1.frozen? ⟨w.heap.size + 1, 1, none⟩ = false := (hb1.frozen (p := ⟨w.heap.size + 1, 1, none⟩) (by simp)).trans (by simp [go_sem])
    have c0 : w1.cell? ⟨w.heap.size, 0, none⟩ = some (.slice a n ca) := cell_later hb1 (by simp [go_sem])
    have z1 : w.heap.size + 1 < w1.heap.size := by have := hb1.size; simp at this; omega
    have hb01 := (hbt _ _).trans (hb1.mono (by simp; omega))
    clear hb1 e3
    go_wp2_with fail
    refine (joined_any a b n m ca cb xs ys _ (ha.below hb01) (hb.below hb01) h1 h2).mono ?_
    rintro e w2 ⟨v2, rfl, ho2, hb2⟩
    obtain ⟨av, cv, rfl, _⟩ := ho2.shape
    have g0 := cell_later hb2 d0
    have g1 := cell_later hb2 d1
    have k0 := (hb2.frozen (p := ⟨w.heap.size + 1, 0, none⟩) z1).trans df0
    have k1 := (hb2.frozen (p := ⟨w.heap.size + 1, 1, none⟩) z1).trans df1
    have hb02 := hb01.trans (hb2.mono hb01.size)
    clear d0 d1 df0 df1 c0 hb2
    go_wp2
    exact bodyPost_ret (v := .agg #[.int .i64 0, .slice av (n + m) cv]) (by simp [results, Try.results22, go_sem, g0, g1]) rfl ⟨_, rfl, RowI.mono (RowI.of ((ho2.1.setBelow (by simp; omega) _).setBelow (by simp; omega) _)) (by omega) (Nat.le_refl _), (hb02.setCell (by simp) _).setCell (by simp) _⟩

end Go.Proofs.Ytocophekfbhfbaa
