/-
  Contracts of the specification's functions of lines.
-/
import Derived.Test.YtocophekfbhfbaaLinesM
import Derived.Test.YtocophekfbhfbaaFiles3
namespace Go.Proofs.Ytocophekfbhfbaa
open Go.RowKit
set_option linter.unusedVariables false

theorem infoL : (Try.prog.info? 192).map (fun i => (i.zero, i.size, i.bytes)) = some (some (.agg #[.int .i64 0, .int .i64 0]), 2, 16) := by kernel_rfl
theorem lineE_one (c : L2) : ∀ u ∈ lineE c, u.oneCell' = true := by
  intro u hu
  simp [lineE] at hu
  rcases hu with rfl | rfl <;> rfl

theorem ownL_snoc {e : TypeId} {w : World} {base n : Nat} {v : Value} {xs : List L2} {c : L2} (h : xs.length = n) (ho : w.ownsRow base e 2 v (n + 1) (xs.flatMap lineE ++ lineE c)) : OwnR lineE 2 e w base v (n + 1) (xs ++ [c]) :=
  ⟨by simp [h], by simpa using ho⟩

theorem own_emptyL (w : World) (base : Nat) (hb : base ≤ w.heap.size) : OwnR lineE 2 192 (w.alloc (.cells #[] 192)) base (.slice (some ⟨w.heap.size, 0, none⟩) 0 0) 0 [] :=
  ⟨rfl, World.ownsRow_lit w #[] 0 hb (by simp [maxLen]) rfl⟩

theorem lnsA_at {xs : List Int} {f i : Nat} (hi : i < xs.length) : lnsA f i (xs.drop i) = if xs.getD i 0 = 10 then ((f : Int), (i : Int) - f) :: lnsA (i + 1) (i + 1) (xs.drop (i + 1)) else lnsA f (i + 1) (xs.drop (i + 1)) := by
  rw [List.drop_eq_getElem_cons hi, lnsA]
  simp [List.getD_eq_getElem?_getD, hi]

set_option maxRecDepth 4000 in
set_option maxHeartbeats 1600000 in
theorem l2Lines_any (b : Nat) (a : Option Addr) (n ca : Nat) (xs : List Int) (w : World) (hc : w.cell? ⟨b, 0, none⟩ = some (.slice a n ca)) (ha : Rd .u8 w a n xs) (h1 : n ≤ 1073741824) :
    Calls Try.prog 135 #[.pointer (some ⟨b, 0, none⟩)] w fun e w' => ∃ v, e = .returned v ∧ RowS lineE 2 192 w' w.heap.size w'.heap.size v (lns xs).length (lns xs) ∧ Below w.heap.size w w' := by
  obtain ⟨i0, hi, hz0, hz1, hz2⟩ := info_parts infoL
  have hlen := ha.1
  have hbw : b < w.heap.size := World.block_lt_of_cell? _ _ hc
  have hol := own_emptyL w w.heap.size (Nat.le_refl _)
  have hbl := (Below.refl w.heap.size w).alloc (Nat.le_refl _) (.cells #[] 192)
  go_enter Try.func135, Try.ntmps135
  go_wp2
  go_loopw [3, 4, 5] (fun v F I wr => ∃ (i f : Nat) (out : List L2), f ≤ i ∧ i ≤ n ∧ out.length ≤ i ∧ F = .int .i64 f ∧ I = .int .i64 i ∧ out ++ lnsA f i (xs.drop i) = lns xs ∧ OwnR lineE 2 192 wr w.heap.size v out.length out ∧ Below w.heap.size w wr) (fun _ _ I _ => n - (intOf I).toNat)
  case atStart => exact ⟨0, 0, [], by omega, by omega, by simp, rfl, rfl, by simp [lns], hol, hbl⟩
  case round =>
    obtain ⟨i, f, out, hfi, hin, hol2, rfl, rfl, hx, ho, hb⟩ := hrel
    obtain ⟨av, cap, hv, _⟩ := ho.rd lineE_len
    subst hv
    have hcw := cell_later hb hc
    have hzw := hb.size
    have HX : Hid _ := hx
    clear hx
    by_cases hlt : i < n
    · have hlt' : (i : Int) < (n : Int) := by omega
      obtain ⟨b1, o1, rfl, hc1⟩ := (ha.below hb).at hlt
      have hk1 := hc1 i hlt
      have hA := lnsA_at (f := f) (show i < xs.length by omega)
      have HA : Hid _ := hA
      clear hA hc1
      generalize xs.getD i 0 = x at *
      by_cases h10 : x = 10
      · subst h10
        have hst := HX.out
        rw [HA.out, if_pos rfl] at hst
        have HS : Hid _ := hst
        clear hst HA HX
        obtain ⟨m, hm⟩ : ∃ m, m = out.length := ⟨_, rfl⟩
        rw [← hm] at ho hol2 ⊢
        have HM : Hid _ := hm
        clear hm
        go_wp2_with (at_builtin; refine wpList_append_own _ rfl _ _ 99 rfl w.heap.size 192 i0 (.agg #[.int .i64 0, .int .i64 0]) 2 16 Try.underlying99 hi hz0 hz1 hz2 rfl (by decide) _ _ _ rfl (ho.alloc _).2 ⟨wr.heap.size, 0, none⟩ 1 1 (lineE ((f : Int), (i : Int) - (f : Int))) rfl rfl (cells_new wr #[.int .i64 f, .int .i64 ((i : Int) - (f : Int))] 192) (lineE_one _) (by unfold maxLen; omega) (by omega) (by simp; omega) ?_)
        intro v' w3 ho4 hg4 _
        have lo := ho.lt
        have hb3 : Below w.heap.size w w3 := (hb.alloc hzw _).grown hg4 (by simp; omega) (fun k hk => (lo k hk).1)
        have ho5 := ownL_snoc HM.out.symm ho4
        obtain ⟨av2, cap2, hv2, _⟩ := ho5.rd lineE_len
        subst hv2
        clear ho4 hg4 ho lo hb
        go_wp2
        go_roundw
        case rel => exact ⟨i + 1, i + 1, out ++ [((f : Int), (i : Int) - f)], by omega, by omega, by simp; rw [← HM.out]; omega, by go_num, by go_num, by rw [List.append_assoc]; exact HS.out, by rw [List.length_append, ← HM.out]; exact ho5, hb3⟩
        case measure => simp [intOf]; omega
      · have hst := HX.out
        rw [HA.out, if_neg h10] at hst
        have HS : Hid _ := hst
        clear hst HA HX
        have h10' : (x == 10) = false := by simpa using h10
        go_wp2
        go_roundw
        case rel => exact ⟨i + 1, f, out, by omega, by omega, by omega, rfl, by go_num, HS.out, ho, hb⟩
        case measure => simp [intOf]; omega
    · obtain rfl : i = n := by omega
      have hst := HX.out
      rw [List.drop_of_length_le (by omega), lnsA] at hst
      by_cases hf : f < i
      · rw [if_pos hf] at hst
        have hf' : (f : Int) < (i : Int) := by omega
        have HS : Hid _ := hst
        clear hst HX
        obtain ⟨m, hm⟩ : ∃ m, m = out.length := ⟨_, rfl⟩
        rw [← hm] at ho hol2 ⊢
        have HM : Hid _ := hm
        clear hm
        go_wp2_with (at_builtin; refine wpList_append_own _ rfl _ _ 99 rfl w.heap.size 192 i0 (.agg #[.int .i64 0, .int .i64 0]) 2 16 Try.underlying99 hi hz0 hz1 hz2 rfl (by decide) _ _ _ rfl (ho.alloc _).2 ⟨wr.heap.size, 0, none⟩ 1 1 (lineE ((f : Int), (i : Int) - (f : Int))) rfl rfl (cells_new wr #[.int .i64 f, .int .i64 ((i : Int) - (f : Int))] 192) (lineE_one _) (by unfold maxLen; omega) (by omega) (by simp; omega) ?_)
        intro v' w3 ho4 hg4 _
        have lo := ho.lt
        have hb3 : Below w.heap.size w w3 := (hb.alloc hzw _).grown hg4 (by simp; omega) (fun k hk => (lo k hk).1)
        have ho5 := ownL_snoc HM.out.symm ho4
        obtain ⟨av2, cap2, hv2, _⟩ := ho5.rd lineE_len
        subst hv2
        clear ho4 hg4 ho lo hb
        go_wp2
        go_ret
        refine ⟨_, rfl, ?_, hb3⟩
        rw [← HS.out, List.length_append, ← HM.out]
        exact RowS.of ho5
      · rw [if_neg hf, List.append_nil] at hst
        have hf' : ¬ (f : Int) < (i : Int) := by omega
        go_wp2
        go_ret
        rw [← hst]
        exact ⟨_, rfl, RowS.of ho, hb⟩
end Go.Proofs.Ytocophekfbhfbaa
