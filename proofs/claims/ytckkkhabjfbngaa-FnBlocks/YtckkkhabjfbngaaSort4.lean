/-
  The keys of the shelf's map, collected and sorted: slices.Collect, slices.SortFunc at nothing, slices.SortedFunc.
-/
import Derived.Test.YtckkkhabjfbngaaSort3
import Derived.Test.YtckkkhabjfbngaaKeys2
namespace Go.Proofs.Ytckkkhabjfbngaa
open Go.RowKit Go.Shelf Go.ChangeMaps Go.MapKept
set_option linter.unusedVariables false

set_option maxRecDepth 20000 in
set_option maxHeartbeats 2000000 in
theorem collect_any (Bm b : Nat) (U : Int) (B : List En) (w : World) (hm : w.cell? ⟨Bm, 0, none⟩ = some (.map (some b))) (hown : OwnE U w b B) (hl : B.length ≤ 1000) :
    Calls Try.prog 102 #[.func (.func 104) #[] #[.pointer (some ⟨Bm, 0, none⟩)]] w fun e w' =>
      ∃ (v : Value) (ys : List En), e = .returned v ∧ ys.Perm B ∧ w'.ownsRow w.heap.size 95 2 v ys.length (ys.flatMap (keyE U)) ∧ Below w.heap.size w w' := by
  have AS := (callsIn_wide (n := 2)).1 (appendSeq_in 2 (by omega) Bm b U B w hm hown hl)
  go_enter Try.func102, Try.ntmps102
  go_wp2_with (go_at_call 107; refine AS.mono ?_; rintro e w1 ⟨v, ys, rfl, hp, hrow, hb⟩)
  go_wp2
  go_ret
  exact ⟨v, ys, rfl, hp, hrow, hb⟩

set_option maxRecDepth 20000 in
set_option maxHeartbeats 2000000 in
theorem insertion_nil (f : Value) (w : World) :
    Calls Try.prog 111 #[.slice none 0 0, .int .i64 0, .int .i64 0, f] w fun e w' => e = .returned (.tuple #[]) ∧ w' = w := by
  go_enter Try.func111, Try.ntmps111
  go_wp2
  refine wp_loop_rounds 1 ?_
  rw [rounds_succ]
  go_wp2
  go_end0
  exact ⟨rfl, rfl⟩

set_option maxRecDepth 20000 in
set_option maxHeartbeats 2000000 in
theorem pdq_nil (l : Int) (f : Value) (w : World) :
    Calls Try.prog 108 #[.slice none 0 0, .int .i64 0, .int .i64 0, .int .i64 l, f] w fun e w' => e = .returned (.tuple #[]) ∧ w' = w := by
  go_enter Try.func108, Try.ntmps108
  go_wp2
  refine wp_loop_rounds 1 ?_
  rw [rounds_succ]
  go_wp2_with (go_at_call 111; refine (insertion_nil f _).mono ?_; rintro e w2 ⟨rfl, rfl⟩)
  refine bodyPost_ret (results_none rfl _ _ _) rfl ?_
  exact ⟨rfl, rfl⟩

set_option maxRecDepth 20000 in
set_option maxHeartbeats 2000000 in
theorem sortFunc_nil (f : Value) (w : World) :
    Calls Try.prog 103 #[.slice none 0 0, f] w fun e w' => e = .returned (.tuple #[]) ∧ w' = w := by
  go_enter Try.func103, Try.ntmps103
  go_wp2_with (first | (go_at_call 109; refine (bitsLen_small 0 _ (by omega)).mono ?_; rintro e w2 ⟨⟨l, rfl⟩, rfl⟩) | (go_at_call 108; refine (pdq_nil _ f _).mono ?_; rintro e w3 ⟨rfl, rfl⟩))
  go_end0
  exact ⟨rfl, rfl⟩

set_option maxRecDepth 20000 in
set_option maxHeartbeats 2000000 in
theorem sortedFunc_any (U : Int) (bm Bm Bs : Nat) (B : List En) (w : World) (hm : w.cell? ⟨Bm, 0, none⟩ = some (.map (some bm))) (hown : OwnE U w bm B) (cs : w.cell? ⟨Bs, 0, none⟩ = some (.pointer (some ⟨bm + 1, 0, none⟩))) (cm : w.cell? ⟨bm + 1, 3, none⟩ = some (.map (some bm)))
    (hup : Up B) (hB : (B.map (·.turn)).Nodup) (hl : B.length ≤ 12) (hbm : bm + 1 < w.heap.size) (hBs : Bs < w.heap.size) :
    Calls Try.prog 86 #[.func (.func 104) #[] #[.pointer (some ⟨Bm, 0, none⟩)], .func (.func 88) #[] #[.pointer (some ⟨Bs, 0, none⟩)]] w fun e w' =>
      ∃ v, e = .returned v ∧ OwnR (keyE U) 2 95 w' w.heap.size v B.length B ∧ Below w.heap.size w w' := by
  go_enter Try.func86, Try.ntmps86
  go_wp2_with fail
  refine (collect_any Bm bm U B w hm hown (by omega)).mono ?_
  rintro e w1 ⟨v, ys, rfl, hp, hrow, hb⟩
  have hyl := hp.length_eq
  rcases hrow.2 with ⟨rfl, h0⟩ | ⟨g, cap, cur, rfl, hg, _⟩
  · have hy : ys = [] := List.eq_nil_of_length_eq_zero h0
    subst hy
    have hBn : B = [] := List.nil_perm.1 hp
    subst hBn
    go_wp2_with fail
    refine (sortFunc_nil _ w1).mono ?_
    rintro e w2 ⟨rfl, rfl⟩
    go_wp2
    go_ret
    exact ⟨_, rfl, OwnR.nil _ _ _ _ _, hb⟩
  · have hrow' : OwnR (keyE U) 2 95 w1 w.heap.size (.slice (some ⟨g, 0, none⟩) ys.length cap) ys.length ys := ⟨rfl, hrow⟩
    have SF := sortFunc_any U bm Bs g ys.length cap w.heap.size B ys w1 hp hup hB (by omega) hg hbm hBs hb.size (cell_later hb cs) (cell_later hb cm) (hown.below hb) hrow'
    rw [hyl] at SF ⊢
    have HSF := hid SF
    clear SF hrow' hrow
    go_wp2_with fail
    refine HSF.out.mono ?_
    rintro e w2 ⟨rfl, hr2, hb2⟩
    have HR2 := hid hr2
    clear hr2
    go_wp2
    go_ret
    exact ⟨_, rfl, HR2.out, hb.trans hb2⟩
end Go.Proofs.Ytckkkhabjfbngaa
