/-
  The library's SortFunc over the shelf's keys, few as they are.
-/
import Derived.Test.YtckkkhabjfbngaaSort2
namespace Go.Proofs.Ytckkkhabjfbngaa
open Go.RowKit Go.ChangeMaps Go.MapKept
set_option linter.unusedVariables false

/-- Two lists of the same entries, both in the order of their turns, are one. -/
theorem up_unique : ∀ {a b : List En}, a.Perm b → Up a → Up b → a = b
  | [], b, h, _, _ => by rw [List.nil_perm.1 h]
  | x :: a, [], h, _, _ => by simpa using h.length_eq
  | x :: a, y :: b, h, ha, hb => by
    have hxy : x = y := by
      have h1 : x ∈ y :: b := h.mem_iff.1 List.mem_cons_self
      have h2 : y ∈ x :: a := h.mem_iff.2 List.mem_cons_self
      rcases List.mem_cons.1 h1 with e | h1
      · exact e
      · rcases List.mem_cons.1 h2 with e | h2
        · exact e.symm
        · have k1 := (List.pairwise_cons.1 hb).1 x h1
          have k2 := (List.pairwise_cons.1 ha).1 y h2
          omega
    subst hxy
    rw [up_unique h.cons_inv (List.pairwise_cons.1 ha).2 (List.pairwise_cons.1 hb).2]

set_option maxRecDepth 20000 in
set_option maxHeartbeats 2000000 in
theorem pdqsort_any (U l : Int) (bm Bs g n cap base : Nat) (B ys : List En) (w : World) (hp : ys.Perm B) (hB : (B.map (·.turn)).Nodup) (hn : n ≤ 12) (hg : base ≤ g) (hbm : bm + 1 < base) (hBs : Bs < base) (hbase : base ≤ w.heap.size)
    (cs : w.cell? ⟨Bs, 0, none⟩ = some (.pointer (some ⟨bm + 1, 0, none⟩))) (cm : w.cell? ⟨bm + 1, 3, none⟩ = some (.map (some bm))) (hown : OwnE U w bm B) (hrow : OwnR (keyE U) 2 95 w base (.slice (some ⟨g, 0, none⟩) n cap) n ys) :
    Calls Try.prog 108 #[.slice (some ⟨g, 0, none⟩) n cap, .int .i64 0, .int .i64 n, .int .i64 l, .func (.func 88) #[] #[.pointer (some ⟨Bs, 0, none⟩)]] w fun e w' => e = .returned (.tuple #[]) ∧ (∃ zs, zs.Perm B ∧ Up zs ∧ OwnR (keyE U) 2 95 w' base (.slice (some ⟨g, 0, none⟩) n cap) n zs) ∧ Below base w w' := by
  have hn' : (n : Int) ≤ 12 := by omega
  have IS := insertionSort_any U bm Bs g n cap base B ys w hp hB (by omega) hg hbm hBs hbase cs cm hown hrow
  go_enter Try.func108, Try.ntmps108
  go_wp2
  refine wp_loop_rounds 1 ?_
  rw [rounds_succ]
  go_wp2_with (go_at_call 111; refine IS.mono ?_; rintro e w2 ⟨rfl, hz, hb⟩)
  refine bodyPost_ret (results_none rfl _ _ _) rfl ?_
  exact ⟨rfl, hz, hb⟩

set_option maxRecDepth 20000 in
set_option maxHeartbeats 2000000 in
theorem sortFunc_any (U : Int) (bm Bs g n cap base : Nat) (B ys : List En) (w : World) (hp : ys.Perm B) (hup : Up B) (hB : (B.map (·.turn)).Nodup) (hn : n ≤ 12) (hg : base ≤ g) (hbm : bm + 1 < base) (hBs : Bs < base) (hbase : base ≤ w.heap.size)
    (cs : w.cell? ⟨Bs, 0, none⟩ = some (.pointer (some ⟨bm + 1, 0, none⟩))) (cm : w.cell? ⟨bm + 1, 3, none⟩ = some (.map (some bm))) (hown : OwnE U w bm B) (hrow : OwnR (keyE U) 2 95 w base (.slice (some ⟨g, 0, none⟩) n cap) n ys) :
    Calls Try.prog 103 #[.slice (some ⟨g, 0, none⟩) n cap, .func (.func 88) #[] #[.pointer (some ⟨Bs, 0, none⟩)]] w fun e w' => e = .returned (.tuple #[]) ∧ OwnR (keyE U) 2 95 w' base (.slice (some ⟨g, 0, none⟩) n cap) n B ∧ Below base w w' := by
  have PQ := fun l => pdqsort_any U l bm Bs g n cap base B ys w hp hB hn hg hbm hBs hbase cs cm hown hrow
  go_enter Try.func103, Try.ntmps103
  go_wp2_with (first | (go_at_call 109; refine (bitsLen_small n _ hn).mono ?_; rintro e w2 ⟨⟨l, rfl⟩, rfl⟩) | (go_at_call 108; refine (PQ _).mono ?_; rintro e w3 ⟨rfl, ⟨zs, z1, z2, z3⟩, hb⟩))
  go_end0
  obtain rfl := up_unique z1 z2 hup
  exact ⟨rfl, z3, hb⟩
end Go.Proofs.Ytckkkhabjfbngaa
