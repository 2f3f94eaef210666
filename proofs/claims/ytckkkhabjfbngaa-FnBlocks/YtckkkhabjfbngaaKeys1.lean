/-
  The keys of the shelf's map, handed out by the library's iterator.
-/
import Derived.Test.YtckkkhabjfbngaaMapG
import Derived.RangeFuncNested
import Derived.RangeFuncBound
import Derived.RangeFuncCalls
import Derived.RangeFuncLeaves
import Derived.RangeFuncBox
import Derived.Shelf.Abstract
import Derived.OwnWalkIn
import Derived.RegionIn
import Derived.BigRegionIn
import Derived.TacticsInMore
import Derived.LoopNIn
import Derived.LoopIn
namespace Go.Proofs.Ytckkkhabjfbngaa
open Go.RowKit Go.Shelf Go.ChangeMaps Go.MapKept
set_option linter.unusedVariables false
attribute [local go_sem] Oper.semAt_some

theorem OwnG.left_eq {U : Int} {w : World} {b r : Nat} {B left : List En} (h : OwnG U w b r B left) : w.rangeLeft b r = left.length := by
  obtain ⟨es, clock, since, seen, c0, hb, hst, hp, hk, hr, hold, hsc, hsk, hleft⟩ := h
  have := hleft.length_eq
  simp only [List.length_map, Array.length_toList] at this
  simp [World.rangeLeft, hb, hr, this]

theorem OwnG.walks {U : Int} {w w' : World} {b r : Nat} {B left : List En} (h : OwnG U w b r B left) (hk : KeepsWalks w w') : OwnG U w' b r B left := by
  obtain ⟨es, clock, since, seen, c0, hb, hst, hp, hk', hr, hold, hsc, hsk, hleft⟩ := h
  exact ⟨es, clock, since, seen, c0, hk.2 _ _ hb rfl, hst, hp, hk', hk.2 _ _ hr rfl, hold, hsc, hsk, hleft⟩

theorem OwnG.iter_walk {U : Int} {w : World} {b r : Nat} {B left : List En} (h : OwnG U w b r B left) : ∃ o : Obj, w.heap[r]? = some o ∧ o.isWalk = true := by
  obtain ⟨es, clock, since, seen, c0, hb, hst, hp, hk, hr, _⟩ := h
  exact ⟨_, hr, rfl⟩

set_option maxRecDepth 100000 in
set_option maxHeartbeats 2000000 in
theorem keys1_in (d : Nat) (hn : 1 ≤ d) (l Bm b : Nat) (U : Int) (B : List En) (J Jx : List En → World → Prop)
    (hY : ∀ pre x W, J pre W → pre.length < B.length → YieldAt Fence.wide (d - 1) Try.prog l #[kv U x.num] W fun e W' =>
      (e = .returned (.bool true) ∧ J (pre ++ [x]) W' ∧ KeepsWalks W W') ∨ (e = .returned (.bool false) ∧ Jx (pre ++ [x]) W'))
    (W : World) (hJ : AbidesFrom W.heap.size J) (hm : W.cell? ⟨Bm, 0, none⟩ = some (.map (some b))) (hown : OwnE U W b B) (h0 : J [] W) :
    CallsIn Fence.wide d Try.prog 104 #[.func (.yield l) #[] #[], .pointer (some ⟨Bm, 0, none⟩)] W fun e W' => (∃ v, e = .returned v) ∧
      ((∃ ys, ys.Perm B ∧ J ys W') ∨ (∃ pre, True ∧ Jx pre W')) := by
  refine callsIn_of_wp Try.func104 rfl trivial ?_ rfl
  simp only [Try.ntmps104, List.size_toArray, List.length_cons, List.length_nil, Nat.reduceAdd, Nat.reduceSub, Array.replicate_succ, Array.replicate_zero, List.push_toArray, List.append_toArray, List.nil_append, List.cons_append]
  obtain ⟨w0, hrun0, hg0, hb0, hs0⟩ := hown.range
  gi_wp2
  gi_loopw [3] (fun _ wr => ∃ (left pre : List En), OwnG U wr b W.heap.size B left ∧ (pre ++ left).Perm B ∧ J pre wr) (fun _ wr => wr.rangeLeft b W.heap.size)
  case atStart => exact ⟨B, [], hg0, by simp, hJ [] W w0 none h0 (grownBy_of_below hb0) (fun r e => by cases e)⟩
  case round =>
    obtain ⟨left, pre, hg, hp, hJs⟩ := hrel
    rcases hg.next 0 with ⟨hl, hrun⟩ | ⟨x, rest, w2, hl, hxB, hrun, hg2, hgr, hsz, hent⟩
    · gi_wp2
      go_end0
      subst hl
      exact ⟨⟨_, rfl⟩, .inl ⟨pre, by simpa using hp, hJs⟩⟩
    · have hJ2 : J pre w2 := hJ pre wr w2 (some W.heap.size) hJs hgr (fun r e => by cases e; exact ⟨Nat.le_refl _, hg.iter_walk⟩)
      have hJ3 : J pre (w2.alloc (.cells #[.int .i64 U, .int .i64 x.num] 95)) := hJ pre w2 _ none hJ2 (World.grownBy_alloc w2 _ none) (fun r e => by cases e)
      have hlen : pre.length < B.length := by
        have := (((List.Perm.append_left pre hl).symm).trans hp).length_eq
        simp at this
        omega
      have hp2 : ((pre ++ [x]) ++ rest).Perm B := by
        rw [List.append_assoc]
        exact (List.Perm.append_left pre hl).symm.trans hp
      obtain ⟨fn, tmps, assign, body, hy, hR⟩ := hY pre x _ hJ3 hlen
      have hk0 := hg2.below ((Below.refl _ _).alloc (Nat.le_refl _) (.cells #[.int .i64 U, .int .i64 x.num] 95))
      have hmeas : rest.length < left.length := by have := hl.length_eq; simp at this; omega
      simp only [kv] at hy hrun hent
      clear hl hp hsz
      gi_wp2
      refine hR.mono ?_
      rintro e W3 (⟨rfl, hJ4, hk3⟩ | ⟨rfl, hJx3⟩)
      · have hg3 := hk0.walks hk3
        gi_wp2
        go_roundw
        case rel => exact ⟨rest, pre ++ [x], hg3, hp2, hJ4⟩
        case measure => rw [hg3.left_eq, hg.left_eq]; exact hmeas
      · gi_wp2
        refine bodyPost_ret (results_none rfl _ _ _) rfl ?_
        exact ⟨⟨_, rfl⟩, .inr ⟨pre ++ [x], trivial, hJx3⟩⟩

set_option maxHeartbeats 1000000 in
theorem keys_in (d : Nat) (b : Nat) (w : World) :
    CallsIn Fence.wide d Try.prog 87 #[.map (some b)] w fun e w' => e = .returned (.func (.func 104) #[] #[.pointer (some ⟨w.heap.size, 0, none⟩)]) ∧ w' = w.alloc (.cells #[.map (some b)] 119) := by
  refine callsIn_of_wp Try.func87 rfl trivial ?_ rfl
  simp only [Try.ntmps87, List.size_toArray, List.length_cons, List.length_nil, Nat.reduceAdd, Nat.reduceSub, Array.replicate_succ, Array.replicate_zero, List.push_toArray, List.append_toArray, List.nil_append, List.cons_append]
  gi_wp2
  go_ret
  exact ⟨rfl, rfl⟩

theorem keys_stops (d : Nat) (hn : 1 ≤ d) (Bm b : Nat) (U : Int) (B : List En) (w : World) (hm : w.cell? ⟨Bm, 0, none⟩ = some (.map (some b))) (hown : OwnE U w b B) :
    SeqStopsK Fence.wide d Try.prog 104 #[.pointer (some ⟨Bm, 0, none⟩)] (fun x : En => #[kv U x.num]) KeepsWalks (fun ys => ys.Perm B) (fun _ => True) B.length w :=
  fun l J Jx W hW hJ _ hY h0 => keys1_in d hn l Bm b U B J Jx hY W hJ (cell_later hW hm) (hown.below hW) h0
end Go.Proofs.Ytckkkhabjfbngaa
