/-
  The shelf of a cache.
-/
import Derived.Test.YtckkkhabjfbngaaShelf1
namespace Go.Proofs.Ytckkkhabjfbngaa
open Go.RowKit Go.ChangeMaps Go.MapKept
set_option linter.unusedVariables false
set_option linter.unusedSimpArgs false

theorem take_fresh {bs : List Bk} {k : Nat} {num : Int} {xs : List Int} (hn : (bs.map (·.1)).Nodup) (hx : bs[k]? = some (num, xs)) : lessB (bs.take k) num ++ [(num, xs)] = bs.take (k + 1) := by
  have hk := (List.getElem?_eq_some_iff.1 hx).1
  have h1 : lessB (bs.take k) num = bs.take k := by
    unfold lessB
    refine List.filter_eq_self.2 (fun b hb => ?_)
    obtain ⟨j, hj, rfl⟩ := List.mem_iff_getElem.1 hb
    have hj' : j < k := by simp at hj; omega
    simp only [List.getElem_take, decide_eq_true_eq]
    intro e
    have h3 : bs[k].1 = num := by have := (List.getElem?_eq_some_iff.1 hx).2; rw [this]
    have := (List.pairwise_iff_getElem.1 hn) j k (by simp; omega) (by simpa using hk) hj'
    simp only [List.getElem_map] at this
    exact this (by rw [e, h3])
  rw [h1, List.take_add_one, hx]
  rfl

set_option maxHeartbeats 1600000 in
set_option maxRecDepth 20000 in
theorem shelfOf_any (U Z : Int) (a : Option Addr) (n ca : Nat) (bs : List Bk) (w : World) (ha : RdB w a n bs) (hok : OkC U Z bs) (hca : n ≤ 1048576) :
    Calls Try.prog 49 #[.agg #[.int .i64 U, .int .i64 Z, .slice a n ca]] w fun e w' => ∃ (E : List En), e = .returned (.pointer (some ⟨w.heap.size + 2, 0, none⟩)) ∧ Shelf (w.heap.size + 1) U Z n w' E bs ∧ Below w.heap.size w w' := by
  have hlen := ha.len
  have hu1 := hok.u1
  have hu2 := hok.u2
  have HK : Hid (OkC U Z bs) := hok
  have hl6 : n ≤ 6 := by have := hok.len; have := hok.z2; omega
  clear hok
  have hmm := @run_makeMap Try.prog
  obtain ⟨W0, hW0⟩ : ∃ W0, W0 = ((w.alloc (Obj.cells #[Value.int .i64 U, Value.int .i64 Z, Value.slice a n ca] 26)).alloc (Obj.map #[] 0)).alloc (Obj.cells #[Value.int .i64 U, Value.int .i64 Z, Value.int .i64 0, Value.map (some (w.heap.size + 1))] 121) := ⟨_, rfl⟩
  have hB0 : Below w.heap.size w W0 := by
    rw [hW0]
    exact (((Below.refl _ _).alloc (Nat.le_refl _) _).alloc (by simp) _).alloc (by simp; omega) _
  have hz0 : W0.heap.size = w.heap.size + 3 := by rw [hW0]; simp
  have bx0 : Blk W0 w.heap.size #[.int .i64 U, .int .i64 Z, .slice a n ca] 26 := by
    rw [hW0]
    exact ((Blk.new w _ _).alloc _).alloc _
  have sh0 : Shelf (w.heap.size + 1) U Z 0 W0 [] (bs.take 0) := by
    refine ⟨?_, ?_, HoldE.nil _ _, List.Pairwise.nil, fun e he => by simp at he, by omega, by omega⟩
    · rw [hW0]
      have h := ownE_made U (w.alloc (Obj.cells #[Value.int .i64 U, Value.int .i64 Z, Value.slice a n ca] 26))
      rw [World.size_alloc] at h
      exact h.below ((Below.refl _ _).alloc (Nat.le_refl _) _)
    · rw [hW0]
      have h := Blk.new ((w.alloc (Obj.cells #[Value.int .i64 U, Value.int .i64 Z, Value.slice a n ca] 26)).alloc (Obj.map #[] 0)) #[.int .i64 U, .int .i64 Z, .int .i64 0, .map (some (w.heap.size + 1))] 121
      rw [World.size_alloc, World.size_alloc] at h
      exact h
  go_enter Try.func49, Try.ntmps49
  go_wp2
  rw [← hW0]
  clear hW0
  go_loopw [16] (fun i wr => ∃ (k : Nat) (E : List En), k ≤ n ∧ i = .int .i64 k ∧ Shelf (w.heap.size + 1) U Z k wr E (bs.take k) ∧ Blk wr w.heap.size #[.int .i64 U, .int .i64 Z, .slice a n ca] 26 ∧ Below w.heap.size w wr) (fun i _ => n - (intOf i).toNat)
  case atStart => exact ⟨0, [], Nat.zero_le _, rfl, sh0, bx0, hB0⟩
  case round =>
    obtain ⟨k, E, hk, rfl, hsh, hbx, hbw⟩ := hrel
    clear sh0 bx0 hB0
    have hlt2 := hsh.blk.lt
    by_cases hlt : k < n
    · have hlt' : (k : Int) < (n : Int) := by omega
      obtain ⟨blk, off, num, a', c', xs, rfl, hx, e0, e1, hr, hc1, hc2⟩ := (ha.below hbw).at hlt
      obtain ⟨blk2, off2, num2, a2, c2', xs2, he2, hx2, f0, f1, hr2, _⟩ := ha.at hlt
      obtain ⟨rfl, rfl⟩ : blk = blk2 ∧ off = off2 := by simpa using he2
      have hKK := HK.out
      have hbb := hKK.each (num, xs) (List.mem_of_getElem? hx)
      simp only at hbb
      have g0 := hbx.cell 0
      simp at g0
      obtain ⟨hn2, hx22⟩ : num = num2 ∧ xs = xs2 := by rw [hx] at hx2; simpa using hx2
      subst hn2
      subst hx22
      have e1' := cell_later hbw f1
      obtain ⟨ha2, hcc⟩ : a' = a2 ∧ c' = c2' := by rw [e1] at e1'; simpa using e1'
      subst ha2
      have hap : ∀ ad, a' = some ad → xs.length = 0 ∨ ad.block < w.heap.size + 1 ∨ w.heap.size + 1 + 2 ≤ ad.block := fun ad had => by
        rcases hr2.2 with q | ⟨q1, q2, q3, q4⟩
        · exact .inl q
        · by_cases hl0 : xs.length = 0
          · exact .inl hl0
          · have hlt3 := block_lt_of_cell (q4 0 (by omega))
            rw [had] at q3
            simp at q3
            subst q3
            exact .inr (.inl (by simp at hlt3 ⊢; omega))
      have CP : Hid _ := fun w' (h1 : Shelf (w.heap.size + 1) U Z k w' E (bs.take k)) (h2 : Rd .u8 w' a' xs.length xs) => put_any (w.heap.size + 1) U Z k E (bs.take k) num a' c' xs w' h1 (keyOk (by omega) (by omega) (by omega) (by omega)) h2 hc1 hc2 hap (by omega)
      rw [take_fresh hKK.nodup hx] at CP
      have hzz : w.heap.size < wr.heap.size := by omega
      have B1 : ∀ o, Below wr.heap.size wr (wr.alloc o) := fun o => (Below.refl _ _).alloc (Nat.le_refl _) o
      clear hx hx2 hr2 f0 f1 he2 hKK e1' hcc hap
      go_wp2_with fail
      refine Calls.mono (CP.out _ (hsh.below (B1 _)) (hr.below (B1 _))) ?_
      rintro e w2 ⟨rfl, hs2, hC2⟩
      have hb2 : Below w.heap.size w w2 := below_chg (hbw.trans ((B1 _).mono hbw.size)) hC2 (by simp; omega) (by omega)
      have hbx2 : Blk w2 w.heap.size #[.int .i64 U, .int .i64 Z, .slice (some ⟨blk, off, none⟩) n ca] 26 := (hC2.block w.heap.size (by simp; omega) (by omega)).trans (hbx.alloc _)
      clear hC2 hbx hsh
      go_wp2
      go_roundw
      case rel => exact ⟨k + 1, _, by omega, by go_num, by simpa using hs2, hbx2, hb2⟩
      case measure => simp [intOf]; omega
    · obtain rfl : k = n := by omega
      rw [List.take_of_length_le (by omega)] at hsh
      go_wp2
      go_ret
      exact ⟨E, rfl, hsh, hbw⟩
end Go.Proofs.Ytckkkhabjfbngaa
