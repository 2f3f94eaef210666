/-
  ForgetFrom, of the specification.
-/
import Derived.Test.YtckkkhabjfbngaaForget1
import Derived.Test.YtckkkhabjfbngaaCache3
namespace Go.Proofs.Ytckkkhabjfbngaa
open Go.RowKit Go.ChangeMaps Go.MapKept
set_option linter.unusedVariables false
set_option linter.unusedSimpArgs false

theorem ownsRow_same {w : World} {lo : Nat} {e : TypeId} {size n : Nat} {v : Value} {xs ys : List Value} (h1 : w.ownsRow lo e size v n xs) (h2 : w.ownsRow lo e size v n ys) : xs = ys := by
  rcases h1.2 with ⟨rfl, rfl⟩ | ⟨g, cap, cur, rfl, _, hh, _, _, _, ht⟩
  · have l1 := h1.1
    have l2 := h2.1
    rw [Nat.zero_mul] at l1 l2
    rw [List.eq_nil_of_length_eq_zero l1, List.eq_nil_of_length_eq_zero l2]
  · rcases h2.2 with ⟨q, _⟩ | ⟨g2, cap2, cur2, q, _, hh2, _, _, _, ht2⟩
    · simp at q
    · simp at q
      obtain ⟨rfl, _⟩ := q
      rw [hh] at hh2
      simp at hh2
      obtain rfl := hh2
      rw [← ht, ← ht2]

/-- The blocks of the first k that stay. -/
def stayB (p : Bk → Bool) (bs : List Bk) (k : Nat) : List Bk := (bs.take k).filter p
theorem stayB_yes {p : Bk → Bool} {bs : List Bk} {k : Nat} {b : Bk} (h : bs[k]? = some b) (hp : p b = true) : stayB p bs (k + 1) = stayB p bs k ++ [b] := by
  unfold stayB
  rw [List.take_add_one, h, List.filter_append]
  simp [hp]
theorem stayB_no {p : Bk → Bool} {bs : List Bk} {k : Nat} {b : Bk} (h : bs[k]? = some b) (hp : p b = false) : stayB p bs (k + 1) = stayB p bs k := by
  unfold stayB
  rw [List.take_add_one, h, List.filter_append]
  simp [hp]
theorem stayB_end {p : Bk → Bool} {bs : List Bk} {k : Nat} (h : bs.length ≤ k) : stayB p bs k = bs.filter p := by
  unfold stayB
  rw [List.take_of_length_le h]
theorem stayB_len (p : Bk → Bool) (bs : List Bk) (k : Nat) : (stayB p bs k).length ≤ k := by
  unfold stayB
  have h := List.length_filter_le p (bs.take k)
  rw [List.length_take] at h
  omega

set_option maxHeartbeats 3200000 in
set_option maxRecDepth 20000 in
theorem l3Forget_any (u z : Int) (a : Option Addr) (n ca : Nat) (bs : List Bk) (p : Int) (w : World) (ha : RdB w a n bs) (h1 : (n : Int) + byB bs ≤ 1048576) (hu : ¬ u = 0) :
    Calls Try.prog 66 #[.agg #[.int .i64 u, .int .i64 z, .slice a n ca], .int .i64 p] w fun e w' => ∃ v, e = .returned (.agg #[.int .i64 u, .int .i64 z, v]) ∧ RowB 93 5 w' w.heap.size w'.heap.size v (bs.filter fun b => decide (b.1 < wrap64 (p.tdiv u))).length (bs.filter fun b => decide (b.1 < wrap64 (p.tdiv u))) ∧ Below w.heap.size w w' := by
  obtain ⟨i0, hi, hz0, hz1, hz2⟩ := info_parts infoB
  have hlen := ha.len
  obtain ⟨pr, hpr⟩ : ∃ pr : Bk → Bool, pr = fun b => decide (b.1 < wrap64 (p.tdiv u)) := ⟨_, rfl⟩
  rw [← hpr]
  have HPR : Hid _ := hpr
  clear hpr
  obtain ⟨D, hD⟩ : ∃ D, D = wrap64 (p.tdiv u) := ⟨_, rfl⟩
  have HD : Hid _ := hD
  have hDs : wrap64 (p.tdiv u) = D := hD.symm
  clear hD
  obtain ⟨W0, hW0⟩ : ∃ W0, W0 = ((w.alloc (Obj.cells #[Value.int .i64 u, Value.int .i64 z, Value.slice a n ca] 26)).alloc (Obj.cells #[Value.int .i64 0, Value.int .i64 0, Value.slice none 0 0] 26)).alloc (Obj.cells #[Value.int .i64 u, Value.int .i64 z, Value.slice none 0 0] 26) := ⟨_, rfl⟩
  have hB0 : Below w.heap.size w W0 := by
    rw [hW0]
    exact (((Below.refl _ _).alloc (Nat.le_refl _) _).alloc (by simp) _).alloc (by simp; omega) _
  have hz3 : W0.heap.size = w.heap.size + 3 := by rw [hW0]; simp
  have cb0 : Blk W0 w.heap.size #[.int .i64 u, .int .i64 z, .slice a n ca] 26 := by
    rw [hW0]
    exact ((Blk.new w _ _).alloc _).alloc _
  have rb0 : Blk W0 (w.heap.size + 1) #[.int .i64 0, .int .i64 0, .slice none 0 0] 26 := by
    rw [hW0]
    have h := Blk.new (w.alloc (Obj.cells #[Value.int .i64 u, Value.int .i64 z, Value.slice a n ca] 26)) #[.int .i64 0, .int .i64 0, .slice none 0 0] 26
    rw [World.size_alloc] at h
    exact h.alloc _
  have ob0 : Blk W0 (w.heap.size + 2) #[.int .i64 u, .int .i64 z, .slice none 0 0] 26 := by
    rw [hW0]
    have h := Blk.new ((w.alloc (Obj.cells #[Value.int .i64 u, Value.int .i64 z, Value.slice a n ca] 26)).alloc (Obj.cells #[Value.int .i64 0, Value.int .i64 0, Value.slice none 0 0] 26)) #[.int .i64 u, .int .i64 z, .slice none 0 0] 26
    rw [World.size_alloc, World.size_alloc] at h
    exact h
  go_enter Try.func66, Try.ntmps66
  go_wp2
  rw [← hW0]
  clear hW0
  go_loopw [6] (fun i wr => ∃ (k : Nat) (v : Value), k ≤ n ∧ i = .int .i64 k ∧ Blk wr w.heap.size #[.int .i64 u, .int .i64 z, .slice a n ca] 26 ∧ Blk wr (w.heap.size + 1) #[.int .i64 0, .int .i64 0, .slice none 0 0] 26 ∧ Blk wr (w.heap.size + 2) #[.int .i64 u, .int .i64 z, v] 26 ∧ RowB 93 5 wr (w.heap.size + 3) wr.heap.size v (stayB pr bs k).length (stayB pr bs k) ∧ Below w.heap.size w wr ∧ w.heap.size + 3 ≤ wr.heap.size) (fun i _ => n - (intOf i).toNat)
  case atStart => exact ⟨0, .slice none 0 0, Nat.zero_le _, rfl, cb0, rb0, ob0, by simpa [stayB] using RowB.nil _ _ _ _ _, hB0, by omega⟩
  case round =>
    obtain ⟨k, v, hk, rfl, cb, rb, ob, ho, hbw, hzw⟩ := hrel
    clear cb0 rb0 ob0 hB0
    obtain ⟨va, vc, hv, -, -⟩ := ho.shape
    subst hv
    have hll := stayB_len pr bs k
    obtain ⟨X, hX⟩ : ∃ X, X = stayB pr bs k := ⟨_, rfl⟩
    rw [← hX] at ho hll ob
    have g0 := cb.cell 0
    have g1 := cb.cell 1
    have g2 := cb.cell 2
    simp at g0 g1 g2
    by_cases hlt : k < n
    · have hlt' : (k : Int) < (n : Int) := by omega
      obtain ⟨blk, off, num, a', c', xs, rfl, hx, e0, e1, hr, -, -⟩ := (ha.below hbw).at hlt
      have hlx := byB_at hx
      by_cases hc : num < D
      · have hcd : decide (num < D) = true := decide_eq_true hc
        have HY : Hid _ := stayB_yes (p := pr) hx (by rw [HPR.out, ← HD.out]; exact hcd)
        rw [← hX] at HY
        clear hX hx
        have e0' : wr.drew.cell? ⟨blk, off + k * 2, none⟩ = some (.int .i64 num) := e0
        have e1' : wr.drew.cell? ⟨blk, off + k * 2 + 1, none⟩ = some (.slice a' xs.length c') := e1
        go_wp2
        go_quiet (fail)
        go_wp2_with fail
        obtain ⟨V, hV⟩ : ∃ V, V = wr.drewN nq := ⟨_, rfl⟩
        rw [← hV]
        have cbV : V.cell? ⟨w.heap.size, 2, none⟩ = some (.slice (some ⟨blk, off, none⟩) n ca) := by rw [hV]; exact g2
        have e0V : V.cell? ⟨blk, off + k * 2, none⟩ = some (.int .i64 num) := by rw [hV]; exact e0
        have e1V : V.cell? ⟨blk, off + k * 2 + 1, none⟩ = some (.slice a' xs.length c') := by rw [hV]; exact e1
        have obV : Blk V (w.heap.size + 2) #[.int .i64 u, .int .i64 z, .slice va X.length vc] 26 := by rw [hV]; exact ob
        have hbV : Below w.heap.size w V.drew := by rw [hV]; exact (below_drewN hbw _).drew
        have hbWV : Below wr.heap.size wr V.drew := by rw [hV]; exact (below_drewN (Below.refl _ _) _).drew
        have hzV : V.heap.size = wr.heap.size := by rw [hV]; rfl
        have hoV : RowB 93 5 V.drew (w.heap.size + 3) wr.heap.size (.slice va X.length vc) X.length X := ho.below hbWV
        have hrV : Rd .u8 V.drew a' xs.length xs := hr.below hbWV
        have o2V := obV.cell 2
        have of2V := obV.frozen 2
        simp at o2V
        have hblk : blk ≠ w.heap.size + 2 := by
          have q := (ha.at hlt)
          obtain ⟨blk2, off2, _, _, _, _, q1, _, q2, _⟩ := q
          obtain ⟨rfl, rfl⟩ : blk = blk2 ∧ off = off2 := by simpa using q1
          have := block_lt_of_cell q2
          simp at this
          omega
        have CC : Hid _ := fun w' h' => l1Copy_any a' xs.length c' xs w' h' (by omega)
        have HR : Hid (Rd .u8 V.drew a' xs.length xs) := hrV
        have HO : Hid (RowB 93 5 V.drew (w.heap.size + 3) wr.heap.size (.slice va X.length vc) X.length X) := hoV
        have OBV := hid obV
        have CB : Hid (Blk V w.heap.size #[.int .i64 u, .int .i64 z, .slice (some ⟨blk, off, none⟩) n ca] 26) := by
          have h : Blk V w.heap.size #[.int .i64 u, .int .i64 z, .slice (some ⟨blk, off, none⟩) n ca] 26 := by rw [hV]; exact cb
          exact h
        have RB : Hid (Blk V (w.heap.size + 1) #[.int .i64 0, .int .i64 0, .slice none 0 0] 26) := by
          have h : Blk V (w.heap.size + 1) #[.int .i64 0, .int .i64 0, .slice none 0 0] 26 := by rw [hV]; exact rb
          exact h
        clear hoV hrV ho hr cb rb ob obV e0' e1' hV
        refine wp_region_held_drew (S := fun w' => w'.cell? ⟨w.heap.size, 2, none⟩ = some (.slice (some ⟨blk, off, none⟩) n ca) ∧ w'.cell? ⟨blk, off + k * 2, none⟩ = some (.int .i64 num) ∧ w'.cell? ⟨blk, off + k * 2 + 1, none⟩ = some (.slice a' xs.length c') ∧ (∃ q, w'.cell? ⟨w.heap.size + 2, 2, none⟩ = some q) ∧ w'.frozen? ⟨w.heap.size + 2, 2, none⟩ = false) (by kernel_rfl) (by exact ⟨cbV, e0V, e1V, ⟨_, o2V⟩, of2V⟩) (fun hS => ?_)
        refine wpAnyH_take (i := 0) (v := (.pointer (some ⟨w.heap.size + 2, 2, none⟩))) rfl (by as_aux_lemma => kernel_rfl) (by as_aux_lemma => kernel_rfl) (by as_aux_lemma => kernel_rfl) (fun _ _ _ h => h) (Or.inl ⟨by kernel_rfl, ?_⟩) hS ?_
        · intro w hSw; (try dsimp only at hSw); go_simp
        simp only [Act.put, List.getElem_toArray, List.getElem_cons_zero, List.getElem_cons_succ, List.setIfInBounds_toArray, List.set_cons_zero, List.set_cons_succ]
        refine wpAnyH_take (i := 2) (v := (.pointer (some ⟨w.heap.size, 2, none⟩))) rfl (by as_aux_lemma => kernel_rfl) (by as_aux_lemma => kernel_rfl) (by as_aux_lemma => kernel_rfl) (fun _ _ _ h => h) (Or.inl ⟨by kernel_rfl, ?_⟩) hS ?_
        · intro w hSw; (try dsimp only at hSw); go_simp
        simp only [Act.put, List.getElem_toArray, List.getElem_cons_zero, List.getElem_cons_succ, List.setIfInBounds_toArray, List.set_cons_zero, List.set_cons_succ]
        refine wpAnyH_take (i := 3) (v := (.slice (some ⟨blk, off, none⟩) n ca)) rfl (by as_aux_lemma => kernel_rfl) (by as_aux_lemma => kernel_rfl) (by as_aux_lemma => kernel_rfl) (fun _ _ _ h => h) (Or.inl ⟨by kernel_rfl, ?_⟩) hS ?_
        · intro w hSw; (try dsimp only at hSw); go_simp
        simp only [Act.put, List.getElem_toArray, List.getElem_cons_zero, List.getElem_cons_succ, List.setIfInBounds_toArray, List.set_cons_zero, List.set_cons_succ]
        refine wpAnyH_take (i := 4) (v := (.int .i64 (k : Int))) rfl (by as_aux_lemma => kernel_rfl) (by as_aux_lemma => kernel_rfl) (by as_aux_lemma => kernel_rfl) (fun _ _ _ h => h) (Or.inl ⟨by kernel_rfl, ?_⟩) hS ?_
        · intro w hSw; (try dsimp only at hSw); go_simp
        simp only [Act.put, List.getElem_toArray, List.getElem_cons_zero, List.getElem_cons_succ, List.setIfInBounds_toArray, List.set_cons_zero, List.set_cons_succ]
        refine wpAnyH_take (i := 5) (v := (.pointer (some ⟨blk, off + k * 2, none⟩))) rfl (by as_aux_lemma => kernel_rfl) (by as_aux_lemma => kernel_rfl) (by as_aux_lemma => kernel_rfl) (fun _ _ _ h => h) (Or.inl ⟨by kernel_rfl, ?_⟩) hS ?_
        · intro w hSw; (try dsimp only at hSw); go_simp
        simp only [Act.put, List.getElem_toArray, List.getElem_cons_zero, List.getElem_cons_succ, List.setIfInBounds_toArray, List.set_cons_zero, List.set_cons_succ]
        refine wpAnyH_take (i := 6) (v := (.pointer (some ⟨blk, off + k * 2, none⟩))) rfl (by as_aux_lemma => kernel_rfl) (by as_aux_lemma => kernel_rfl) (by as_aux_lemma => kernel_rfl) (fun _ _ _ h => h) (Or.inl ⟨by kernel_rfl, ?_⟩) hS ?_
        · intro w hSw; (try dsimp only at hSw); go_simp
        simp only [Act.put, List.getElem_toArray, List.getElem_cons_zero, List.getElem_cons_succ, List.setIfInBounds_toArray, List.set_cons_zero, List.set_cons_succ]
        refine wpAnyH_take (i := 7) (v := (.int .i64 num)) rfl (by as_aux_lemma => kernel_rfl) (by as_aux_lemma => kernel_rfl) (by as_aux_lemma => kernel_rfl) (fun _ _ _ h => h) (Or.inl ⟨by kernel_rfl, ?_⟩) hS ?_
        · intro w hSw; (try dsimp only at hSw); go_simp
        simp only [Act.put, List.getElem_toArray, List.getElem_cons_zero, List.getElem_cons_succ, List.setIfInBounds_toArray, List.set_cons_zero, List.set_cons_succ]
        refine wpAnyH_take (i := 8) (v := (.pointer (some ⟨w.heap.size, 2, none⟩))) rfl (by as_aux_lemma => kernel_rfl) (by as_aux_lemma => kernel_rfl) (by as_aux_lemma => kernel_rfl) (fun _ _ _ h => h) (Or.inl ⟨by kernel_rfl, ?_⟩) hS ?_
        · intro w hSw; (try dsimp only at hSw); go_simp
        simp only [Act.put, List.getElem_toArray, List.getElem_cons_zero, List.getElem_cons_succ, List.setIfInBounds_toArray, List.set_cons_zero, List.set_cons_succ]
        refine wpAnyH_take (i := 9) (v := (.slice (some ⟨blk, off, none⟩) n ca)) rfl (by as_aux_lemma => kernel_rfl) (by as_aux_lemma => kernel_rfl) (by as_aux_lemma => kernel_rfl) (fun _ _ _ h => h) (Or.inl ⟨by kernel_rfl, ?_⟩) hS ?_
        · intro w hSw; (try dsimp only at hSw); go_simp
        simp only [Act.put, List.getElem_toArray, List.getElem_cons_zero, List.getElem_cons_succ, List.setIfInBounds_toArray, List.set_cons_zero, List.set_cons_succ]
        refine wpAnyH_take (i := 10) (v := (.int .i64 (k : Int))) rfl (by as_aux_lemma => kernel_rfl) (by as_aux_lemma => kernel_rfl) (by as_aux_lemma => kernel_rfl) (fun _ _ _ h => h) (Or.inl ⟨by kernel_rfl, ?_⟩) hS ?_
        · intro w hSw; (try dsimp only at hSw); go_simp
        simp only [Act.put, List.getElem_toArray, List.getElem_cons_zero, List.getElem_cons_succ, List.setIfInBounds_toArray, List.set_cons_zero, List.set_cons_succ]
        refine wpAnyH_take (i := 11) (v := (.pointer (some ⟨blk, off + k * 2, none⟩))) rfl (by as_aux_lemma => kernel_rfl) (by as_aux_lemma => kernel_rfl) (by as_aux_lemma => kernel_rfl) (fun _ _ _ h => h) (Or.inl ⟨by kernel_rfl, ?_⟩) hS ?_
        · intro w hSw; (try dsimp only at hSw); go_simp
        simp only [Act.put, List.getElem_toArray, List.getElem_cons_zero, List.getElem_cons_succ, List.setIfInBounds_toArray, List.set_cons_zero, List.set_cons_succ]
        refine wpAnyH_take (i := 12) (v := (.pointer (some ⟨blk, off + k * 2 + 1, none⟩))) rfl (by as_aux_lemma => kernel_rfl) (by as_aux_lemma => kernel_rfl) (by as_aux_lemma => kernel_rfl) (fun _ _ _ h => h) (Or.inl ⟨by kernel_rfl, ?_⟩) hS ?_
        · intro w hSw; (try dsimp only at hSw); go_simp
        simp only [Act.put, List.getElem_toArray, List.getElem_cons_zero, List.getElem_cons_succ, List.setIfInBounds_toArray, List.set_cons_zero, List.set_cons_succ]
        refine wpAnyH_take (i := 13) (v := (.slice a' xs.length c')) rfl (by as_aux_lemma => kernel_rfl) (by as_aux_lemma => kernel_rfl) (by as_aux_lemma => kernel_rfl) (fun _ _ _ h => h) (Or.inl ⟨by kernel_rfl, ?_⟩) hS ?_
        · intro w hSw; (try dsimp only at hSw); go_simp
        simp only [Act.put, List.getElem_toArray, List.getElem_cons_zero, List.getElem_cons_succ, List.setIfInBounds_toArray, List.set_cons_zero, List.set_cons_succ]
        refine wpAnyH_ready (rs := [1, 14]) (by as_aux_lemma => kernel_rfl) (by simp) ?_
        refine AllReadyH.cons rfl (fun K hK => ?_) (AllReadyH.cons rfl (fun K hK => ?_) AllReadyH.nil)
        · go_simp
          refine hK.out _ _ hS (fun hS => ?_)
          clear hK K
          (try simp only [Act.put, List.getElem_toArray, List.getElem_cons_zero, List.getElem_cons_succ, List.setIfInBounds_toArray, List.set_cons_zero, List.set_cons_succ])
          refine wpAnyH_ready (rs := [14]) (by as_aux_lemma => kernel_rfl) (by simp) ?_
          refine AllReadyH.cons rfl (fun K hK => ?_) AllReadyH.nil
          go_simp
          refine Calls.mono (CC.out _ (by exact HR.out)) ?_
          rintro e' v' ⟨v2', rfl, hrow2, hv'⟩
          obtain ⟨a2, c2, rfl, -, -⟩ := hrow2.shape
          have o2C : V.drew.cell? ⟨w.heap.size + 2, 2, none⟩ = some (.slice va X.length vc) := o2V
          have ltC : w.heap.size + 2 < V.drew.heap.size := by show w.heap.size + 2 < V.heap.size; omega
          refine hK.out _ _ ⟨cell_later hv' hS.1, cell_later hv' hS.2.1, cell_later hv' hS.2.2.1, ⟨_, cell_later hv' o2C⟩, (hv'.frozen (p := ⟨w.heap.size + 2, 2, none⟩) ltC).trans hS.2.2.2.2⟩ (fun hS => ?_)
          clear hK K
          have o2D := cell_later hv' o2C
          have ltD : w.heap.size + 2 < v'.heap.size := Nat.lt_of_lt_of_le ltC hv'.size
          clear o2C ltC
          (try simp only [Act.put, List.getElem_toArray, List.getElem_cons_zero, List.getElem_cons_succ, List.setIfInBounds_toArray, List.set_cons_zero, List.set_cons_succ])
          refine wpAnyH_take (i := 15) (v := (.agg #[.int .i64 num, .slice a2 xs.length c2])) rfl (by as_aux_lemma => kernel_rfl) (by as_aux_lemma => kernel_rfl) (by as_aux_lemma => kernel_rfl) (fun _ _ _ h => h) (Or.inl ⟨by kernel_rfl, ?_⟩) hS ?_
          · intro w hSw; (try dsimp only at hSw); go_simp
          simp only [Act.put, List.getElem_toArray, List.getElem_cons_zero, List.getElem_cons_succ, List.setIfInBounds_toArray, List.set_cons_zero, List.set_cons_succ]
          refine wpAnyH_ready (rs := [16]) (by as_aux_lemma => kernel_rfl) (by simp) ?_
          refine AllReadyH.cons rfl (fun K hK => ?_) AllReadyH.nil
          go_simp
          have o2C := o2D
          have ltC := ltD
          have hbN : Below v'.heap.size v' (v'.alloc (Obj.cells #[Value.int .i64 num, Value.slice a2 xs.length c2] 93)) := (Below.refl _ _).alloc (Nat.le_refl _) _
          refine hK.out _ _ ⟨cell_later hbN hS.1, cell_later hbN hS.2.1, cell_later hbN hS.2.2.1, ⟨_, cell_later hbN o2C⟩, (hbN.frozen (p := ⟨w.heap.size + 2, 2, none⟩) ltC).trans hS.2.2.2.2⟩ (fun hS => ?_)
          clear hK K
          have o2F := cell_later hbN o2C
          have ltF : w.heap.size + 2 < (v'.alloc (Obj.cells #[Value.int .i64 num, Value.slice a2 xs.length c2] 93)).heap.size := Nat.lt_of_lt_of_le ltC hbN.size
          (try simp only [Act.put, List.getElem_toArray, List.getElem_cons_zero, List.getElem_cons_succ, List.setIfInBounds_toArray, List.set_cons_zero, List.set_cons_succ])
          have hoF : RowB 93 5 (v'.alloc (Obj.cells #[Value.int .i64 num, Value.slice a2 xs.length c2] 93)) (w.heap.size + 3) wr.heap.size (.slice va X.length vc) X.length X := (RowB.below HO.out hv').below hbN
          have hrF : RowI .u8 5 (v'.alloc (Obj.cells #[Value.int .i64 num, Value.slice a2 xs.length c2] 93)) V.drew.heap.size v'.heap.size (.slice a2 xs.length c2) xs.length xs := hrow2.below hbN
          have hvz := hv'.size
          have hzd : V.drew.heap.size = V.heap.size := rfl
          obtain ⟨us, hus⟩ : ∃ us : List Bv, (v'.alloc (Obj.cells #[Value.int .i64 num, Value.slice a2 xs.length c2] 93)).ownsRow (w.heap.size + 3) 93 2 (.slice va X.length vc) X.length (us.flatMap bkE) := by
            obtain ⟨us, q1, q2, q3, q4⟩ := hoF
            exact ⟨us, q1.1.2⟩
          have hcl : ∀ j q, (bkE (num, .slice a2 xs.length c2))[j]? = some q → (v'.alloc (Obj.cells #[Value.int .i64 num, Value.slice a2 xs.length c2] 93)).cell? ((⟨v'.heap.size, 0, none⟩ : Addr).add j) = some q := fun j q hq => by
            rw [Addr.add_lit, Nat.zero_add, World.cell?_alloc_at _ _ _ _ rfl]
            simpa [bkE] using hq
          have hFz : (v'.alloc (Obj.cells #[Value.int .i64 num, Value.slice a2 xs.length c2] 93)).heap.size = v'.heap.size + 1 := by simp
          have hb0F : Below w.heap.size w (v'.alloc (Obj.cells #[Value.int .i64 num, Value.slice a2 xs.length c2] 93)) := hbV.trans ((hv'.trans (hbN.mono hv'.size)).mono hbV.size)
          have hVF : Below V.heap.size V (v'.alloc (Obj.cells #[Value.int .i64 num, Value.slice a2 xs.length c2] 93)) := Below.trans (b := V.drew) (by exact (Below.refl V.heap.size V).drew) (hv'.trans (hbN.mono hv'.size))
          have obF : Blk _ (w.heap.size + 2) #[.int .i64 u, .int .i64 z, .slice va X.length vc] 26 := (hVF.block _ (Blk.lt OBV.out)).trans OBV.out
          have cbF : Blk _ w.heap.size #[.int .i64 u, .int .i64 z, .slice (some ⟨blk, off, none⟩) n ca] 26 := (hVF.block _ (Blk.lt CB.out)).trans CB.out
          have rbF : Blk _ (w.heap.size + 1) #[.int .i64 0, .int .i64 0, .slice none 0 0] 26 := (hVF.block _ (Blk.lt RB.out)).trans RB.out
          have HOF : Hid _ := hoF
          have HRF : Hid _ := hrF
          have HUS : Hid _ := hus
          have OBF := hid (show Blk _ _ _ _ from obF)
          have CBF := hid (show Blk _ _ _ _ from cbF)
          have RBF := hid (show Blk _ _ _ _ from rbF)
          have HCL : Hid _ := hcl
          generalize hFe : v'.alloc (Obj.cells #[Value.int .i64 num, Value.slice a2 xs.length c2] 93) = F at HOF HRF HUS OBF CBF RBF HCL hb0F hFz hS o2F ltF ⊢
          clear hFe hoF hrF hus hcl obF cbF rbF hVF hbN
          refine wpAnyH_ready (rs := [17]) (by as_aux_lemma => kernel_rfl) (by simp) ?_
          refine AllReadyH.cons rfl (fun K hK => ?_) AllReadyH.nil
          rw [if_pos (by rfl)]
          refine wp_append_own _ _ _ 24 rfl (w.heap.size + 3) 93 i0 (.agg #[.int .i64 0, .slice none 0 0]) 2 32 Try.underlying24 hi hz0 hz1 hz2 rfl (by decide) _ X.length (us.flatMap bkE) rfl HUS.out ⟨v'.heap.size, 0, none⟩ 1 1 (bkE (num, .slice a2 xs.length c2)) rfl rfl HCL.out (bkE_one num a2 xs.length c2) (by unfold maxLen; omega) (by omega) (by omega) ?_
          intro v5 w5 ho5 hg5 _
          have lo5 := World.ownsRow.lt HUS.out
          have hsn := RowB.snoc (num := num) bu_ne HOF.out HRF.out (by omega) (by omega) (by omega) (fun us' h' => by rw [ownsRow_same h' HUS.out]; exact ho5) hg5
          have hneq : ∀ B, B < w.heap.size + 3 → some B ≠ (Value.slice va X.length vc).ownBlock := fun B hB hq => by have := (lo5 B hq.symm).1; omega
          have ob5 := Blk.kept OBF.out hg5 (hneq _ (by omega))
          have cb5 := Blk.kept CBF.out hg5 (hneq _ (by omega))
          have rb5 := Blk.kept RBF.out hg5 (hneq _ (by omega))
          have b5 : Below w.heap.size w w5 := hb0F.grown hg5 (by omega) (fun j hj => by have := (lo5 j hj).1; omega)
          have hC5 : Chg (w.heap.size + 3) F.heap.size F w5 := Chg.of_grown hg5 (fun j hj => ⟨(lo5 j hj).1, (lo5 j hj).2⟩)
          obtain ⟨a5, c5, hv5, -, -⟩ := hsn.shape
          subst hv5
          have hz5 : w.heap.size + 3 ≤ w5.heap.size := by have := hg5.size; omega
          have x2 := ob5.cell 2
          have xf2 := ob5.frozen 2
          simp at x2
          have hblt : blk < w.heap.size := by
            obtain ⟨blk2, off2, _, _, _, _, q1, _, q2, _⟩ := ha.at hlt
            obtain ⟨rfl, rfl⟩ : blk = blk2 ∧ off = off2 := by simpa using q1
            exact block_lt_of_cell q2
          have hFl : w.heap.size < F.heap.size := by omega
          refine hK.out _ _ ⟨hC5.at hS.1 hFl (by omega), hC5.at hS.2.1 (by omega) (by omega), hC5.at hS.2.2.1 (by omega) (by omega), ⟨_, x2⟩, xf2⟩ (fun hS => ?_)
          clear hK K
          (try simp only [Act.put, List.getElem_toArray, List.getElem_cons_zero, List.getElem_cons_succ, List.setIfInBounds_toArray, List.set_cons_zero, List.set_cons_succ])
          refine wpAnyH_take (i := 18) (v := (.pointer (some ⟨w.heap.size + 2, 2, none⟩))) rfl (by as_aux_lemma => kernel_rfl) (by as_aux_lemma => kernel_rfl) (by as_aux_lemma => kernel_rfl) (fun _ _ _ h => h) (Or.inl ⟨by kernel_rfl, ?_⟩) hS ?_
          · intro w hSw; (try dsimp only at hSw); go_simp
          simp only [Act.put, List.getElem_toArray, List.getElem_cons_zero, List.getElem_cons_succ, List.setIfInBounds_toArray, List.set_cons_zero, List.set_cons_succ]
          refine wpAnyH_ready (rs := [19]) (by as_aux_lemma => kernel_rfl) (by simp) ?_
          refine AllReadyH.cons rfl (fun K hK => ?_) AllReadyH.nil
          go_simp
          have hq2 : ∀ {B i : Nat} {q : Value}, B ≠ w.heap.size + 2 → w5.cell? ⟨B, i, none⟩ = some q → (w5.setCell ⟨w.heap.size + 2, 2, none⟩ (.slice a5 (X.length + 1) c5)).cell? ⟨B, i, none⟩ = some q := fun hn hx => cell_of_grown (set_grown w5 (w.heap.size + 2) 2 (.slice a5 (X.length + 1) c5)) hn hx
          have ob6 := ob5.set (i := 2) (.slice a5 (X.length + 1) c5)
          refine hK.out _ _ ⟨hq2 (by omega) hS.1, hq2 hblk hS.2.1, hq2 hblk hS.2.2.1, ⟨_, by simpa using ob6.cell 2⟩, ob6.frozen 2⟩ (fun hS => ?_)
          clear hK K
          refine wpAnyH_done (by kernel_rfl) ?_ _
          clear hS hq2
          have cb6 := cb5.other (i := 2) (B' := w.heap.size + 2) (by omega) (.slice a5 (X.length + 1) c5)
          have rb6 := rb5.other (i := 2) (B' := w.heap.size + 2) (by omega) (.slice a5 (X.length + 1) c5)
          have hr6 := RowB.chg hsn (Chg.one (set_grown w5 (w.heap.size + 2) 2 (.slice a5 (X.length + 1) c5))) (.inr (by omega))
          have H6 : Hid _ := And.intro cb6 (And.intro rb6 (And.intro ob6 hr6))
          clear cb6 rb6 ob6 hr6 cb5 rb5 ob5 hsn hg5 ho5
          go_wp2
          go_roundw
          case rel =>
            refine ⟨k + 1, .slice a5 (X.length + 1) c5, by omega, by go_num, H6.out.1, H6.out.2.1, by simpa using H6.out.2.2.1, ?_, b5.setCell (by simp) _, by simpa [World.setCell] using hz5⟩
            rw [HY.out, List.length_append]
            simpa [World.setCell] using H6.out.2.2.2
          case measure => simp [intOf]; omega
        · go_simp
          refine Calls.mono (CC.out _ (by exact HR.out)) ?_
          rintro e' v' ⟨v2', rfl, hrow2, hv'⟩
          obtain ⟨a2, c2, rfl, -, -⟩ := hrow2.shape
          have o2C : V.drew.cell? ⟨w.heap.size + 2, 2, none⟩ = some (.slice va X.length vc) := o2V
          have ltC : w.heap.size + 2 < V.drew.heap.size := by show w.heap.size + 2 < V.heap.size; omega
          refine hK.out _ _ ⟨cell_later hv' hS.1, cell_later hv' hS.2.1, cell_later hv' hS.2.2.1, ⟨_, cell_later hv' o2C⟩, (hv'.frozen (p := ⟨w.heap.size + 2, 2, none⟩) ltC).trans hS.2.2.2.2⟩ (fun hS => ?_)
          clear hK K
          have o2D := cell_later hv' o2C
          have ltD : w.heap.size + 2 < v'.heap.size := Nat.lt_of_lt_of_le ltC hv'.size
          clear o2C ltC
          (try simp only [Act.put, List.getElem_toArray, List.getElem_cons_zero, List.getElem_cons_succ, List.setIfInBounds_toArray, List.set_cons_zero, List.set_cons_succ])
          refine wpAnyH_take (i := 15) (v := (.agg #[.int .i64 num, .slice a2 xs.length c2])) rfl (by as_aux_lemma => kernel_rfl) (by as_aux_lemma => kernel_rfl) (by as_aux_lemma => kernel_rfl) (fun _ _ _ h => h) (Or.inl ⟨by kernel_rfl, ?_⟩) hS ?_
          · intro w hSw; (try dsimp only at hSw); go_simp
          simp only [Act.put, List.getElem_toArray, List.getElem_cons_zero, List.getElem_cons_succ, List.setIfInBounds_toArray, List.set_cons_zero, List.set_cons_succ]
          refine wpAnyH_ready (rs := [1, 16]) (by as_aux_lemma => kernel_rfl) (by simp) ?_
          refine AllReadyH.cons rfl (fun K hK => ?_) (AllReadyH.cons rfl (fun K hK => ?_) AllReadyH.nil)
          · go_simp
            refine hK.out _ _ hS (fun hS => ?_)
            clear hK K
            (try simp only [Act.put, List.getElem_toArray, List.getElem_cons_zero, List.getElem_cons_succ, List.setIfInBounds_toArray, List.set_cons_zero, List.set_cons_succ])
            refine wpAnyH_ready (rs := [16]) (by as_aux_lemma => kernel_rfl) (by simp) ?_
            refine AllReadyH.cons rfl (fun K hK => ?_) AllReadyH.nil
            go_simp
            have o2C := o2D
            have ltC := ltD
            have hbN : Below v'.heap.size v' (v'.alloc (Obj.cells #[Value.int .i64 num, Value.slice a2 xs.length c2] 93)) := (Below.refl _ _).alloc (Nat.le_refl _) _
            refine hK.out _ _ ⟨cell_later hbN hS.1, cell_later hbN hS.2.1, cell_later hbN hS.2.2.1, ⟨_, cell_later hbN o2C⟩, (hbN.frozen (p := ⟨w.heap.size + 2, 2, none⟩) ltC).trans hS.2.2.2.2⟩ (fun hS => ?_)
            clear hK K
            have o2F := cell_later hbN o2C
            have ltF : w.heap.size + 2 < (v'.alloc (Obj.cells #[Value.int .i64 num, Value.slice a2 xs.length c2] 93)).heap.size := Nat.lt_of_lt_of_le ltC hbN.size
            (try simp only [Act.put, List.getElem_toArray, List.getElem_cons_zero, List.getElem_cons_succ, List.setIfInBounds_toArray, List.set_cons_zero, List.set_cons_succ])
            have hoF : RowB 93 5 (v'.alloc (Obj.cells #[Value.int .i64 num, Value.slice a2 xs.length c2] 93)) (w.heap.size + 3) wr.heap.size (.slice va X.length vc) X.length X := (RowB.below HO.out hv').below hbN
            have hrF : RowI .u8 5 (v'.alloc (Obj.cells #[Value.int .i64 num, Value.slice a2 xs.length c2] 93)) V.drew.heap.size v'.heap.size (.slice a2 xs.length c2) xs.length xs := hrow2.below hbN
            have hvz := hv'.size
            have hzd : V.drew.heap.size = V.heap.size := rfl
            obtain ⟨us, hus⟩ : ∃ us : List Bv, (v'.alloc (Obj.cells #[Value.int .i64 num, Value.slice a2 xs.length c2] 93)).ownsRow (w.heap.size + 3) 93 2 (.slice va X.length vc) X.length (us.flatMap bkE) := by
              obtain ⟨us, q1, q2, q3, q4⟩ := hoF
              exact ⟨us, q1.1.2⟩
            have hcl : ∀ j q, (bkE (num, .slice a2 xs.length c2))[j]? = some q → (v'.alloc (Obj.cells #[Value.int .i64 num, Value.slice a2 xs.length c2] 93)).cell? ((⟨v'.heap.size, 0, none⟩ : Addr).add j) = some q := fun j q hq => by
              rw [Addr.add_lit, Nat.zero_add, World.cell?_alloc_at _ _ _ _ rfl]
              simpa [bkE] using hq
            have hFz : (v'.alloc (Obj.cells #[Value.int .i64 num, Value.slice a2 xs.length c2] 93)).heap.size = v'.heap.size + 1 := by simp
            have hb0F : Below w.heap.size w (v'.alloc (Obj.cells #[Value.int .i64 num, Value.slice a2 xs.length c2] 93)) := hbV.trans ((hv'.trans (hbN.mono hv'.size)).mono hbV.size)
            have hVF : Below V.heap.size V (v'.alloc (Obj.cells #[Value.int .i64 num, Value.slice a2 xs.length c2] 93)) := Below.trans (b := V.drew) (by exact (Below.refl V.heap.size V).drew) (hv'.trans (hbN.mono hv'.size))
            have obF : Blk _ (w.heap.size + 2) #[.int .i64 u, .int .i64 z, .slice va X.length vc] 26 := (hVF.block _ (Blk.lt OBV.out)).trans OBV.out
            have cbF : Blk _ w.heap.size #[.int .i64 u, .int .i64 z, .slice (some ⟨blk, off, none⟩) n ca] 26 := (hVF.block _ (Blk.lt CB.out)).trans CB.out
            have rbF : Blk _ (w.heap.size + 1) #[.int .i64 0, .int .i64 0, .slice none 0 0] 26 := (hVF.block _ (Blk.lt RB.out)).trans RB.out
            have HOF : Hid _ := hoF
            have HRF : Hid _ := hrF
            have HUS : Hid _ := hus
            have OBF := hid (show Blk _ _ _ _ from obF)
            have CBF := hid (show Blk _ _ _ _ from cbF)
            have RBF := hid (show Blk _ _ _ _ from rbF)
            have HCL : Hid _ := hcl
            generalize hFe : v'.alloc (Obj.cells #[Value.int .i64 num, Value.slice a2 xs.length c2] 93) = F at HOF HRF HUS OBF CBF RBF HCL hb0F hFz hS o2F ltF ⊢
            clear hFe hoF hrF hus hcl obF cbF rbF hVF hbN
            refine wpAnyH_ready (rs := [17]) (by as_aux_lemma => kernel_rfl) (by simp) ?_
            refine AllReadyH.cons rfl (fun K hK => ?_) AllReadyH.nil
            rw [if_pos (by rfl)]
            refine wp_append_own _ _ _ 24 rfl (w.heap.size + 3) 93 i0 (.agg #[.int .i64 0, .slice none 0 0]) 2 32 Try.underlying24 hi hz0 hz1 hz2 rfl (by decide) _ X.length (us.flatMap bkE) rfl HUS.out ⟨v'.heap.size, 0, none⟩ 1 1 (bkE (num, .slice a2 xs.length c2)) rfl rfl HCL.out (bkE_one num a2 xs.length c2) (by unfold maxLen; omega) (by omega) (by omega) ?_
            intro v5 w5 ho5 hg5 _
            have lo5 := World.ownsRow.lt HUS.out
            have hsn := RowB.snoc (num := num) bu_ne HOF.out HRF.out (by omega) (by omega) (by omega) (fun us' h' => by rw [ownsRow_same h' HUS.out]; exact ho5) hg5
            have hneq : ∀ B, B < w.heap.size + 3 → some B ≠ (Value.slice va X.length vc).ownBlock := fun B hB hq => by have := (lo5 B hq.symm).1; omega
            have ob5 := Blk.kept OBF.out hg5 (hneq _ (by omega))
            have cb5 := Blk.kept CBF.out hg5 (hneq _ (by omega))
            have rb5 := Blk.kept RBF.out hg5 (hneq _ (by omega))
            have b5 : Below w.heap.size w w5 := hb0F.grown hg5 (by omega) (fun j hj => by have := (lo5 j hj).1; omega)
            have hC5 : Chg (w.heap.size + 3) F.heap.size F w5 := Chg.of_grown hg5 (fun j hj => ⟨(lo5 j hj).1, (lo5 j hj).2⟩)
            obtain ⟨a5, c5, hv5, -, -⟩ := hsn.shape
            subst hv5
            have hz5 : w.heap.size + 3 ≤ w5.heap.size := by have := hg5.size; omega
            have x2 := ob5.cell 2
            have xf2 := ob5.frozen 2
            simp at x2
            have hblt : blk < w.heap.size := by
              obtain ⟨blk2, off2, _, _, _, _, q1, _, q2, _⟩ := ha.at hlt
              obtain ⟨rfl, rfl⟩ : blk = blk2 ∧ off = off2 := by simpa using q1
              exact block_lt_of_cell q2
            have hFl : w.heap.size < F.heap.size := by omega
            refine hK.out _ _ ⟨hC5.at hS.1 hFl (by omega), hC5.at hS.2.1 (by omega) (by omega), hC5.at hS.2.2.1 (by omega) (by omega), ⟨_, x2⟩, xf2⟩ (fun hS => ?_)
            clear hK K
            (try simp only [Act.put, List.getElem_toArray, List.getElem_cons_zero, List.getElem_cons_succ, List.setIfInBounds_toArray, List.set_cons_zero, List.set_cons_succ])
            refine wpAnyH_take (i := 18) (v := (.pointer (some ⟨w.heap.size + 2, 2, none⟩))) rfl (by as_aux_lemma => kernel_rfl) (by as_aux_lemma => kernel_rfl) (by as_aux_lemma => kernel_rfl) (fun _ _ _ h => h) (Or.inl ⟨by kernel_rfl, ?_⟩) hS ?_
            · intro w hSw; (try dsimp only at hSw); go_simp
            simp only [Act.put, List.getElem_toArray, List.getElem_cons_zero, List.getElem_cons_succ, List.setIfInBounds_toArray, List.set_cons_zero, List.set_cons_succ]
            refine wpAnyH_ready (rs := [19]) (by as_aux_lemma => kernel_rfl) (by simp) ?_
            refine AllReadyH.cons rfl (fun K hK => ?_) AllReadyH.nil
            go_simp
            have hq2 : ∀ {B i : Nat} {q : Value}, B ≠ w.heap.size + 2 → w5.cell? ⟨B, i, none⟩ = some q → (w5.setCell ⟨w.heap.size + 2, 2, none⟩ (.slice a5 (X.length + 1) c5)).cell? ⟨B, i, none⟩ = some q := fun hn hx => cell_of_grown (set_grown w5 (w.heap.size + 2) 2 (.slice a5 (X.length + 1) c5)) hn hx
            have ob6 := ob5.set (i := 2) (.slice a5 (X.length + 1) c5)
            refine hK.out _ _ ⟨hq2 (by omega) hS.1, hq2 hblk hS.2.1, hq2 hblk hS.2.2.1, ⟨_, by simpa using ob6.cell 2⟩, ob6.frozen 2⟩ (fun hS => ?_)
            clear hK K
            refine wpAnyH_done (by kernel_rfl) ?_ _
            clear hS hq2
            have cb6 := cb5.other (i := 2) (B' := w.heap.size + 2) (by omega) (.slice a5 (X.length + 1) c5)
            have rb6 := rb5.other (i := 2) (B' := w.heap.size + 2) (by omega) (.slice a5 (X.length + 1) c5)
            have hr6 := RowB.chg hsn (Chg.one (set_grown w5 (w.heap.size + 2) 2 (.slice a5 (X.length + 1) c5))) (.inr (by omega))
            have H6 : Hid _ := And.intro cb6 (And.intro rb6 (And.intro ob6 hr6))
            clear cb6 rb6 ob6 hr6 cb5 rb5 ob5 hsn hg5 ho5
            go_wp2
            go_roundw
            case rel =>
              refine ⟨k + 1, .slice a5 (X.length + 1) c5, by omega, by go_num, H6.out.1, H6.out.2.1, by simpa using H6.out.2.2.1, ?_, b5.setCell (by simp) _, by simpa [World.setCell] using hz5⟩
              rw [HY.out, List.length_append]
              simpa [World.setCell] using H6.out.2.2.2
            case measure => simp [intOf]; omega
          · go_simp
            have o2C := o2D
            have ltC := ltD
            have hbN : Below v'.heap.size v' (v'.alloc (Obj.cells #[Value.int .i64 num, Value.slice a2 xs.length c2] 93)) := (Below.refl _ _).alloc (Nat.le_refl _) _
            refine hK.out _ _ ⟨cell_later hbN hS.1, cell_later hbN hS.2.1, cell_later hbN hS.2.2.1, ⟨_, cell_later hbN o2C⟩, (hbN.frozen (p := ⟨w.heap.size + 2, 2, none⟩) ltC).trans hS.2.2.2.2⟩ (fun hS => ?_)
            clear hK K
            have o2F := cell_later hbN o2C
            have ltF : w.heap.size + 2 < (v'.alloc (Obj.cells #[Value.int .i64 num, Value.slice a2 xs.length c2] 93)).heap.size := Nat.lt_of_lt_of_le ltC hbN.size
            (try simp only [Act.put, List.getElem_toArray, List.getElem_cons_zero, List.getElem_cons_succ, List.setIfInBounds_toArray, List.set_cons_zero, List.set_cons_succ])
            refine wpAnyH_ready (rs := [1]) (by as_aux_lemma => kernel_rfl) (by simp) ?_
            refine AllReadyH.cons rfl (fun K hK => ?_) AllReadyH.nil
            go_simp
            refine hK.out _ _ hS (fun hS => ?_)
            clear hK K
            (try simp only [Act.put, List.getElem_toArray, List.getElem_cons_zero, List.getElem_cons_succ, List.setIfInBounds_toArray, List.set_cons_zero, List.set_cons_succ])
            have hoF : RowB 93 5 (v'.alloc (Obj.cells #[Value.int .i64 num, Value.slice a2 xs.length c2] 93)) (w.heap.size + 3) wr.heap.size (.slice va X.length vc) X.length X := (RowB.below HO.out hv').below hbN
            have hrF : RowI .u8 5 (v'.alloc (Obj.cells #[Value.int .i64 num, Value.slice a2 xs.length c2] 93)) V.drew.heap.size v'.heap.size (.slice a2 xs.length c2) xs.length xs := hrow2.below hbN
            have hvz := hv'.size
            have hzd : V.drew.heap.size = V.heap.size := rfl
            obtain ⟨us, hus⟩ : ∃ us : List Bv, (v'.alloc (Obj.cells #[Value.int .i64 num, Value.slice a2 xs.length c2] 93)).ownsRow (w.heap.size + 3) 93 2 (.slice va X.length vc) X.length (us.flatMap bkE) := by
              obtain ⟨us, q1, q2, q3, q4⟩ := hoF
              exact ⟨us, q1.1.2⟩
            have hcl : ∀ j q, (bkE (num, .slice a2 xs.length c2))[j]? = some q → (v'.alloc (Obj.cells #[Value.int .i64 num, Value.slice a2 xs.length c2] 93)).cell? ((⟨v'.heap.size, 0, none⟩ : Addr).add j) = some q := fun j q hq => by
              rw [Addr.add_lit, Nat.zero_add, World.cell?_alloc_at _ _ _ _ rfl]
              simpa [bkE] using hq
            have hFz : (v'.alloc (Obj.cells #[Value.int .i64 num, Value.slice a2 xs.length c2] 93)).heap.size = v'.heap.size + 1 := by simp
            have hb0F : Below w.heap.size w (v'.alloc (Obj.cells #[Value.int .i64 num, Value.slice a2 xs.length c2] 93)) := hbV.trans ((hv'.trans (hbN.mono hv'.size)).mono hbV.size)
            have hVF : Below V.heap.size V (v'.alloc (Obj.cells #[Value.int .i64 num, Value.slice a2 xs.length c2] 93)) := Below.trans (b := V.drew) (by exact (Below.refl V.heap.size V).drew) (hv'.trans (hbN.mono hv'.size))
            have obF : Blk _ (w.heap.size + 2) #[.int .i64 u, .int .i64 z, .slice va X.length vc] 26 := (hVF.block _ (Blk.lt OBV.out)).trans OBV.out
            have cbF : Blk _ w.heap.size #[.int .i64 u, .int .i64 z, .slice (some ⟨blk, off, none⟩) n ca] 26 := (hVF.block _ (Blk.lt CB.out)).trans CB.out
            have rbF : Blk _ (w.heap.size + 1) #[.int .i64 0, .int .i64 0, .slice none 0 0] 26 := (hVF.block _ (Blk.lt RB.out)).trans RB.out
            have HOF : Hid _ := hoF
            have HRF : Hid _ := hrF
            have HUS : Hid _ := hus
            have OBF := hid (show Blk _ _ _ _ from obF)
            have CBF := hid (show Blk _ _ _ _ from cbF)
            have RBF := hid (show Blk _ _ _ _ from rbF)
            have HCL : Hid _ := hcl
            generalize hFe : v'.alloc (Obj.cells #[Value.int .i64 num, Value.slice a2 xs.length c2] 93) = F at HOF HRF HUS OBF CBF RBF HCL hb0F hFz hS o2F ltF ⊢
            clear hFe hoF hrF hus hcl obF cbF rbF hVF hbN
            refine wpAnyH_ready (rs := [17]) (by as_aux_lemma => kernel_rfl) (by simp) ?_
            refine AllReadyH.cons rfl (fun K hK => ?_) AllReadyH.nil
            rw [if_pos (by rfl)]
            refine wp_append_own _ _ _ 24 rfl (w.heap.size + 3) 93 i0 (.agg #[.int .i64 0, .slice none 0 0]) 2 32 Try.underlying24 hi hz0 hz1 hz2 rfl (by decide) _ X.length (us.flatMap bkE) rfl HUS.out ⟨v'.heap.size, 0, none⟩ 1 1 (bkE (num, .slice a2 xs.length c2)) rfl rfl HCL.out (bkE_one num a2 xs.length c2) (by unfold maxLen; omega) (by omega) (by omega) ?_
            intro v5 w5 ho5 hg5 _
            have lo5 := World.ownsRow.lt HUS.out
            have hsn := RowB.snoc (num := num) bu_ne HOF.out HRF.out (by omega) (by omega) (by omega) (fun us' h' => by rw [ownsRow_same h' HUS.out]; exact ho5) hg5
            have hneq : ∀ B, B < w.heap.size + 3 → some B ≠ (Value.slice va X.length vc).ownBlock := fun B hB hq => by have := (lo5 B hq.symm).1; omega
            have ob5 := Blk.kept OBF.out hg5 (hneq _ (by omega))
            have cb5 := Blk.kept CBF.out hg5 (hneq _ (by omega))
            have rb5 := Blk.kept RBF.out hg5 (hneq _ (by omega))
            have b5 : Below w.heap.size w w5 := hb0F.grown hg5 (by omega) (fun j hj => by have := (lo5 j hj).1; omega)
            have hC5 : Chg (w.heap.size + 3) F.heap.size F w5 := Chg.of_grown hg5 (fun j hj => ⟨(lo5 j hj).1, (lo5 j hj).2⟩)
            obtain ⟨a5, c5, hv5, -, -⟩ := hsn.shape
            subst hv5
            have hz5 : w.heap.size + 3 ≤ w5.heap.size := by have := hg5.size; omega
            have x2 := ob5.cell 2
            have xf2 := ob5.frozen 2
            simp at x2
            have hblt : blk < w.heap.size := by
              obtain ⟨blk2, off2, _, _, _, _, q1, _, q2, _⟩ := ha.at hlt
              obtain ⟨rfl, rfl⟩ : blk = blk2 ∧ off = off2 := by simpa using q1
              exact block_lt_of_cell q2
            have hFl : w.heap.size < F.heap.size := by omega
            refine hK.out _ _ ⟨hC5.at hS.1 hFl (by omega), hC5.at hS.2.1 (by omega) (by omega), hC5.at hS.2.2.1 (by omega) (by omega), ⟨_, x2⟩, xf2⟩ (fun hS => ?_)
            clear hK K
            (try simp only [Act.put, List.getElem_toArray, List.getElem_cons_zero, List.getElem_cons_succ, List.setIfInBounds_toArray, List.set_cons_zero, List.set_cons_succ])
            refine wpAnyH_take (i := 18) (v := (.pointer (some ⟨w.heap.size + 2, 2, none⟩))) rfl (by as_aux_lemma => kernel_rfl) (by as_aux_lemma => kernel_rfl) (by as_aux_lemma => kernel_rfl) (fun _ _ _ h => h) (Or.inl ⟨by kernel_rfl, ?_⟩) hS ?_
            · intro w hSw; (try dsimp only at hSw); go_simp
            simp only [Act.put, List.getElem_toArray, List.getElem_cons_zero, List.getElem_cons_succ, List.setIfInBounds_toArray, List.set_cons_zero, List.set_cons_succ]
            refine wpAnyH_ready (rs := [19]) (by as_aux_lemma => kernel_rfl) (by simp) ?_
            refine AllReadyH.cons rfl (fun K hK => ?_) AllReadyH.nil
            go_simp
            have hq2 : ∀ {B i : Nat} {q : Value}, B ≠ w.heap.size + 2 → w5.cell? ⟨B, i, none⟩ = some q → (w5.setCell ⟨w.heap.size + 2, 2, none⟩ (.slice a5 (X.length + 1) c5)).cell? ⟨B, i, none⟩ = some q := fun hn hx => cell_of_grown (set_grown w5 (w.heap.size + 2) 2 (.slice a5 (X.length + 1) c5)) hn hx
            have ob6 := ob5.set (i := 2) (.slice a5 (X.length + 1) c5)
            refine hK.out _ _ ⟨hq2 (by omega) hS.1, hq2 hblk hS.2.1, hq2 hblk hS.2.2.1, ⟨_, by simpa using ob6.cell 2⟩, ob6.frozen 2⟩ (fun hS => ?_)
            clear hK K
            refine wpAnyH_done (by kernel_rfl) ?_ _
            clear hS hq2
            have cb6 := cb5.other (i := 2) (B' := w.heap.size + 2) (by omega) (.slice a5 (X.length + 1) c5)
            have rb6 := rb5.other (i := 2) (B' := w.heap.size + 2) (by omega) (.slice a5 (X.length + 1) c5)
            have hr6 := RowB.chg hsn (Chg.one (set_grown w5 (w.heap.size + 2) 2 (.slice a5 (X.length + 1) c5))) (.inr (by omega))
            have H6 : Hid _ := And.intro cb6 (And.intro rb6 (And.intro ob6 hr6))
            clear cb6 rb6 ob6 hr6 cb5 rb5 ob5 hsn hg5 ho5
            go_wp2
            go_roundw
            case rel =>
              refine ⟨k + 1, .slice a5 (X.length + 1) c5, by omega, by go_num, H6.out.1, H6.out.2.1, by simpa using H6.out.2.2.1, ?_, b5.setCell (by simp) _, by simpa [World.setCell] using hz5⟩
              rw [HY.out, List.length_append]
              simpa [World.setCell] using H6.out.2.2.2
            case measure => simp [intOf]; omega
      · have hcd : decide (num < D) = false := decide_eq_false hc
        have HY : Hid _ := stayB_no (p := pr) hx (by rw [HPR.out, ← HD.out]; exact hcd)
        rw [← hX] at HY
        clear hX hx
        have CB : Hid _ := cb
        have RB : Hid _ := rb
        have OB : Hid _ := ob
        have HO : Hid _ := ho
        clear cb rb ob ho
        go_wp2
        go_quiet (fail)
        go_wp2
        go_roundw
        case rel => exact ⟨k + 1, _, by omega, by go_num, CB.out, RB.out, by exact OB.out, by rw [HY.out]; exact HO.out, by first | exact hbw | exact below_drewN hbw _ | exact hbw.drew, by simpa using hzw⟩
        case measure => simp [intOf]; omega
    · obtain rfl : k = n := by omega
      rw [stayB_end (by omega)] at hX
      have d0 := rb.cell 0
      have d1 := rb.cell 1
      have d2 := rb.cell 2
      have df0 := rb.frozen 0
      have df1 := rb.frozen 1
      have df2 := rb.frozen 2
      have o0 := ob.cell 0
      have o1 := ob.cell 1
      have o2 := ob.cell 2
      simp at d0 d1 d2 o0 o1 o2
      have HX : Hid _ := hX
      have HO : Hid _ := ho
      have hgs : ∀ x y q, wr.grownBy (((wr.setCell ⟨w.heap.size + 1, 0, none⟩ x).setCell ⟨w.heap.size + 1, 1, none⟩ y).setCell ⟨w.heap.size + 1, 2, none⟩ q) (some (w.heap.size + 1)) := fun x y q => grownT (grownT (set_grown _ _ _ _) (set_grown _ _ _ _)) (set_grown _ _ _ _)
      clear hX ho cb rb ob
      go_wp2
      refine bodyPost_ret (v := .agg #[.int .i64 u, .int .i64 z, .slice va X.length vc]) (by simp [results, Try.results66, go_sem, d0, d1, d2]) rfl ⟨.slice va X.length vc, rfl, ?_, ?_⟩
      · rw [← HX.out]
        have hq := RowB.chg HO.out (Chg.one (hgs (.int .i64 u) (.int .i64 z) (.slice va X.length vc))) (.inr (by omega))
        exact hq.mono (by omega) (by simp [World.setCell])
      · exact ((hbw.setCell (by simp) _).setCell (by simp) _).setCell (by simp) _
end Go.Proofs.Ytckkkhabjfbngaa
